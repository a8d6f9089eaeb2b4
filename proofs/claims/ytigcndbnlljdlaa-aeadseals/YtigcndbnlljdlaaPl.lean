/- 'live' of the statements on poly: the document's example, by the kernel's own reckoning. -/
import Derived.Test.YtigcndbnlljdlaaPh
import Derived.Lib.SlBytesConst
namespace Go.Proofs.Ytigcndbnlljdlaa
open Go.RowKit
set_option maxRecDepth 100000
set_option linter.unusedSimpArgs false

def liveK : List Int := [133, 214, 190, 120, 87, 85, 109, 51, 127, 68, 82, 254, 66, 213, 6, 168, 1, 3, 128, 138, 251, 13, 178, 253, 74, 191, 246, 175, 65, 73, 245, 27]
def liveM : List Int := [67, 114, 121, 112, 116, 111, 103, 114, 97, 112, 104, 105, 99, 32, 70, 111, 114, 117, 109, 32, 82, 101, 115, 101, 97, 114, 99, 104, 32, 71, 114, 111, 117, 112]
def liveT : List Int := [168, 6, 29, 193, 48, 81, 54, 198, 194, 43, 139, 175, 12, 1, 39, 169]
theorem live_tag : polyL liveK liveM = liveT := by kernel_rfl
theorem cellsU8P : Try.prog.cellsOf 5 = 1 := by kernel_rfl
theorem infoSomeU8P : (Try.prog.info? 5).isSome = true := by kernel_rfl
theorem eqTag (l m : List Int) (hl : l.length = 16) (hm : m.length = 16) (w : World) : (Op.equalIn 10000 39 (.agg (row .u8 l)) (.agg (row .u8 m))).run Try.prog w = .ok (l == m) w :=
  run_equalIn_rows w 9998 .u8 l m Try.underlying39 Try.underlying5 cellsU8P infoSomeU8P hl hm
theorem eq16 (l m : List Int) (hl : l.length = 16) (hm : m.length = 16) (w : World) : (Op.equalIn 10000 38 (.agg (row .u8 l)) (.agg (row .u8 m))).run Try.prog w = .ok (l == m) w :=
  run_equalIn_rows w 9998 .u8 l m Try.underlying38 Try.underlying5 cellsU8P infoSomeU8P hl hm
theorem guardTag : Try.prog.eqGuardType Try.prog.depth 39 = false := by kernel_rfl
theorem guard16 : Try.prog.eqGuardType Try.prog.depth 38 = false := by kernel_rfl
theorem bytes_marked (w : World) (l : List Int) (fr : Nat × Nat) (hl : l.length ≤ 4000000) : Bytes (w.alloc (.cells (row .u8 l) 5 fr)) (some ⟨w.heap.size, 0, none⟩) l.length l.length l :=
  ⟨rfl, Nat.le_refl _, by omega, (fun h => by cases h), .inr ⟨w.heap.size, 0, rfl, fun j hj => by
    rw [Nat.zero_add, cell_of_row _ w.heap.size j _ _ _ (heap_alloc_new w _), row_get .u8 l j hj]⟩⟩

end Go.Proofs.Ytigcndbnlljdlaa
