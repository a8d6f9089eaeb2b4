/- 'live' of the statements on poly: the document's example, by the kernel's own reckoning. -/
import Derived.Test.YtnblcdpahpcglaaPh
import Derived.Lib.SlBytesConst
namespace Go.Proofs.Ytnblcdpahpcglaa
open Go.RowKit
set_option maxRecDepth 100000
set_option linter.unusedSimpArgs false

def liveK : List Int := [133, 214, 190, 120, 87, 85, 109, 51, 127, 68, 82, 254, 66, 213, 6, 168, 1, 3, 128, 138, 251, 13, 178, 253, 74, 191, 246, 175, 65, 73, 245, 27]
def liveM : List Int := [67, 114, 121, 112, 116, 111, 103, 114, 97, 112, 104, 105, 99, 32, 70, 111, 114, 117, 109, 32, 82, 101, 115, 101, 97, 114, 99, 104, 32, 71, 114, 111, 117, 112]
def liveT : List Int := [168, 6, 29, 193, 48, 81, 54, 198, 194, 43, 139, 175, 12, 1, 39, 169]
theorem live_tag : polyL liveK liveM = liveT := by kernel_rfl
theorem cellsU8P : Try.prog.cellsOf 5 = 1 := by kernel_rfl
theorem infoSomeU8P : (Try.prog.info? 5).isSome = true := by kernel_rfl
theorem eqTag (l m : List Int) (hl : l.length = 16) (hm : m.length = 16) (w : World) : (Op.equalIn 10000 28 (.agg (row .u8 l)) (.agg (row .u8 m))).run Try.prog w = .ok (l == m) w :=
  run_equalIn_rows w 9998 .u8 l m Try.underlying28 Try.underlying5 cellsU8P infoSomeU8P hl hm
theorem eq16 (l m : List Int) (hl : l.length = 16) (hm : m.length = 16) (w : World) : (Op.equalIn 10000 27 (.agg (row .u8 l)) (.agg (row .u8 m))).run Try.prog w = .ok (l == m) w :=
  run_equalIn_rows w 9998 .u8 l m Try.underlying27 Try.underlying5 cellsU8P infoSomeU8P hl hm
theorem guardTag : Try.prog.eqGuardType Try.prog.depth 28 = false := by kernel_rfl
theorem guard16 : Try.prog.eqGuardType Try.prog.depth 27 = false := by kernel_rfl
theorem bytes_marked (w : World) (l : List Int) (fr : Nat × Nat) (hl : l.length ≤ 4000000) : Bytes (w.alloc (.cells (row .u8 l) 5 fr)) (some ⟨w.heap.size, 0, none⟩) l.length l.length l :=
  ⟨rfl, Nat.le_refl _, by omega, (fun h => by cases h), .inr ⟨w.heap.size, 0, rfl, fun j hj => by
    rw [Nat.zero_add, cell_of_row _ w.heap.size j _ _ _ (heap_alloc_new w _), row_get .u8 l j hj]⟩⟩

set_option maxHeartbeats 2000000 in
theorem live4_any (w : World) :
    Calls Try.prog 10 #[] w fun e w' => e = .returned (.bool true) ∧ Below w.heap.size w w' := by
  have hP := fun (wx : World) (x : Option Addr) (h : Bytes wx x 34 34 liveM) => psum_any liveK x 34 34 liveM wx rfl h (by omega)
  rw [live_tag] at hP
  have hE := fun wx => eqTag liveT liveT rfl rfl wx
  rw [beq_self_eq_true] at hE
  have hE2 : ∀ wx, (Op.equalIn 10000 28 (.agg (row .u8 liveT)) (.agg #[.int .u8 168, .int .u8 6, .int .u8 29, .int .u8 193, .int .u8 48, .int .u8 81, .int .u8 54, .int .u8 198, .int .u8 194, .int .u8 43, .int .u8 139, .int .u8 175, .int .u8 12, .int .u8 1, .int .u8 39, .int .u8 169])).run Try.prog wx = .ok true wx := hE
  clear hE
  have hgd := guardTag
  have kc := fun (w : World) (C : Array Value) (n c : Nat) => Lib.run_convert_bytes_const (P := Try.prog) w 24 5 C n c Try.underlying24 Try.underlying5
  have hN := Holds.new w .u8 23 (List.replicate 32 0)
  go_enter Try.func10, Try.ntmps10
  go_upto_region 2 with (refine wpList_st rfl 23 _ _ rfl _ rfl (k := .u8) (l := liveK) rfl hN sizeKeyP rfl ?_)
  refine forget (p := fun y => Code.wp _ _ _ _ y) (fun W0 => Below w.heap.size w W0 ∧ Holds W0 w.heap.size .u8 23 liveK) ⟨below_setRow ((Below.refl _ _).alloc (Nat.le_refl _) _) (Nat.le_refl _) _, hN.setRow _⟩ ?_
  clear hN
  rintro W0 ⟨hB0, hK0⟩
  simp only [Act.put]
  have hb1 : Below W0.heap.size W0 (W0.alloc (.cells (row .u8 liveM) 5 (34, 35))) := (Below.refl _ _).alloc (Nat.le_refl _) _
  have hP1 := hP (W0.alloc (.cells (row .u8 liveM) 5 (34, 35))) (some ⟨W0.heap.size, 0, none⟩) (bytes_marked W0 liveM (34, 35) (by decide))
  go_upto_region 3 with (first
    | (refine wpList_ld rfl 23 _ rfl _ rfl hK0 Try.underlying23 sizeKeyP rfl ?_)
    | (go_at_call 11; refine hP1.mono ?_; rintro e w2 ⟨rfl, hb2⟩; have hN2 := Holds.new w2 .u8 28 (List.replicate 16 0))
    | (refine wpList_st rfl 28 _ _ rfl _ rfl rfl hN2 sizeTag rfl ?_))
  have hB2 : Below w.heap.size w w2 := (hB0.trans (hb1.mono hB0.size)).trans (hb2.mono (by have := hB0.size; simp; omega))
  refine forget (p := fun y => Code.wp _ _ _ _ y) (fun W3 => Below w.heap.size w W3 ∧ Holds W3 w2.heap.size .u8 28 liveT) ⟨below_setRow (hB2.alloc hB2.size _) hB2.size _, hN2.setRow _⟩ ?_
  clear hN2 hb2 hP1 hb1 hK0 hB0 hP kc hB2
  rintro W3 ⟨hB3, hT3⟩
  simp only [Act.put]
  go_wp2_with (refine wpList_ld rfl 28 _ rfl _ rfl hT3 Try.underlying28 sizeTag rfl ?_)
  go_ret
  exact ⟨rfl, hB3⟩
end Go.Proofs.Ytnblcdpahpcglaa
