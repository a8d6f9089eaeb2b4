/- 'live' of the statements on poly: the document's example, by the kernel's own reckoning. The tag of no bytes, and with a first half of 0; 'half' of the statements. Bytes of a number, one by one. -/
import Derived.Test.YtfainlfiphdaeaaGreatDoorMPrPhPw
import Derived.Lib.SlBytesConst
import Derived.Test.YtfainlfiphdaeaaGreatDoorMPxPk0Py
namespace Go.Proofs.YtfainlfiphdaeaaGreatDoor
open Go.RowKit
set_option maxRecDepth 100000
set_option linter.unusedSimpArgs false

def liveK : List Int := [133, 214, 190, 120, 87, 85, 109, 51, 127, 68, 82, 254, 66, 213, 6, 168, 1, 3, 128, 138, 251, 13, 178, 253, 74, 191, 246, 175, 65, 73, 245, 27]
def liveM : List Int := [67, 114, 121, 112, 116, 111, 103, 114, 97, 112, 104, 105, 99, 32, 70, 111, 114, 117, 109, 32, 82, 101, 115, 101, 97, 114, 99, 104, 32, 71, 114, 111, 117, 112]
def liveT : List Int := [168, 6, 29, 193, 48, 81, 54, 198, 194, 43, 139, 175, 12, 1, 39, 169]
theorem live_tag : polyL liveK liveM = liveT := by kernel_rfl
theorem cellsU8P : Tryz.prog.cellsOf 5 = 1 := by kernel_rfl
theorem infoSomeU8P : (Tryz.prog.info? 5).isSome = true := by kernel_rfl
theorem eqTag (l m : List Int) (hl : l.length = 16) (hm : m.length = 16) (w : World) : (Op.equalIn 10000 149 (.agg (row .u8 l)) (.agg (row .u8 m))).run Tryz.prog w = .ok (l == m) w :=
  run_equalIn_rows w 9998 .u8 l m Tryz.underlying149 Tryz.underlying5 cellsU8P infoSomeU8P hl hm
theorem eq16 (l m : List Int) (hl : l.length = 16) (hm : m.length = 16) (w : World) : (Op.equalIn 10000 148 (.agg (row .u8 l)) (.agg (row .u8 m))).run Tryz.prog w = .ok (l == m) w :=
  run_equalIn_rows w 9998 .u8 l m Tryz.underlying148 Tryz.underlying5 cellsU8P infoSomeU8P hl hm
theorem guardTag : Tryz.prog.eqGuardType Tryz.prog.depth 149 = false := by kernel_rfl
theorem guard16 : Tryz.prog.eqGuardType Tryz.prog.depth 148 = false := by kernel_rfl
theorem bytes_marked (w : World) (l : List Int) (fr : Nat × Nat) (hl : l.length ≤ 4000000) : Bytes (w.alloc (.cells (row .u8 l) 5 fr)) (some ⟨w.heap.size, 0, none⟩) l.length l.length l :=
  ⟨rfl, Nat.le_refl _, by omega, (fun h => by cases h), .inr ⟨w.heap.size, 0, rfl, fun j hj => by
    rw [Nat.zero_add, cell_of_row _ w.heap.size j _ _ _ (heap_alloc_new w _), row_get .u8 l j hj]⟩⟩

end Go.Proofs.YtfainlfiphdaeaaGreatDoor

namespace Go.Proofs.YtfainlfiphdaeaaGreatDoor
open Go.RowKit
set_option maxRecDepth 100000
set_option linter.unusedSimpArgs false

theorem le16_leN (l : List Int) (hl : l.length = 16) (hb : ∀ v ∈ l, isB v) : le16 (leN l) = l := by
  obtain ⟨a0, a1, a2, a3, a4, a5, a6, a7, a8, a9, b0, b1, b2, b3, b4, b5, rfl⟩ := sixteen hl
  have c0 := hb a0 (by simp)
  have c1 := hb a1 (by simp)
  have c2 := hb a2 (by simp)
  have c3 := hb a3 (by simp)
  have c4 := hb a4 (by simp)
  have c5 := hb a5 (by simp)
  have c6 := hb a6 (by simp)
  have c7 := hb a7 (by simp)
  have c8 := hb a8 (by simp)
  have c9 := hb a9 (by simp)
  have d0 := hb b0 (by simp)
  have d1 := hb b1 (by simp)
  have d2 := hb b2 (by simp)
  have d3 := hb b3 (by simp)
  have d4 := hb b4 (by simp)
  have d5 := hb b5 (by simp)
  clear hb hl
  unfold isB at *
  simp only [leN]
  unfold le16
  simp only [List.cons.injEq, and_true]
  refine ⟨by omega, by omega, by omega, by omega, by omega, by omega, by omega, by omega, by omega, by omega, by omega, by omega, by omega, by omega, by omega, by omega⟩
theorem acc_zero (bs : List Int) : accF 0 bs = 0 := by
  unfold accF
  induction bs with
  | nil => rfl
  | cons b bs ih => rw [List.foldl_cons, Int.mul_zero, Int.zero_emod]; exact ih
theorem poly_none (k : List Int) (hk : k.length = 32) (hu : ∀ v ∈ k, isB v) : polyL k [] = k.drop 16 := by
  rw [poly_val k [] hk hu (by simp)]
  have e : accF (leN (clampL k)) ((List.range ((([] : List Int).length + 15) / 16)).map fun i => leN (blkP [] i)) = 0 := rfl
  rw [e, Int.zero_add]
  exact le16_leN _ (by rw [List.length_drop]; omega) (fun v hv => hu v (List.mem_of_mem_drop hv))
theorem poly_zero (k z : List Int) (hk : k.length = 32) (hu : ∀ v ∈ k, isB v) (hz : ∀ v ∈ z, isB v) (h0 : k.take 16 = List.replicate 16 0) : polyL k z = k.drop 16 := by
  rw [poly_val k z hk hu hz]
  have e : clampL k = List.replicate 16 0 := by rw [clampL_eq (k := k) h0]; decide
  have e2 : leN (List.replicate 16 0) = 0 := by decide
  rw [e, e2, acc_zero, Int.zero_add]
  exact le16_leN _ (by rw [List.length_drop]; omega) (fun v hv => hu v (List.mem_of_mem_drop hv))
theorem copyK_setP (c : List Int) (m i : Nat) (h : i < c.length) : (c.take i ++ List.replicate (m + 1) 0).set i (c[i]?.getD 0) = c.take (i + 1) ++ List.replicate m 0 := by
  rw [List.set_append_right _ _ (by rw [List.length_take]; omega), List.length_take, show i - min i c.length = 0 by omega, List.replicate_succ, List.set_cons_zero, take_next c i h, List.append_assoc]
  rfl
theorem zeroK_set (k : List Int) (i : Nat) (h : i < k.length) : (List.replicate i 0 ++ k.drop i).set i 0 = List.replicate (i + 1) 0 ++ k.drop (i + 1) := by
  rw [List.set_append_right _ _ (by simp), List.length_replicate, Nat.sub_self, List.drop_eq_getElem_cons h, List.set_cons_zero, List.replicate_succ', List.append_assoc]
  rfl

end Go.Proofs.YtfainlfiphdaeaaGreatDoor

namespace Go.Proofs.YtfainlfiphdaeaaGreatDoor
open Go.RowKit
set_option maxRecDepth 20000

/-- So many bytes of a number, the lowest first. -/
def leB : Nat → Int → List Int
  | 0, _ => []
  | j + 1, n => n % 256 :: leB j (n / 256)
theorem le16_leB (n : Int) : le16 n = leB 16 n := by
  simp only [leB, le16]
  simp only [List.cons.injEq, and_true, true_and]
  refine ⟨by omega, by omega, by omega, by omega, by omega, by omega, by omega, by omega, by omega, by omega, by omega, by omega, by omega, by omega⟩
theorem le16_in (n : Int) : ∀ v ∈ le16 n, isB v := by
  intro v hv
  unfold le16 at hv
  simp only [List.mem_cons, List.not_mem_nil, or_false] at hv
  unfold isB
  omega
end Go.Proofs.YtfainlfiphdaeaaGreatDoor
