/- The tag of one short block under a first half of 1: rows of bytes, added. -/
import Derived.Test.YteolgonoodfniacPz2
namespace Go.Proofs.Yteolgonoodfniac
open Go.RowKit
set_option maxRecDepth 20000
set_option linter.unusedSimpArgs false

/-- Two rows of bytes, added. -/
def addB : Int → List Int → List Int → List Int
  | c, x :: xs, y :: ys => (c + x + y) % 256 :: addB ((c + x + y) / 256) xs ys
  | _, _, _ => []
theorem addB_leB : ∀ (xs ys : List Int) (c : Int), xs.length = ys.length → addB c xs ys = leB xs.length (c + leN xs + leN ys)
  | [], [], c, _ => rfl
  | [], y :: ys, c, h => by simp at h
  | x :: xs, [], c, h => by simp at h
  | x :: xs, y :: ys, c, h => by
    have ih := addB_leB xs ys ((c + x + y) / 256) (by simpa using h)
    simp only [addB, leN, List.length_cons, leB]
    rw [ih, show (c + (x + 256 * leN xs) + (y + 256 * leN ys)) % 256 = (c + x + y) % 256 by omega, show (c + (x + 256 * leN xs) + (y + 256 * leN ys)) / 256 = (c + x + y) / 256 + leN xs + leN ys by omega]
/-- What is carried, and what stands, step by step. -/
def oneC (s y : List Int) : Nat → Int
  | 0 => 0
  | i + 1 => (oneC s y i + s[i]?.getD 0 + y[i]?.getD 0) / 256
def oneK (s y : List Int) : Nat → List Int
  | 0 => List.replicate 16 0
  | i + 1 => (oneK s y i).set i ((oneC s y i + s[i]?.getD 0 + y[i]?.getD 0) % 256)
theorem oneK_length (s y : List Int) (i : Nat) : (oneK s y i).length = 16 := by
  induction i with
  | zero => rfl
  | succ i ih => simp [oneK, ih]
theorem oneK_eq (s y : List Int) (hs : s.length = 16) (hy : y.length = 16) : oneK s y 16 = leB 16 (leN s + leN y) := by
  obtain ⟨a0, a1, a2, a3, a4, a5, a6, a7, a8, a9, b0, b1, b2, b3, b4, b5, rfl⟩ := sixteen hs
  obtain ⟨e0, e1, e2, e3, e4, e5, e6, e7, e8, e9, f0, f1, f2, f3, f4, f5, rfl⟩ := sixteen hy
  have h := addB_leB [a0, a1, a2, a3, a4, a5, a6, a7, a8, a9, b0, b1, b2, b3, b4, b5] [e0, e1, e2, e3, e4, e5, e6, e7, e8, e9, f0, f1, f2, f3, f4, f5] 0 rfl
  rw [Int.zero_add] at h
  exact Eq.trans rfl h
theorem oneC_in (s y : List Int) (hs : ∀ i : Nat, (0 : Int) ≤ s[i]?.getD (0 : Int) ∧ s[i]?.getD (0 : Int) ≤ 255) (hy : ∀ i : Nat, (0 : Int) ≤ y[i]?.getD (0 : Int) ∧ y[i]?.getD (0 : Int) ≤ 255) (i : Nat) : 0 ≤ oneC s y i ∧ oneC s y i ≤ 1 := by
  induction i with
  | zero => simp [oneC]
  | succ i ih =>
    have h1 := hs i
    have h2 := hy i
    simp only [oneC]
    omega
theorem getB {z : List Int} (h : ∀ v ∈ z, isB v) (k : Nat) : (0 : Int) ≤ z[k]?.getD (0 : Int) ∧ z[k]?.getD (0 : Int) ≤ 255 := by
  by_cases hk : k < z.length
  · rw [List.getElem?_eq_getElem hk]; exact h _ (List.getElem_mem hk)
  · rw [List.getElem?_eq_none (by omega)]; simp
/-- The one block of up to 15 bytes. -/
theorem blk_one (z : List Int) (hz : z.length ≤ 15) (i : Nat) (hi : i < 16) : ((blkP z 0).take 16)[i]?.getD 0 = if i < z.length then z[i]?.getD 0 else if i = z.length then 1 else 0 := by
  rw [List.getElem?_take_of_lt hi]
  unfold blkP
  rw [Nat.mul_zero, List.drop_zero, List.take_of_length_le (by omega), List.getElem?_set]
  by_cases h1 : z.length = i
  · have hlen : z.length < (z ++ List.replicate (17 - z.length) 0).length := by rw [List.length_append, List.length_replicate]; omega
    subst h1
    rw [if_pos rfl, if_pos hlen, if_neg (by omega), if_pos rfl]
    rfl
  · rw [if_neg h1]
    by_cases h2 : i < z.length
    · rw [if_pos h2, List.getElem?_append_left h2]
    · rw [if_neg h2, if_neg (fun h => h1 h.symm), List.getElem?_append_right (by omega), List.getElem?_replicate]
      split <;> rfl
theorem poly_one (k z : List Int) (hk : k.length = 32) (hu : ∀ v ∈ k, isB v) (hz : ∀ v ∈ z, isB v) (h0 : 0 < z.length) (h1 : z.length ≤ 15) (ht : k.take 16 = [1, 0, 0, 0, 0, 0, 0, 0, 0, 0, 0, 0, 0, 0, 0, 0]) :
    polyL k z = oneK (k.drop 16) ((blkP z 0).take 16) 16 := by
  have hbl := blkP_length z 0
  have hbi := blkP_in' z hz 0
  have hy : ((blkP z 0).take 16).length = 16 := by rw [List.length_take, hbl]; rfl
  rw [poly_val k z hk hu hz, oneK_eq _ _ (by rw [List.length_drop]; omega) hy]
  have ec : clampL k = [1, 0, 0, 0, 0, 0, 0, 0, 0, 0, 0, 0, 0, 0, 0, 0] := by rw [clampL_eq ht]; decide
  have el : leN [1, 0, 0, 0, 0, 0, 0, 0, 0, 0, 0, 0, 0, 0, 0, 0] = 1 := by decide
  have en : (z.length + 15) / 16 = 1 := by omega
  have hl : leN (blkP z 0) = leN ((blkP z 0).take 16) ∧ 0 ≤ leN ((blkP z 0).take 16) ∧ leN ((blkP z 0).take 16) < 340282366920938463463374607431768211456 := by
    have h16 : (blkP z 0)[16]?.getD 0 = 0 := by
      unfold blkP
      rw [Nat.mul_zero, List.drop_zero, List.take_of_length_le (by omega), List.getElem?_set_ne (by omega), List.getElem?_append_right (by omega), List.getElem?_replicate]
      split <;> rfl
    obtain ⟨z0, z1, z2, z3, z4, z5, z6, z7, y0, y1, y2, y3, y4, y5, y6, y7, t, hB⟩ := seventeen hbl
    rw [hB] at h16 hbi ⊢
    have ht0 : t = 0 := h16
    subst ht0
    have e : ([z0, z1, z2, z3, z4, z5, z6, z7, y0, y1, y2, y3, y4, y5, y6, y7, (0 : Int)]).take 16 = [z0, z1, z2, z3, z4, z5, z6, z7, y0, y1, y2, y3, y4, y5, y6, y7] := rfl
    rw [e, leN17, leN16, Int.zero_mul, Int.add_zero]
    have c0 := hbi z0 (by simp)
    have c1 := hbi z1 (by simp)
    have c2 := hbi z2 (by simp)
    have c3 := hbi z3 (by simp)
    have c4 := hbi z4 (by simp)
    have c5 := hbi z5 (by simp)
    have c6 := hbi z6 (by simp)
    have c7 := hbi z7 (by simp)
    have d0 := hbi y0 (by simp)
    have d1 := hbi y1 (by simp)
    have d2 := hbi y2 (by simp)
    have d3 := hbi y3 (by simp)
    have d4 := hbi y4 (by simp)
    have d5 := hbi y5 (by simp)
    have d6 := hbi y6 (by simp)
    have d7 := hbi y7 (by simp)
    clear hbi e h16 hB
    unfold isB at *
    unfold N16
    refine ⟨rfl, by omega, by omega⟩
  rw [ec, el, en, le16_leB]
  have ea : accF 1 ((List.range 1).map fun i => leN (blkP z i)) = leN ((blkP z 0).take 16) := by
    have e1 : accF 1 ((List.range 1).map fun i => leN (blkP z i)) = (0 + leN (blkP z 0)) * 1 % 1361129467683753853853498429727072845819 := rfl
    rw [e1, hl.1, Int.zero_add, Int.mul_one]
    exact Int.emod_eq_of_lt hl.2.1 (by omega)
  rw [ea, Int.add_comm]

end Go.Proofs.Yteolgonoodfniac
