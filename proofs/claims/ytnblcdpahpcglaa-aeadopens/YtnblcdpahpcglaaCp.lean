/- The reference's rounds, one quarter after the other, and its bytes, one after the other. -/
import Derived.Test.YtnblcdpahpcglaaCi
namespace Go.Proofs.Ytnblcdpahpcglaa
open Go.RowKit

/-- The places of the eight quarters. -/
def whL : List Int := [0, 4, 8, 12, 1, 5, 9, 13, 2, 6, 10, 14, 3, 7, 11, 15, 0, 5, 10, 15, 1, 6, 11, 12, 2, 7, 8, 13, 3, 4, 9, 14]
def pl (i j : Nat) : Nat := (whL[4 * (i % 8) + j]?.getD 0).toNat
/-- The words behind i quarters. -/
def qN (s : List Int) : Nat → List Int
  | 0 => s
  | i + 1 => qAt (qN s i) (pl i 0) (pl i 1) (pl i 2) (pl i 3)
theorem qN_length (s : List Int) (i : Nat) : (qN s i).length = s.length := by
  induction i with
  | zero => rfl
  | succ i ih => simp only [qN, qAt_length, ih]
theorem pl_mod (i r j : Nat) (h : i % 8 = r) : pl i j = (whL[4 * r + j]?.getD 0).toNat := by unfold pl; rw [h]
theorem qN_eight (s : List Int) (j : Nat) : qN s (8 * (j + 1)) = slantL (downL (qN s (8 * j))) := by
  have e : 8 * (j + 1) = 8 * j + 1 + 1 + 1 + 1 + 1 + 1 + 1 + 1 := by omega
  rw [e]
  simp only [qN]
  simp only [pl_mod (8 * j) 0 _ (by omega), pl_mod (8 * j + 1) 1 _ (by omega), pl_mod (8 * j + 1 + 1) 2 _ (by omega), pl_mod (8 * j + 1 + 1 + 1) 3 _ (by omega),
    pl_mod (8 * j + 1 + 1 + 1 + 1) 4 _ (by omega), pl_mod (8 * j + 1 + 1 + 1 + 1 + 1) 5 _ (by omega), pl_mod (8 * j + 1 + 1 + 1 + 1 + 1 + 1) 6 _ (by omega), pl_mod (8 * j + 1 + 1 + 1 + 1 + 1 + 1 + 1) 7 _ (by omega)]
  rfl
theorem qN_rounds (s : List Int) (j : Nat) : qN s (8 * j) = roundsL s j := by
  induction j with
  | zero => rfl
  | succ j ih => rw [qN_eight, ih]; rfl
/-- Four places of one quarter: below 16, no two alike; as the table's cells have them. -/
theorem places (i : Nat) : ∃ a b c d : Nat, pl i 0 = a ∧ pl i 1 = b ∧ pl i 2 = c ∧ pl i 3 = d ∧ a < 16 ∧ b < 16 ∧ c < 16 ∧ d < 16 ∧ a ≠ b ∧ a ≠ c ∧ a ≠ d ∧ b ≠ c ∧ b ≠ d ∧ c ≠ d ∧
    whL[4 * (i % 8)]?.getD 0 = (a : Int) ∧ whL[4 * (i % 8) + 1]?.getD 0 = (b : Int) ∧ whL[4 * (i % 8) + 2]?.getD 0 = (c : Int) ∧ whL[4 * (i % 8) + 3]?.getD 0 = (d : Int) := by
  have h : i % 8 = 0 ∨ i % 8 = 1 ∨ i % 8 = 2 ∨ i % 8 = 3 ∨ i % 8 = 4 ∨ i % 8 = 5 ∨ i % 8 = 6 ∨ i % 8 = 7 := by omega
  unfold pl
  rcases h with h | h | h | h | h | h | h | h <;> rw [h] <;> exact ⟨_, _, _, _, rfl, rfl, rfl, rfl, by decide⟩
theorem joinK_get (s : List Int) (k i : Nat) (h : i < 4 * k) : (joinK s k)[i]?.getD 0 = at' s (i / 4) / 2 ^ (8 * (i % 4)) % 256 := by
  induction k with
  | zero => omega
  | succ k ih =>
    simp only [joinK]
    by_cases hlt : i < 4 * k
    · rw [List.getElem?_append_left (by rw [joinK_length]; exact hlt)]; exact ih hlt
    · rw [List.getElem?_append_right (by rw [joinK_length]; omega), joinK_length]
      have hq : i / 4 = k := by omega
      have : i - 4 * k = 0 ∨ i - 4 * k = 1 ∨ i - 4 * k = 2 ∨ i - 4 * k = 3 := by omega
      rw [hq]
      rcases this with h0 | h0 | h0 | h0
      · have hr : i % 4 = 0 := by omega
        rw [h0, hr]; simp [bytesL]
      · have hr : i % 4 = 1 := by omega
        rw [h0, hr]; rfl
      · have hr : i % 4 = 2 := by omega
        rw [h0, hr]; rfl
      · have hr : i % 4 = 3 := by omega
        rw [h0, hr]; rfl
/-- The first i of a row, noughts behind. -/
def upTo (l : List Int) (i : Nat) : List Int := l.take i ++ List.replicate (l.length - i) 0
theorem upTo_length (l : List Int) (i : Nat) (h : i ≤ l.length) : (upTo l i).length = l.length := by simp [upTo]; omega
theorem upTo_zero (l : List Int) : upTo l 0 = List.replicate l.length 0 := by simp [upTo]
theorem upTo_all (l : List Int) : upTo l l.length = l := by simp [upTo]
theorem upTo_set (l : List Int) (i : Nat) (h : i < l.length) : (upTo l i).set i (l[i]?.getD 0) = upTo l (i + 1) := by
  have hl : (l.take i).length = i := by rw [List.length_take]; omega
  have := set_next (l.take i) (l.length - (i + 1)) (l[i]?.getD 0)
  rw [hl] at this
  unfold upTo
  rw [show l.length - i = l.length - (i + 1) + 1 by omega, this, take_next l i h]
end Go.Proofs.Ytnblcdpahpcglaa
