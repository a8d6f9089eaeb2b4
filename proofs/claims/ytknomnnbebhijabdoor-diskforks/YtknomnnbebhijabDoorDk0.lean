/- disk: records of bytes, as plain lists. -/
import Derived.Test.YtknomnnbebhijabDoorSum
import Derived.Test.YtknomnnbebhijabDoorGb
namespace Go.Proofs.YtknomnnbebhijabDoor
open Go.RowKit

/-- What stands ahead of a record's data. -/
def headL (b : List Int) : List Int := [((b.length / 256 % 256 : Nat) : Int), ((b.length % 256 : Nat) : Int)] ++ (S.sumL b).take 8
def recL (b : List Int) : List Int := headL b ++ b
theorem headL_length (b : List Int) : (headL b).length = 10 := by simp [headL, S.sumL_length]
theorem recL_length (b : List Int) : (recL b).length = 10 + b.length := by rw [recL, List.length_append, headL_length]
/-- How long the record at the beginning says to be. -/
def toldN (z : List Int) : Nat := 10 + (z[0]?.getD 0).toNat * 256 + (z[1]?.getD 0).toNat
/-- How many bytes the record at the beginning has; 0, if it isn't whole. -/
def firstN (z : List Int) : Nat :=
  if z.length < 10 then 0 else if z.length < toldN z then 0 else if z.take 10 = headL ((z.drop 10).take (toldN z - 10)) then toldN z else 0
theorem firstN_le (z : List Int) : firstN z ≤ z.length := by
  unfold firstN
  split
  · omega
  · split
    · omega
    · split <;> omega
theorem firstN_ge (z : List Int) (h : firstN z ≠ 0) : 10 ≤ firstN z := by
  unfold firstN at h ⊢
  split at h
  · omega
  · split at h
    · omega
    · split at h
      · rename_i h1 h2 h3
        rw [if_neg h1, if_neg h2, if_pos h3]; unfold toldN; omega
      · omega
/-- The lengths of the whole records. -/
def wholeN (z : List Int) : List Nat :=
  if firstN z = 0 then [] else firstN z :: wholeN (z.drop (firstN z))
termination_by z.length
decreasing_by
  rename_i h
  have := firstN_le z
  rw [List.length_drop]; omega
def sumK (ns : List Nat) (k : Nat) : Nat := (ns.take k).sum
theorem wholeN_none (z : List Int) (h : firstN z = 0) : wholeN z = [] := by rw [wholeN, if_pos h]
theorem wholeN_some (z : List Int) (h : firstN z ≠ 0) : wholeN z = firstN z :: wholeN (z.drop (firstN z)) := by rw [wholeN, if_neg h]
theorem sumK_zero (ns : List Nat) : sumK ns 0 = 0 := rfl
theorem sumK_succ (ns : List Nat) (k : Nat) (h : k < ns.length) : sumK ns (k + 1) = sumK ns k + ns[k] := by
  unfold sumK; rw [List.take_succ_eq_append_getElem h, List.sum_append]; simp
theorem sumK_cons (n : Nat) (ns : List Nat) (k : Nat) : sumK (n :: ns) (k + 1) = n + sumK ns k := by simp [sumK]
/-- Behind k whole records the next one is the k-th; behind all there is none. -/
theorem wholeN_at : ∀ (N : Nat) (z : List Int), (wholeN z).length = N → ∀ k, (∀ h : k < (wholeN z).length, firstN (z.drop (sumK (wholeN z) k)) = (wholeN z)[k]) ∧ (k = (wholeN z).length → firstN (z.drop (sumK (wholeN z) k)) = 0) ∧ (k ≤ (wholeN z).length → sumK (wholeN z) k ≤ z.length)
  | 0, z, hN, k => by
    have h0 : firstN z = 0 := by
      by_cases h : firstN z = 0
      · exact h
      · rw [wholeN_some z h] at hN; simp at hN
    rw [wholeN_none z h0]
    refine ⟨fun h => by simp at h, fun h => ?_, fun h => ?_⟩
    · simp [sumK, h0]
    · simp [sumK]
  | N + 1, z, hN, k => by
    have h0 : firstN z ≠ 0 := fun h => by rw [wholeN_none z h] at hN; simp at hN
    have hle := firstN_le z
    have hN' : (wholeN (z.drop (firstN z))).length = N := by rw [wholeN_some z h0] at hN; simpa using hN
    cases k with
    | zero =>
      rw [sumK_zero, List.drop_zero]
      refine ⟨fun h => by simp only [wholeN_some z h0, List.getElem_cons_zero], fun h => by rw [hN] at h; omega, fun _ => Nat.zero_le _⟩
    | succ k =>
      obtain ⟨ih1, ih2, ih3⟩ := wholeN_at N (z.drop (firstN z)) hN' k
      rw [List.drop_drop] at ih1 ih2
      have e : sumK (wholeN z) (k + 1) = firstN z + sumK (wholeN (z.drop (firstN z))) k := by rw [wholeN_some z h0, sumK_cons]
      rw [e]
      refine ⟨fun h => ?_, fun h => ih2 (by rw [hN] at h; omega), fun h => ?_⟩
      · rw [ih1 (by rw [hN] at h; omega)]
        simp only [wholeN_some z h0, List.getElem_cons_succ]
      · have := ih3 (by rw [hN] at h; omega)
        rw [List.length_drop] at this; omega
theorem wholeN_pos (z : List Int) (k : Nat) (h : k < (wholeN z).length) : 10 ≤ (wholeN z)[k] := by
  have h1 := (wholeN_at _ z rfl k).1 h
  have h2 := (wholeN_at _ z rfl (k + 1)).2.2 (by omega)
  rw [sumK_succ _ _ h] at h2
  have : ∀ q : List Int, firstN q = (wholeN z)[k] → (wholeN z)[k] ≠ 0 → 10 ≤ (wholeN z)[k] := fun q hq h0 => by rw [← hq] at h0 ⊢; exact firstN_ge q h0
  refine this _ h1 fun h0 => ?_
  -- a length of 0 stands nowhere in the row
  have hall : ∀ (N : Nat) (q : List Int), (wholeN q).length = N → ∀ n ∈ wholeN q, n ≠ 0 := fun N => by
    induction N with
    | zero => intro q hq n hn; rw [List.length_eq_zero_iff.1 hq] at hn; cases hn
    | succ N ih =>
      intro q hq n hn
      by_cases hf : firstN q = 0
      · rw [wholeN_none q hf] at hq; simp at hq
      · rw [wholeN_some q hf] at hq hn
        rcases List.mem_cons.1 hn with rfl | hn
        · exact hf
        · exact ih _ (by simpa using hq) n hn
  exact hall _ z rfl _ (List.getElem_mem h) h0
/-- The data of the whole records. -/
def dataK (z : List Int) (k : Nat) : List Int := (z.drop (sumK (wholeN z) k + 10)).take ((wholeN z)[k]?.getD 0 - 10)
def recsL (z : List Int) : List (List Int) := (List.range (wholeN z).length).map (dataK z)
theorem recsL_length (z : List Int) : (recsL z).length = (wholeN z).length := by simp [recsL]
/-- How many bytes the whole records are. -/
def trimN (z : List Int) : Nat := sumK (wholeN z) (wholeN z).length
theorem trimN_le (z : List Int) : trimN z ≤ z.length := (wholeN_at _ z rfl _).2.2 (Nat.le_refl _)
def isB (z : List Int) : Prop := ∀ v ∈ z, 0 ≤ v ∧ v ≤ 255
end Go.Proofs.YtknomnnbebhijabDoor
