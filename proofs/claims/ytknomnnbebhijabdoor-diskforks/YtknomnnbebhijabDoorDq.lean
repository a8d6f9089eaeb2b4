/- disk: whole records of bytes with others behind them, as plain lists. -/
import Derived.Test.YtknomnnbebhijabDoorDp
namespace Go.Proofs.YtknomnnbebhijabDoor

theorem firstN_parts (z : List Int) (h : firstN z ≠ 0) : ¬ z.length < 10 ∧ ¬ z.length < toldN z ∧ firstN z = toldN z ∧ z.take 10 = headL ((z.drop 10).take (toldN z - 10)) := by
  unfold firstN at h ⊢
  by_cases h1 : z.length < 10
  · rw [if_pos h1] at h; omega
  · rw [if_neg h1] at h ⊢
    by_cases h2 : z.length < toldN z
    · rw [if_pos h2] at h; omega
    · rw [if_neg h2] at h ⊢
      by_cases h3 : z.take 10 = headL ((z.drop 10).take (toldN z - 10))
      · exact ⟨h1, h2, if_pos h3, h3⟩
      · rw [if_neg h3] at h; omega
theorem toldN_append (z r : List Int) (h : ¬ z.length < 10) : toldN (z ++ r) = toldN z := by
  unfold toldN
  rw [List.getElem?_append_left (by omega), List.getElem?_append_left (by omega)]
theorem firstN_append (z r : List Int) (h : firstN z ≠ 0) : firstN (z ++ r) = firstN z := by
  obtain ⟨h1, h2, h3, h4⟩ := firstN_parts z h
  have ht := toldN_append z r h1
  rw [h3]
  unfold firstN
  rw [ht, if_neg (by rw [List.length_append]; omega), if_neg (by rw [List.length_append]; omega), if_pos]
  rw [List.take_append_of_le_length (by omega), List.drop_append_of_le_length (by omega), List.take_append_of_le_length (by rw [List.length_drop]; omega)]
  exact h4
theorem firstN_take (z : List Int) (h : firstN z ≠ 0) : firstN (z.take (firstN z)) = firstN z := by
  obtain ⟨h1, h2, h3, h4⟩ := firstN_parts z h
  have hle := firstN_le z
  have hge := firstN_ge z h
  have hl : (z.take (firstN z)).length = firstN z := by rw [List.length_take]; omega
  have ht : toldN (z.take (firstN z)) = toldN z := by
    unfold toldN
    rw [List.getElem?_take_of_lt (by omega), List.getElem?_take_of_lt (by omega)]
  unfold firstN
  rw [show (if z.length < 10 then 0 else if z.length < toldN z then 0 else if z.take 10 = headL ((z.drop 10).take (toldN z - 10)) then toldN z else 0) = firstN z from rfl]
  rw [ht, hl, if_neg (by omega), if_neg (by omega), if_pos, h3]
  rw [List.take_take, Nat.min_eq_left (by omega), List.drop_take, List.take_take, Nat.min_eq_left (by omega)]
  exact h4
theorem recsL_begins : ∀ (N : Nat) (z r : List Int), z.length ≤ N → ∃ t, recsL (z ++ r) = recsL z ++ t
  | 0, z, r, h => by
    have : z = [] := List.length_eq_zero_iff.1 (by omega)
    subst this
    exact ⟨recsL r, by rw [recsL_none [] (by unfold firstN; rw [if_pos (by decide)])]; rfl⟩
  | N + 1, z, r, h => by
    by_cases h0 : firstN z = 0
    · exact ⟨recsL (z ++ r), by rw [recsL_none z h0]; rfl⟩
    · have hle := firstN_le z
      have hge := firstN_ge z h0
      obtain ⟨t, ht⟩ := recsL_begins N (z.drop (firstN z)) r (by rw [List.length_drop]; omega)
      have ha := firstN_append z r h0
      refine ⟨t, ?_⟩
      rw [recsL_some (z ++ r) (by omega), recsL_some z h0, ha, List.drop_append_of_le_length hle, ht, List.drop_append_of_le_length (by omega), List.take_append_of_le_length (by rw [List.length_drop]; omega)]
      rfl
theorem whole_take : ∀ (N : Nat) (z : List Int), z.length ≤ N → recsL (z.take (trimN z)) = recsL z ∧ trimN (z.take (trimN z)) = trimN z
  | 0, z, h => by
    have : z = [] := List.length_eq_zero_iff.1 (by omega)
    subst this
    exact ⟨by rw [List.take_nil], by rw [List.take_nil]⟩
  | N + 1, z, h => by
    by_cases h0 : firstN z = 0
    · have hn : firstN [] = 0 := by unfold firstN; rw [if_pos (by decide)]
      rw [trimN_none z h0, List.take_zero, recsL_none z h0, recsL_none [] hn, trimN_none [] hn]
      exact ⟨rfl, rfl⟩
    · have hle := firstN_le z
      have hge := firstN_ge z h0
      obtain ⟨h1, h2⟩ := whole_take N (z.drop (firstN z)) (by rw [List.length_drop]; omega)
      have hft := firstN_take z h0
      have e : z.take (trimN z) = z.take (firstN z) ++ (z.drop (firstN z)).take (trimN (z.drop (firstN z))) := by rw [trimN_some z h0, List.take_add]
      have hl : (z.take (firstN z)).length = firstN z := by rw [List.length_take]; omega
      have ha := firstN_append (z.take (firstN z)) ((z.drop (firstN z)).take (trimN (z.drop (firstN z)))) (by omega)
      rw [hft] at ha
      obtain ⟨t, ht⟩ : ∃ t, (z.drop (firstN z)).take (trimN (z.drop (firstN z))) = t := ⟨_, rfl⟩
      rw [ht] at e ha h1 h2
      rw [e]
      constructor
      · rw [recsL_some (z.take (firstN z) ++ t) (by omega), ha, List.drop_left' hl, h1, recsL_some z h0]
        congr 1
        rw [List.drop_append_of_le_length (by omega), List.take_append_of_le_length (by rw [List.length_drop]; omega), List.drop_take, List.take_take, Nat.min_eq_left (by omega)]
      · rw [trimN_some (z.take (firstN z) ++ t) (by omega), ha, List.drop_left' hl, h2, ← trimN_some z h0]
theorem recsL_join : ∀ (N : Nat) (z r : List Int), z.length ≤ N → trimN z = z.length → recsL (z ++ r) = recsL z ++ recsL r
  | 0, z, r, h, _ => by
    have : z = [] := List.length_eq_zero_iff.1 (by omega)
    subst this
    rw [recsL_none [] (by unfold firstN; rw [if_pos (by decide)])]; rfl
  | N + 1, z, r, h, ht => by
    by_cases h0 : firstN z = 0
    · rw [trimN_none z h0] at ht
      have : z = [] := List.length_eq_zero_iff.1 ht.symm
      subst this
      rw [recsL_none [] h0]; rfl
    · have hle := firstN_le z
      have hge := firstN_ge z h0
      rw [trimN_some z h0] at ht
      have ih := recsL_join N (z.drop (firstN z)) r (by rw [List.length_drop]; omega) (by rw [List.length_drop]; omega)
      have ha := firstN_append z r h0
      rw [recsL_some (z ++ r) (by omega), recsL_some z h0, ha, List.drop_append_of_le_length hle, ih, List.drop_append_of_le_length (by omega), List.take_append_of_le_length (by rw [List.length_drop]; omega)]
      rfl
/-- How many bytes the first so many rows take. -/
def lensK (rs : List (List Int)) (k : Nat) : Nat := ((rs.take k).map fun r => 10 + r.length).sum
theorem lensK_succ (rs : List (List Int)) (k : Nat) (h : k < rs.length) : lensK rs (k + 1) = lensK rs k + (10 + rs[k].length) := by
  unfold lensK
  rw [List.take_succ_eq_append_getElem h, List.map_append, List.sum_append]
  simp only [List.map_cons, List.map_nil, List.sum_cons, List.sum_nil, Nat.add_zero]
theorem lensK_cons (r : List Int) (rs : List (List Int)) (k : Nat) : lensK (r :: rs) (k + 1) = 10 + r.length + lensK rs k := by simp [lensK]
theorem lensK_recs : ∀ (N : Nat) (z : List Int), z.length ≤ N → lensK (recsL z) (recsL z).length = trimN z
  | 0, z, h => by
    have : z = [] := List.length_eq_zero_iff.1 (by omega)
    subst this
    have hn : firstN [] = 0 := by unfold firstN; rw [if_pos (by decide)]
    rw [recsL_none [] hn, trimN_none [] hn]; rfl
  | N + 1, z, h => by
    by_cases h0 : firstN z = 0
    · rw [recsL_none z h0, trimN_none z h0]; rfl
    · have hle := firstN_le z
      have hge := firstN_ge z h0
      have ih := lensK_recs N (z.drop (firstN z)) (by rw [List.length_drop]; omega)
      rw [recsL_some z h0, List.length_cons, lensK_cons, ih, trimN_some z h0, List.length_take, List.length_drop]
      omega
theorem lensK_le (rs : List (List Int)) (k : Nat) (hk : k ≤ rs.length) : lensK rs k ≤ lensK rs rs.length := by
  have : ∀ (d : Nat), k + d ≤ rs.length → lensK rs k ≤ lensK rs (k + d) := fun d => by
    induction d with
    | zero => intro _; exact Nat.le_refl _
    | succ d ih =>
      intro h
      have := ih (by omega)
      have h2 := lensK_succ rs (k + d) (by omega)
      rw [show k + (d + 1) = k + d + 1 by omega]
      omega
  have h := this (rs.length - k) (by omega)
  rwa [show k + (rs.length - k) = rs.length by omega] at h
end Go.Proofs.YtknomnnbebhijabDoor
