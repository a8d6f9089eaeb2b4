/- disk: records that were written one behind the other, cut anywhere. -/
import Derived.Test.YtknomnnbebhijaaDoorDq
namespace Go.Proofs.YtknomnnbebhijaaDoor

def flatR (rs : List (List Int)) : List Int := (rs.map recL).flatten
theorem flatR_cons (r : List Int) (rs : List (List Int)) : flatR (r :: rs) = recL r ++ flatR rs := by simp [flatR]
theorem flatR_append (a b : List (List Int)) : flatR (a ++ b) = flatR a ++ flatR b := by simp [flatR]
theorem flatR_snoc (rs : List (List Int)) (r : List Int) : flatR (rs ++ [r]) = flatR rs ++ recL r := by simp [flatR]
theorem firstN_nil : firstN [] = 0 := by unfold firstN; rw [if_pos (by decide)]
theorem flatR_recs : ∀ (rs : List (List Int)), (∀ r ∈ rs, r.length < 65536) → recsL (flatR rs) = rs ∧ trimN (flatR rs) = (flatR rs).length
  | [], _ => ⟨recsL_none [] firstN_nil, trimN_none [] firstN_nil⟩
  | r :: rs, h => by
    have hr := h r (by simp)
    obtain ⟨h1, h2⟩ := flatR_recs rs fun q hq => h q (by simp [hq])
    have hf := firstN_rec r (flatR rs) hr
    rw [flatR_cons]
    refine ⟨by rw [recsL_rec r _ hr, h1], ?_⟩
    rw [trimN_some _ (by omega), hf, List.drop_left' (recL_length r), h2, List.length_append, recL_length]
theorem flatR_length : ∀ (rs : List (List Int)), (flatR rs).length = lensK rs rs.length
  | [] => rfl
  | r :: rs => by rw [flatR_cons, List.length_append, recL_length, flatR_length rs, List.length_cons, lensK_cons]
theorem lensK_take (rs : List (List Int)) (k : Nat) : lensK (rs.take k) (rs.take k).length = lensK rs k := by
  unfold lensK
  rw [List.take_length]
/-- How many of the first k records end by kp. -/
def wholeC (rs : List (List Int)) (kp : Nat) : Nat → Nat
  | 0 => 0
  | k + 1 => if lensK rs (k + 1) ≤ kp then wholeC rs kp k + 1 else wholeC rs kp k
theorem wholeC_le (rs : List (List Int)) (kp k : Nat) : wholeC rs kp k ≤ k := by
  induction k with
  | zero => exact Nat.le_refl _
  | succ k ih => unfold wholeC; split <;> omega
theorem wholeC_all (rs : List (List Int)) (kp k : Nat) (hk : k ≤ rs.length) (h : lensK rs k ≤ kp) : wholeC rs kp k = k := by
  induction k with
  | zero => rfl
  | succ k ih =>
    have h1 := lensK_succ rs k (by omega)
    have h2 := ih (by omega) (by omega)
    unfold wholeC
    rw [if_pos h, h2]
theorem wholeC_ends (rs : List (List Int)) (kp k : Nat) (hk : k ≤ rs.length) : lensK rs (wholeC rs kp k) ≤ kp := by
  induction k with
  | zero => simp [wholeC, lensK]
  | succ k ih =>
    have h1 := lensK_succ rs k (by omega)
    unfold wholeC
    split
    · rename_i h
      rw [wholeC_all rs kp k (by omega) (by omega)]
      exact h
    · exact ih (by omega)
theorem torn_recs (rs : List (List Int)) (kp k : Nat) (h : ∀ r ∈ rs.take k, r.length < 65536) (hk : k ≤ rs.length) : ∃ q, recsL ((flatR (rs.take k)).take kp) = rs.take (wholeC rs kp k) ++ q := by
  have hj := wholeC_le rs kp k
  have he := wholeC_ends rs kp k hk
  generalize wholeC rs kp k = j at hj he
  have e : rs.take k = rs.take j ++ (rs.take k).drop j := by
    have := (List.take_append_drop j (rs.take k)).symm
    rwa [List.take_take, Nat.min_eq_left hj] at this
  have hs : ∀ r ∈ rs.take j, r.length < 65536 := fun r hr => h r (by rw [e]; exact List.mem_append_left _ hr)
  obtain ⟨h1, h2⟩ := flatR_recs (rs.take j) hs
  have hl : (flatR (rs.take j)).length = lensK rs j := by rw [flatR_length, lensK_take rs j]
  rw [e, flatR_append, List.take_append, List.take_of_length_le (by omega)]
  exact ⟨recsL ((flatR ((rs.take k).drop j)).take (kp - (flatR (rs.take j)).length)), by rw [recsL_join _ _ _ (Nat.le_refl _) h2, h1]⟩
end Go.Proofs.YtknomnnbebhijaaDoor
