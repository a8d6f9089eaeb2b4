/- 'Pad' of wire. -/
import Derived.Test.YtdfjfafhpjoilaaDoorWr6
-- 30
import Derived.Test.YtdfjfafhpjoilaaDoorWr4
import Derived.Test.YtdfjfafhpjoilaaDoorWb1
namespace Go.Proofs.YtdfjfafhpjoilaaDoor
open Go.RowKit
set_option maxRecDepth 20000
set_option linter.unusedSimpArgs false

theorem bktL_in (n : Int) : ∀ l : List Int, (∀ b ∈ l, 128 ≤ b ∧ b ≤ 4096) → bktL n l = 0 ∨ (n + 2 ≤ bktL n l ∧ 128 ≤ bktL n l ∧ bktL n l ≤ 4096)
  | [], _ => .inl rfl
  | b :: l, h => by
    unfold bktL
    by_cases hb : n ≤ b - 2
    · rw [if_pos hb]
      have := h b (by simp)
      exact .inr ⟨by omega, this.1, this.2⟩
    · rw [if_neg hb]
      exact bktL_in n l (fun x hx => h x (List.mem_cons_of_mem _ hx))
theorem bucketN_in (n : Nat) : ∃ s : Nat, bucketN n = (s : Int) ∧ (s = 0 ∨ (n + 2 ≤ s ∧ 128 ≤ s ∧ s ≤ 4096)) := by
  have h : bucketN n = bktL n bTab := by unfold bucketN; rw [if_neg (by omega)]
  rw [h]
  rcases bktL_in n bTab (by decide) with h0 | h1
  · exact ⟨0, h0, .inl rfl⟩
  · exact ⟨(bktL n bTab).toNat, by omega, .inr ⟨by omega, by omega, by omega⟩⟩
/-- Bytes that are filled up to s. -/
def padL (z : List Int) (s : Nat) : List Int := be2 z.length ++ z ++ List.replicate (s - (z.length + 2)) 0
theorem padL_length (z : List Int) (s : Nat) (h : z.length + 2 ≤ s) : (padL z s).length = s := by
  unfold padL; simp [be2]; omega
end Go.Proofs.YtdfjfafhpjoilaaDoor
