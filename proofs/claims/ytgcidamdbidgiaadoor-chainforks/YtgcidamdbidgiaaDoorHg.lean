/- chain: what holds of all proofs that were noted. -/
import Derived.Test.YtgcidamdbidgiaaDoorMMgFkHp
namespace Go.Proofs.YtgcidamdbidgiaaDoor
open Go.RowKit
set_option maxRecDepth 20000
set_option linter.unusedSimpArgs false

/-- A proof of two unlike digests for a number that was reached. -/
def goodP (T : Sms) (p : Pf) : Prop := ∃ a n : Nat, p.1 = (a : Int) ∧ a < 8 ∧ p.2.1 = (n : Int) ∧ 1 ≤ n ∧ n ≤ cnt T a ∧ p.2.2.1 ≠ p.2.2.2
structure Good (T : Sms) (P : List Pf) : Prop where
  all : ∀ p ∈ P, goodP T p
  once : P.Nodup
theorem good_no : Good noS [] := ⟨fun _ h => (by cases h), List.nodup_nil⟩
theorem Good.note {T : Sms} {P : List Pf} (h : Good T P) {p : Pf} (hp : goodP T p) : Good T (noteP P p) := by
  unfold noteP
  split
  · exact h
  · rename_i q
    refine ⟨fun x hx => ?_, ?_⟩
    · rcases List.mem_append.1 hx with h1 | h1
      · exact h.all x h1
      · rw [List.mem_singleton.1 h1]; exact hp
    · rw [List.nodup_append]
      refine ⟨h.once, by simp, fun x hx y hy e => ?_⟩
      rw [List.mem_singleton.1 hy] at e
      exact q (.inl (by rw [← e]; exact hx))
theorem Good.noteAll {T : Sms} : ∀ (l : List Pf) {P : List Pf}, Good T P → (∀ p ∈ l, goodP T p) → Good T (noteAll P l)
  | [], _, h, _ => h
  | p :: l, P, h, hl => by
    have : Go.Proofs.YtgcidamdbidgiaaDoor.noteAll P (p :: l) = Go.Proofs.YtgcidamdbidgiaaDoor.noteAll (noteP P p) l := rfl
    rw [this]
    exact Good.noteAll l (h.note (hl p (by simp))) (fun q hq => hl q (by simp [hq]))
theorem Good.add {T : Sms} {P : List Pf} (h : Good T P) (hT : OkS T) (a : Nat) (k : List Int) : Good (addS T a k) P := ⟨fun p hp => by
  obtain ⟨b, n, h1, h2, h3, h4, h5, h6⟩ := h.all p hp
  refine ⟨b, n, h1, h2, h3, h4, ?_, h6⟩
  by_cases e : b = a
  · subst e; rw [cnt_add hT]; omega
  · rw [cnt_add_ne T a b k e]; exact h5, h.once⟩
theorem good_found {T : Sms} (l : List (Int × List Int)) : ∀ n, n ≤ 8 → ∀ p ∈ foundN T l n, goodP T p
  | 0, _, _, hp => by simp [foundN] at hp
  | n + 1, hn, p, hp => by
    rw [foundN_succ] at hp
    rcases List.mem_append.1 hp with h | h
    · exact good_found l n (by omega) p h
    · unfold foundAt at h
      split at h
      · rename_i q
        rw [List.mem_singleton.1 h]
        generalize l[n]?.getD (0, zk) = x at q ⊢
        exact ⟨n, x.1.toNat, rfl, by omega, by show x.1 = _; omega, by omega, q.2.1, q.2.2⟩
      · cases h
theorem Good.step {T : Sms} {P : List Pf} (h : Good T P) (hT : OkS T) (a n : Nat) (prev sum : List Int) : Good (addSt T P a n prev sum).1 (addSt T P a n prev sum).2 := by
  unfold addSt
  split
  · exact h.add hT a sum
  · split
    · rename_i q0 q
      refine h.note ?_
      unfold lookN at q
      split at q
      · omega
      · rename_i q1
        have h8 : ¬ 8 ≤ a := fun x => q1 (.inl x)
        have h0 : ¬ n = 0 := fun x => q1 (.inr (.inl x))
        unfold proofN
        split at q
        · rename_i q2
          rw [if_pos q2]
          split at q
          · omega
          · rename_i q3
            exact ⟨a, n, rfl, by omega, rfl, by omega, q2, q3⟩
        · rename_i q2
          rw [if_neg q2]
          split at q
          · omega
          · split at q
            · omega
            · rename_i q4
              split at q
              · omega
              · rename_i q5
                exact ⟨a, cnt T a, rfl, by omega, rfl, by omega, Nat.le_refl _, fun e => q4 e.symm⟩
    · exact h
end Go.Proofs.YtgcidamdbidgiaaDoor
