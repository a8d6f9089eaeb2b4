/- Gate: two operations that may come up, in either order; a place where ways meet again. -/
import Derived.Test.YtgmbmdmbnpkbbaaMGateGate2
namespace Go.Proofs.Ytgmbmdmbnpkbbaa
open Go Go.RowKit

section
variable {P : Program} {ops : Array Oper} {Q : Exit → Act → World → Prop} {md : Region.Mode} {S : World → Prop} {D : Nat}
/-- One of the two that may come up comes up. -/
theorem wpAnyG_two {i j : Nat} {oi oj : Oper} {fuel : Nat} {listed : Array Bool} {a : Act} {w : World} (hi : ops[i]? = some oi) (hj : ops[j]? = some oj) (hr : Region.ready md ops listed = [i, j])
    (hwi : Region.wanted oi (yielded ops a.tmps) = true) (hwj : Region.wanted oj (yielded ops a.tmps) = true)
    (h1 : ∀ K' : Act → World → Prop, Shut (∀ a w, ((listed.setIfInBounds i true).getD D true = false → S w) → wpAnyG P md ops Q S D fuel (listed.setIfInBounds i true) a w → K' a w) → Oper.wp P oi a w K' Q)
    (h2 : ∀ K' : Act → World → Prop, Shut (∀ a w, ((listed.setIfInBounds j true).getD D true = false → S w) → wpAnyG P md ops Q S D fuel (listed.setIfInBounds j true) a w → K' a w) → Oper.wp P oj a w K' Q) : wpAnyG P md ops Q S D (fuel + 1) listed a w :=
  ⟨fun h0 => (by rw [hr] at h0; cases h0), fun q hq => by
    rw [hr] at hq
    rcases List.mem_cons.1 hq with rfl | hq
    · refine wpOp_step hi (fun K' hK => ?_)
      rw [if_pos hwi]
      exact h1 K' (fun a w h1 h2 => hK a w ⟨h1, h2⟩)
    · obtain rfl : q = j := by simpa using hq
      refine wpOp_step hj (fun K' hK => ?_)
      rw [if_pos hwj]
      exact h2 K' (fun a w h1 h2 => hK a w ⟨h1, h2⟩)⟩
end
/-- Ways that end alike: the end is proved once. -/
theorem meet {α : Prop} (R : Nat → Value → World → Prop) (C : Nat → Value → World → Prop) (use : Veil (∀ g v w, R g v w → C g v w) → α) (prove : ∀ g v w, R g v w → C g v w) : α := use ⟨prove⟩
end Go.Proofs.Ytgmbmdmbnpkbbaa

