/- Gate: two or three operations that may come up, with what holds all the while. -/
import Derived.Test.YtgmbmdmbnpkbbaaMGate3Gate4
namespace Go.Proofs.Ytgmbmdmbnpkbbaa
open Go Go.RowKit

section
variable {P : Program} {ops : Array Oper} {Q : Exit → Act → World → Prop} {md : Region.Mode} {T S : World → Prop} {D : Nat}
theorem wpAnyT_two {i j : Nat} {oi oj : Oper} {fuel : Nat} {listed : Array Bool} {a : Act} {w : World} (hi : ops[i]? = some oi) (hj : ops[j]? = some oj) (hr : Region.ready md ops listed = [i, j])
    (hwi : Region.wanted oi (yielded ops a.tmps) = true) (hwj : Region.wanted oj (yielded ops a.tmps) = true)
    (h1 : ∀ K' : Act → World → Prop, Shut (∀ a w, T w → ((listed.setIfInBounds i true).getD D true = false → S w) → wpAnyT P md ops Q T S D fuel (listed.setIfInBounds i true) a w → K' a w) → Oper.wp P oi a w K' Q)
    (h2 : ∀ K' : Act → World → Prop, Shut (∀ a w, T w → ((listed.setIfInBounds j true).getD D true = false → S w) → wpAnyT P md ops Q T S D fuel (listed.setIfInBounds j true) a w → K' a w) → Oper.wp P oj a w K' Q) : wpAnyT P md ops Q T S D (fuel + 1) listed a w :=
  ⟨fun h0 => (by rw [hr] at h0; cases h0), fun q hq => by
    rw [hr] at hq
    rcases List.mem_cons.1 hq with rfl | hq
    · refine wpOp_step hi (fun K' hK => ?_)
      rw [if_pos hwi]
      exact h1 K' (fun a w h0 h1 h2 => hK a w ⟨⟨h0, h1⟩, h2⟩)
    · obtain rfl : q = j := by simpa using hq
      refine wpOp_step hj (fun K' hK => ?_)
      rw [if_pos hwj]
      exact h2 K' (fun a w h0 h1 h2 => hK a w ⟨⟨h0, h1⟩, h2⟩)⟩
theorem wpAnyT_three {i j l : Nat} {oi oj ol : Oper} {fuel : Nat} {listed : Array Bool} {a : Act} {w : World} (hi : ops[i]? = some oi) (hj : ops[j]? = some oj) (hl : ops[l]? = some ol) (hr : Region.ready md ops listed = [i, j, l])
    (hwi : Region.wanted oi (yielded ops a.tmps) = true) (hwj : Region.wanted oj (yielded ops a.tmps) = true) (hwl : Region.wanted ol (yielded ops a.tmps) = true)
    (h1 : ∀ K' : Act → World → Prop, Shut (∀ a w, T w → ((listed.setIfInBounds i true).getD D true = false → S w) → wpAnyT P md ops Q T S D fuel (listed.setIfInBounds i true) a w → K' a w) → Oper.wp P oi a w K' Q)
    (h2 : ∀ K' : Act → World → Prop, Shut (∀ a w, T w → ((listed.setIfInBounds j true).getD D true = false → S w) → wpAnyT P md ops Q T S D fuel (listed.setIfInBounds j true) a w → K' a w) → Oper.wp P oj a w K' Q)
    (h3 : ∀ K' : Act → World → Prop, Shut (∀ a w, T w → ((listed.setIfInBounds l true).getD D true = false → S w) → wpAnyT P md ops Q T S D fuel (listed.setIfInBounds l true) a w → K' a w) → Oper.wp P ol a w K' Q) : wpAnyT P md ops Q T S D (fuel + 1) listed a w :=
  ⟨fun h0 => (by rw [hr] at h0; cases h0), fun q hq => by
    rw [hr] at hq
    rcases List.mem_cons.1 hq with rfl | hq
    · refine wpOp_step hi (fun K' hK => ?_)
      rw [if_pos hwi]
      exact h1 K' (fun a w h0 h1 h2 => hK a w ⟨⟨h0, h1⟩, h2⟩)
    · rcases List.mem_cons.1 hq with rfl | hq
      · refine wpOp_step hj (fun K' hK => ?_)
        rw [if_pos hwj]
        exact h2 K' (fun a w h0 h1 h2 => hK a w ⟨⟨h0, h1⟩, h2⟩)
      · obtain rfl : q = l := by simpa using hq
        refine wpOp_step hl (fun K' hK => ?_)
        rw [if_pos hwl]
        exact h3 K' (fun a w h0 h1 h2 => hK a w ⟨⟨h0, h1⟩, h2⟩)⟩
end
end Go.Proofs.Ytgmbmdmbnpkbbaa

