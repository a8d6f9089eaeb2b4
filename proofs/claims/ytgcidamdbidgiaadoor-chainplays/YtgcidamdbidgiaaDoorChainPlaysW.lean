/- The statement ChainPlays, walked. -/
import Derived.Test.YtgcidamdbidgiaaDoorHz3
namespace Go.Proofs.YtgcidamdbidgiaaDoor
open Go.RowKit
set_option maxRecDepth 20000
set_option linter.unusedSimpArgs false

set_option maxHeartbeats 8000000 in
theorem chainPlays_walk (x : Option Addr) (len cap : Nat) (ds : List Dc) (w : World) (hd : DeedsC w x len cap ds) (hKT : S.KTab w) :
    Calls Tryd.prog 3 #[.slice x len cap] w fun e w' => e = .returned (.bool true) ∧ Below w.heap.size w w' := by
  have hP := playC_any x len cap ds w hd hKT
  have HKT : Veil (∀ W, Below w.heap.size w W → S.KTab W) := ⟨fun W hb => hKT.below hb⟩
  clear hd hKT
  go_enter Tryd.func3, Tryd.ntmps3
  go_wp2_with (first
    | (go_at_call 11; refine hP.mono ?_; rintro e w1 ⟨H, b, R, rfl, ⟨v, us, vp, T, P, hB1⟩, hb1⟩; have hlv := live_any w1 (HKT.out w1 hb1); clear hP)
    | (go_at_call 12; refine hlv.mono ?_; rintro e w2 ⟨rfl, hb2⟩; have hB2 := hB1.far hb2; have hsm := sameC_any _ _ _ _ _ _ _ _ _ w2 hB2; have hbw2 := hb1.trans (hb2.mono hb1.size); clear hlv hB1)
    | (go_at_call 13; refine hsm.mono ?_; rintro e w3 ⟨rfl, hb3⟩))
  go_ret
  exact ⟨rfl, hbw2.trans (hb3.mono hbw2.size)⟩
end Go.Proofs.YtgcidamdbidgiaaDoor
