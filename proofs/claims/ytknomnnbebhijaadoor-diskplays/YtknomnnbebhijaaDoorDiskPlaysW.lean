/- The statement DiskPlays, walked. -/
import Derived.Test.YtknomnnbebhijaaDoorDx6
namespace Go.Proofs.YtknomnnbebhijaaDoor
open Go.RowKit Go.Shelf
set_option maxRecDepth 20000
set_option linter.unusedSimpArgs false

set_option maxHeartbeats 4000000 in
theorem diskPlays_walk (x : Option Addr) (len cap : Nat) (ds : List Dd) (w : World) (hd : DeedsAt w x len cap ds) (hKT : S.KTab w) :
    Calls Tryd.prog 3 #[.slice x len cap] w fun e w' => e = .returned (.bool true) ∧ Below w.heap.size w w' := by
  have hP := play_any x len cap ds w hd hKT
  go_enter Tryd.func3, Tryd.ntmps3
  go_wp2_with (first
    | (go_at_call 9; refine hP.mono ?_; rintro e w1 ⟨D, R, rfl, ⟨v, u, z, s, hB1⟩, hb1⟩)
    | (go_at_call 10; refine (dLive_any w1 (hKT.below hb1)).mono ?_; rintro e w2 ⟨rfl, hb2⟩)
    | (go_at_call 11; refine (same_any _ D R v u z s w2 (hB1.far hb2) (hKT.below (hb1.trans (hb2.mono hb1.size)))).mono ?_; rintro e w3 ⟨rfl, hb3⟩))
  go_ret
  have hb12 := hb1.trans (hb2.mono hb1.size)
  exact ⟨rfl, hb12.trans (hb3.mono hb12.size)⟩
end Go.Proofs.YtknomnnbebhijaaDoor
