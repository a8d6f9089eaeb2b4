/- CausalPlays, walked. -/
import Derived.Test.YtmoabomoodddkaaRb5
import Derived.Test.YtmoabomoodddkaaGoC
namespace Go.Proofs.Ytmoabomoodddkaa
open Go.RowKit Go.Shelf
set_option maxRecDepth 20000
set_option linter.unusedSimpArgs false
set_option maxHeartbeats 16000000 in
theorem cpl_walk (x : Option Addr) (len cap : Nat) (ds : List Ev) (w : World) (hd : EvsAt w x len cap ds) :
    Calls Try.prog 6 #[.slice x len cap] w fun e w' => e = .returned (.bool true) ∧ Below w.heap.size w w' := by
  have hpl := play_any x len cap ds w hd
  clear hd
  go_enter Try.func6, Try.ntmps6
  go_wp2_with (first
    | (go_at_call 26; refine (bsame_any n H b R S L w2 (hBB.far g2)).mono ?_; rintro e w3 ⟨rfl, g3⟩)
    | (go_at_call 12; refine (clive_any _).mono ?_; rintro e w2 ⟨rfl, g2⟩)
    | (go_at_call 25; refine hpl.mono ?_; rintro e w1 ⟨H, b, R, rfl, ⟨n, hn, S, L, hBB⟩, hB1, -, -, -⟩))
  go_ret
  have g4 := g2.trans (g3.mono g2.size)
  exact ⟨rfl, hB1.trans (g4.mono hB1.size)⟩
end Go.Proofs.Ytmoabomoodddkaa
