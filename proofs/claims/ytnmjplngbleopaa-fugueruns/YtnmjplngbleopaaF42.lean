/- FugueRunsV -/
import Derived.Test.YtnmjplngbleopaaF41
import Derived.Test.YtnmjplngbleopaaF13
namespace Go.Proofs.Ytnmjplngbleopaa
open Go.RowKit
theorem runs_row (x : Option Addr) (len cap : Nat) (L : List Dd8) (iv : Int) (l : List Int) (w : World) (hL : DeedsAt w x len cap L) (h0 : 0 ≤ iv) (h1 : iv ≤ 255) (hl : l.length = 2) (hu : ∀ y ∈ l, (Lit.int .u8 y).wf = true) :
    Calls Try.prog 3 #[.slice x len cap, .int .u8 iv, .agg (row .u8 l)] w fun e w' => e = .returned (.bool true) ∧ Below w.heap.size w w' := by
  match l, hl with
  | [a, b], _ => exact runs_walk x len cap L iv a b w hL ⟨h0, h1⟩ (wfU8 (hu a (by simp))) (wfU8 (hu b (by simp)))
end Go.Proofs.Ytnmjplngbleopaa
