/- A row of numbers of the call's own, written at one place; a row as it is read out of the world. -/
import Derived.Test.YtnblcdpahpcglaaRc
import Derived.Test.YtnblcdpahpcglaaRq
namespace Go.Proofs.Ytnblcdpahpcglaa
open Go.RowKit
set_option maxRecDepth 20000

theorem OwnI.opened {w : World} {base : Nat} {v : Value} {z : List Int} (h : OwnI w base v z) (hz : 0 < z.length) : ∃ g cap, v = .slice (some ⟨g, 0, none⟩) z.length cap ∧ base ≤ g ∧ cap ≤ 9223372036854775807 ∧ z.length ≤ cap ∧ (∀ j, j < z.length → w.cell? ⟨g, j, none⟩ = some (.int .i64 (z[j]?.getD 0))) ∧ (∀ j, w.frozen? ⟨g, j, none⟩ = false) ∧ ∀ j, j < z.length → ∀ u, OwnI (w.setCell ⟨g, j, none⟩ (.int .i64 u)) base (.slice (some ⟨g, 0, none⟩) z.length cap) (z.set j u) := by
  obtain ⟨g', cap', e1, e2, e3, e4, e5⟩ := h.slice hz
  rcases h.2 with ⟨_, h0⟩ | ⟨g, cap, cur, hv, hb, hg, hc, hm, hs, ht⟩
  · omega
  · rw [e1] at hv
    cases hv
    refine ⟨g', cap', e1, e2, e3, e4, e5, fun j => frozen_of_row w g' j _ _ hg, fun j hj u => ?_⟩
    refine ⟨by simp, .inr ⟨g', cap', _, by rw [List.length_set], hb, heap_setCell_same w g' j _ _ _ hg, by rw [List.length_set]; exact hc, hm, by simpa using hs, ?_⟩⟩
    rw [List.length_set, List.map_set, ← ht]
    simp [List.take_set]
/-- What lies in the row. -/
def readI (w : World) : Value → List Int
  | .slice (some a) n _ => (List.range n).map fun j => match w.cell? ⟨a.block, j, none⟩ with
    | some (.int _ u) => u
    | _ => 0
  | _ => []
theorem readI_eq {w : World} {x : Option Addr} {len cap : Nat} {z : List Int} (h : Ints w x len cap z) (hl : 0 < len) : readI w (.slice x len cap) = z := by
  rcases h.at_ with h0 | ⟨b, rfl, hc⟩
  · omega
  · have hz := h.len_eq
    refine List.ext_getElem (by simp [readI, hz]) fun i h1 h2 => ?_
    simp only [readI, List.getElem_map, List.getElem_range]
    rw [hc i (by omega), List.getElem?_eq_getElem h2]
    rfl
end Go.Proofs.Ytnblcdpahpcglaa
