/- The readers of wire: a dot. -/
import Derived.Test.YtkgbcnfkakdncaaDoorRe1
namespace Go.Proofs.YtkgbcnfkakdncaaDoor
open Go.RowKit
set_option maxRecDepth 20000
set_option linter.unusedSimpArgs false

theorem CellsAt.frozen2 {w : World} {g : Nat} {t : TypeId} {cs : List Value} (h : CellsAt w g t cs) (j : Nat) : w.frozen? ⟨g, j, none⟩ = false := frozen_of_row w g j _ t h
theorem CellsAt.set2 {w : World} {g : Nat} {t : TypeId} {cs : List Value} (h : CellsAt w g t cs) (j : Nat) (v : Value) : CellsAt (w.setCell ⟨g, j, none⟩ v) g t (cs.set j v) := by
  unfold CellsAt at h ⊢
  rw [heap_setCell_same w g j _ t _ h]; simp
theorem CellsAt.setOther2 {w : World} {g : Nat} {t : TypeId} {cs : List Value} (h : CellsAt w g t cs) (a : Addr) (v : Value) (hne : g ≠ a.block) : CellsAt (w.setCell a v) g t cs := by
  unfold CellsAt at h ⊢
  rw [heap_setCell_other w a g v hne]; exact h
theorem CellsAt.setRowOther2 {w : World} {g g' : Nat} {t : TypeId} {cs : List Value} (h : CellsAt w g t cs) (cs' : Array Value) (hne : g ≠ g') : CellsAt (w.setRow g' cs') g t cs := by
  unfold CellsAt at h ⊢; rw [setRow_other w g' g cs' hne]; exact h
theorem CellsAt.whole2 {w : World} {g : Nat} {t : TypeId} {cs : List Value} (h : CellsAt w g t cs) : w.rangeAt g 0 cs := fun j v hv => by rw [Nat.zero_add, h.cell]; exact hv
theorem dot_one (a s : Int) : ∀ v ∈ dotC a s, v.oneCell' = true := by
  intro v hv
  unfold dotC at hv
  simp only [List.mem_cons, List.not_mem_nil, or_false] at hv
  rcases hv with rfl | rfl <;> rfl

end Go.Proofs.YtkgbcnfkakdncaaDoor
