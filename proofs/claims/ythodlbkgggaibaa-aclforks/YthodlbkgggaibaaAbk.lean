/- acl: another book with the same. -/
import Derived.Shelf.SlMaps.Clone
import Derived.Test.YthodlbkgggaibaaAb10
namespace Go.Proofs.Ythodlbkgggaibaa
open Go.RowKit Go.Shelf
set_option maxRecDepth 20000
set_option linter.unusedSimpArgs false
theorem mapDotEnt : Try.prog.underlying 69 = some (.map 38 68) := by kernel_rfl
set_option maxHeartbeats 4000000 in
theorem aClone_any (b : Nat) (L : List Ent) (w : World) (hW : BookAt w b L) :
    Calls Try.prog 38 #[.map (some b)] w fun e w' => e = .returned (.map (some w.heap.size)) ∧ BookAt w' w.heap.size L ∧ Below w.heap.size w w' := by
  obtain ⟨D, ⟨es, clock, hb, hrest⟩, hD⟩ := hW
  have hq := fun w => run_eql_map_nil_sl (P := Try.prog) w 69 _ _ (some b) mapDotEnt
  go_enter Try.func38, Try.ntmps38
  go_wp2
  rw [run_callFunc_extern Try.func45 (by kernel_rfl) (by kernel_rfl) (by kernel_rfl) (e := Extern.MapsClone.clone) (by kernel_rfl), run_maps_clone_sl w 69 hb]
  simp only [Result.andThen]
  rw [Oper.upon_value]
  go_wp2
  rw [run_typeAssert_map_sl _ 69 _ _ _ _ mapDotEnt]
  simp only [Result.andThen]
  rw [Oper.upon_value]
  go_wp2
  go_ret
  exact ⟨rfl, ⟨D, ⟨es, clock, heap_alloc_new w _, hrest⟩, hD⟩, (Below.refl _ _).alloc (Nat.le_refl _) _⟩
set_option maxHeartbeats 4000000 in
theorem abfork_any (H b : Nat) (L : List Ent) (w : World) (hC : BookC w H b L) :
    Calls Try.prog 22 #[.pointer (some ⟨H, 0, none⟩)] w fun e w' => ∃ H' b', e = .returned (.pointer (some ⟨H', 0, none⟩)) ∧ BookC w' H' b' L ∧ Below w.heap.size w w' ∧ w.heap.size ≤ H' ∧ w.heap.size ≤ b' := by
  have cM := hC.mapCell
  have hcl := aClone_any b L w hC.map
  have HE : Veil (∀ w1, BookAt w1 w.heap.size L → Below w.heap.size w w1 → BookC (w1.alloc (.cells #[.map (some w.heap.size)] 71)) w1.heap.size w.heap.size L ∧ Below w.heap.size w (w1.alloc (.cells #[.map (some w.heap.size)] 71)) ∧ w.heap.size ≤ w1.heap.size) := ⟨fun w1 hM hb => ⟨⟨CellsAt.new w1 71 [.map (some w.heap.size)], hM.congr (Below.heap_alloc _ _ _ hM.lt)⟩, hb.alloc hb.size _, hb.size⟩⟩
  clear hC
  go_enter Try.func22, Try.ntmps22
  go_wp2_with (go_at_call 38; refine hcl.mono ?_; rintro e w1 ⟨rfl, hM1, hb1⟩)
  go_ret
  obtain ⟨h1, h2, h3⟩ := HE.out w1 hM1 hb1
  exact ⟨_, _, rfl, h1, h2, h3, Nat.le_refl _⟩
end Go.Proofs.Ythodlbkgggaibaa
