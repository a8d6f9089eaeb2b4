/- The readers of wire: a dot. -/
import Derived.Test.YtdfjfafhpjoilaaDoorRe1
namespace Go.Proofs.YtdfjfafhpjoilaaDoor
open Go.RowKit
set_option maxRecDepth 20000
set_option linter.unusedSimpArgs false

theorem CellsAt.frozen2 {w : World} {g : Nat} {t : TypeId} {cs : List Value} (h : CellsAt w g t cs) (j : Nat) : w.frozen? ⟨g, j, none⟩ = false := frozen_of_row w g j _ t h
theorem CellsAt.set2 {w : World} {g : Nat} {t : TypeId} {cs : List Value} (h : CellsAt w g t cs) (j : Nat) (v : Value) : CellsAt (w.setCell ⟨g, j, none⟩ v) g t (cs.set j v) := by
  unfold CellsAt at h ⊢
  rw [heap_setCell_same w g j _ t _ h]; simp
theorem CellsAt.setOther2 {w : World} {g : Nat} {t : TypeId} {cs : List Value} (h : CellsAt w g t cs) (a : Addr) (v : Value) (hne : g ≠ a.block) : CellsAt (w.setCell a v) g t cs := by
  unfold CellsAt at h ⊢
  rw [heap_setCell_other w a g v hne]; exact h
theorem CellsAt.setRowOther2 {w : World} {g g' : Nat} {t : TypeId} {cs : List Value} (h : CellsAt w g t cs) (cs' : Array Value) (hne : g ≠ g') : CellsAt (w.setRow g' cs') g t cs := by
  unfold CellsAt at h ⊢; rw [setRow_other w g' g cs' hne]; exact h
theorem CellsAt.whole2 {w : World} {g : Nat} {t : TypeId} {cs : List Value} (h : CellsAt w g t cs) : w.rangeAt g 0 cs := fun j v hv => by rw [Nat.zero_add, h.cell]; exact hv
theorem dot_one (a s : Int) : ∀ v ∈ dotC a s, v.oneCell' = true := by
  intro v hv
  unfold dotC at hv
  simp only [List.mem_cons, List.not_mem_nil, or_false] at hv
  rcases hv with rfl | rfl <;> rfl

set_option maxHeartbeats 4000000 in
theorem rdot_at (R base : Nat) (z : List Int) (o : Nat) (w : World) (hR : Rd w R base (z.drop o)) (hz : ∀ v ∈ z, b8 v) :
    Calls Tryd.prog 24 #[.pointer (some ⟨R, 0, none⟩)] w fun e w' =>
      (o + 5 ≤ z.length ∧ e = .returned (.agg (dotC (at1 z o) (at4 z (o + 1))).toArray) ∧ Rd w' R base (z.drop (o + 5)) ∧ Took w w' R base) ∨ (z.length < o + 5 ∧ e = .panicked [wrongP] ∧ Took w w' R base) := by
  have hlt := hR.lt
  have hsz := hR.size
  have h1 := fun wx (h : Rd wx R base (z.drop o)) => rone_at R base z o wx h
  have h4 := fun wx (h : Rd wx R base (z.drop (o + 1))) => rfour_at R base z (o + 1) wx h hz
  obtain ⟨A, hA⟩ : ∃ q, at1 z o = q := ⟨_, rfl⟩
  rw [hA] at h1 ⊢
  obtain ⟨S, hS⟩ : ∃ q, at4 z (o + 1) = q := ⟨_, rfl⟩
  rw [hS] at h4 ⊢
  have hG0 := (CellsAt.new w 25 (dotC 0 0)).alloc (.cells (dotC 0 0).toArray 25)
  have hG1 : CellsAt ((w.alloc (.cells (dotC 0 0).toArray 25)).alloc (.cells (dotC 0 0).toArray 25)) (w.heap.size + 1) 25 (dotC 0 0) := by
    have := CellsAt.new (w.alloc (.cells (dotC 0 0).toArray 25)) 25 (dotC 0 0)
    rw [World.size_alloc] at this
    exact this
  have hR0 := (hR.alloc (.cells (dotC 0 0).toArray 25)).alloc (.cells (dotC 0 0).toArray 25)
  have hT0 : Took w ((w.alloc (.cells (dotC 0 0).toArray 25)).alloc (.cells (dotC 0 0).toArray 25)) R base := (Took.alloc hsz _).trans (Took.alloc (by simp; omega) _)
  clear hA hS hR hz
  go_enter Tryd.func24, Tryd.ntmps24
  go_upto_region 2 with fail
  refine forget (p := fun y => Code.wp _ _ _ _ y) (fun W => Rd W R base (z.drop o) ∧ Took w W R base ∧ CellsAt W w.heap.size 25 (dotC 0 0) ∧ CellsAt W (w.heap.size + 1) 25 (dotC 0 0)) ⟨hR0, hT0, hG0, hG1⟩ ?_
  clear hR0 hT0 hG0 hG1
  rintro W ⟨hR0, hT0, hG0, hG1⟩
  have h1W := h1 W hR0
  by_cases hk1 : o + 1 ≤ z.length
  · go_upto_region 3 with (go_at_call 22; refine h1W.mono ?_; rintro e w1 (⟨_, rfl, hR1, ht1⟩ | ⟨hx, _⟩); rotate_left; (exfalso; omega); have hH1 := hG1.took ht1 (by omega); have c0 := hH1.cell 0; have f0 := hH1.frozen2 0)
    have hH0 := hG0.took ht1 (by omega)
    refine forget (p := fun y => Code.wp _ _ _ _ y) (fun W2 => Rd W2 R base (z.drop (o + 1)) ∧ Took w W2 R base ∧ CellsAt W2 w.heap.size 25 (dotC 0 0) ∧ CellsAt W2 (w.heap.size + 1) 25 (dotC A 0)) ⟨hR1.setCellO _ _ (by show base ≤ w.heap.size + 1; omega) (by show R ≠ w.heap.size + 1; omega), (hT0.trans ht1).setCellO _ _ (by show w.heap.size ≤ w.heap.size + 1; omega) (by show base ≤ w.heap.size + 1; omega), hH0.setOther2 _ _ (by show w.heap.size ≠ w.heap.size + 1; omega), hH1.set2 0 _⟩ ?_
    clear h1W h1 hR0 hT0 hG0 hG1 c0 f0 hH1 hH0 hR1 ht1
    rintro W2 ⟨hR2, hT2, hG0, hG1⟩
    have h4W := h4 W2 hR2
    by_cases hk4 : o + 5 ≤ z.length
    · go_upto_region 4 with (go_at_call 23; refine h4W.mono ?_; rintro e w3 (⟨_, rfl, hR3, ht3⟩ | ⟨hx, _⟩); rotate_left; (exfalso; omega); have hH1 := hG1.took ht3 (by omega); have c1 := hH1.cell 1; have f1 := hH1.frozen2 1)
      have hH0 := hG0.took ht3 (by omega)
      refine forget (p := fun y => Code.wp _ _ _ _ y) (fun W4 => Rd W4 R base (z.drop (o + 5)) ∧ Took w W4 R base ∧ CellsAt W4 w.heap.size 25 (dotC 0 0) ∧ CellsAt W4 (w.heap.size + 1) 25 (dotC A S)) ⟨hR3.setCellO _ _ (by show base ≤ w.heap.size + 1; omega) (by show R ≠ w.heap.size + 1; omega), (hT2.trans ht3).setCellO _ _ (by show w.heap.size ≤ w.heap.size + 1; omega) (by show base ≤ w.heap.size + 1; omega), hH0.setOther2 _ _ (by show w.heap.size ≠ w.heap.size + 1; omega), hH1.set2 1 _⟩ ?_
      clear h4W h4 hR2 hT2 hG0 hG1 c1 f1 hH1 hH0 hR3 ht3
      rintro W4 ⟨hR4, hT4, hG0, hG1⟩
      have rE := hG1.whole2
      go_wp2_with (first
        | (refine wpList_ldv rfl 25 _ rfl _ _ rfl (dotC A S) rE Tryd.underlying25 rfl sizeDot ?_)
        | (refine wpList_stv rfl 25 _ _ rfl _ rfl rfl hG0 sizeDot rfl (dot_one A S) ?_))
      refine bodyPost_ret (results_cell_row (Tryd.results24) _ _ _ _ _ (0, 0) _ rfl (hG0.setRow (dotC A S)) Tryd.underlying25 rfl sizeDot) rfl ?_
      exact .inl ⟨hk4, rfl, hR4.setRowO _ (by omega) (by omega), hT4.setRowO _ (by omega) (by omega)⟩
    · go_upto_region 4 with (go_at_call 23; refine h4W.mono ?_; rintro e w3 (⟨hx, _⟩ | ⟨_, rfl, ht3⟩); (exfalso; omega))
      exact bodyPost_gone (.inr ⟨by omega, rfl, hT2.trans ht3⟩)
  · go_upto_region 3 with (go_at_call 22; refine h1W.mono ?_; rintro e w1 (⟨hx, _⟩ | ⟨_, rfl, ht1⟩); (exfalso; omega))
    exact bodyPost_gone (.inr ⟨by omega, rfl, hT0.trans ht1⟩)
end Go.Proofs.YtdfjfafhpjoilaaDoor
