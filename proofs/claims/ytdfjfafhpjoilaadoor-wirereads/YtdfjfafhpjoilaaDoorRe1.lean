/- The readers of wire: one byte, four, a dot, a truth; by where they stand. -/
import Derived.Test.YtdfjfafhpjoilaaDoorRd3
import Derived.Test.YtdfjfafhpjoilaaDoorWr4
namespace Go.Proofs.YtdfjfafhpjoilaaDoor
open Go.RowKit
set_option maxRecDepth 20000
set_option linter.unusedSimpArgs false

theorem drop_at (z : List Int) (o j : Nat) : (z.drop o)[j]?.getD 0 = z[o + j]?.getD 0 := by rw [List.getElem?_drop]
def at1 (z : List Int) (o : Nat) : Int := z[o]?.getD 0
def at4 (z : List Int) (o : Nat) : Int := val4 (at1 z o) (at1 z (o + 1)) (at1 z (o + 2)) (at1 z (o + 3))
theorem CellsAt.took {w w' : World} {R base g : Nat} {t : TypeId} {cs : List Value} (h : CellsAt w g t cs) (ht : Took w w' R base) (hne : g ≠ R) : CellsAt w' g t cs := by
  have hl := h.lt
  unfold CellsAt at h ⊢; rw [ht.kept g hl hne]; exact h
theorem Rd.setCellO {w : World} {R base : Nat} {z : List Int} (h : Rd w R base z) (a : Addr) (v : Value) (h1 : base ≤ a.block) (h2 : R ≠ a.block) : Rd (w.setCell a v) R base z := by
  obtain ⟨x, n, c, hb, hy⟩ := h.has
  refine ⟨h.ge, x, n, c, ?_, fun wx hx => hy wx (((Below.refl _ _).setCell h1 _).trans hx)⟩
  unfold Box at hb ⊢
  rw [heap_setCell_other w a R v h2]; exact hb
theorem Took.setCellO {w w' : World} {R base : Nat} (h : Took w w' R base) (a : Addr) (v : Value) (h1 : w.heap.size ≤ a.block) (h2 : base ≤ a.block) : Took w (w'.setCell a v) R base :=
  ⟨h.below.setCell h2 _, by have := h.more; simpa [World.setCell] using this, fun g hg hne => by rw [heap_setCell_other w' a g v (by omega)]; exact h.kept g hg hne⟩
theorem Rd.setRowO {w : World} {R base g : Nat} {z : List Int} (h : Rd w R base z) (cs : Array Value) (h1 : base ≤ g) (h2 : R ≠ g) : Rd (w.setRow g cs) R base z := by
  obtain ⟨x, n, c, hb, hy⟩ := h.has
  refine ⟨h.ge, x, n, c, ?_, fun wx hx => hy wx ((below_setRow (Below.refl _ _) h1 _).trans hx)⟩
  unfold Box at hb ⊢
  rw [setRow_other w g R cs h2]; exact hb
theorem Took.setRowO {w w' : World} {R base g : Nat} (h : Took w w' R base) (cs : Array Value) (h1 : w.heap.size ≤ g) (h2 : base ≤ g) : Took w (w'.setRow g cs) R base :=
  ⟨below_setRow h.below h2 _, by have := h.more; simpa [World.setRow] using this, fun k hk hne => by rw [setRow_other w' g k cs (by omega)]; exact h.kept k hk hne⟩

set_option maxHeartbeats 2000000 in
theorem rone_at (R base : Nat) (z : List Int) (o : Nat) (w : World) (hR : Rd w R base (z.drop o)) :
    Calls Tryd.prog 22 #[.pointer (some ⟨R, 0, none⟩)] w fun e w' =>
      (o + 1 ≤ z.length ∧ e = .returned (.int .u8 (at1 z o)) ∧ Rd w' R base (z.drop (o + 1)) ∧ Took w w' R base) ∨ (z.length < o + 1 ∧ e = .panicked [wrongP] ∧ Took w w' R base) := by
  have ht := take_any R base (z.drop o) 1 w hR
  have HL : Veil ((z.drop o).length = z.length - o) := ⟨List.length_drop⟩
  have HD : Veil ((z.drop o).drop 1 = z.drop (o + 1)) := ⟨by rw [List.drop_drop]⟩
  have HF : Veil (∀ (w' : World) (x : Option Addr), Bytes w' x 1 1 ((z.drop o).take 1) → ∃ b off, x = some ⟨b, off, none⟩ ∧ w'.cell? ⟨b, off, none⟩ = some (.int .u8 (at1 z o))) := ⟨fun w' x h => by
    obtain ⟨b, off, hx, hc⟩ := first_cells h (by omega)
    have := hc 0 (by omega)
    rw [drop_at] at this
    exact ⟨b, off, hx, this⟩⟩
  obtain ⟨A, hA⟩ : ∃ q, at1 z o = q := ⟨_, rfl⟩
  rw [hA] at HF ⊢
  clear hA hR
  go_enter Tryd.func22, Tryd.ntmps22
  by_cases hk : o + 1 ≤ z.length
  · go_wp2_with (go_at_call 33; refine ht.mono ?_; rintro e w1 (⟨hk1, x1, rfl, hy1, hR1, ht1⟩ | ⟨hk1, _⟩); rotate_left; (exfalso; have := HL.out; omega); obtain ⟨b, off, rfl, hc⟩ := HF.out w1 x1 (hy1 w1 (Below.refl _ _)))
    go_ret
    rw [HD.out] at hR1
    exact .inl ⟨hk, rfl, hR1, ht1⟩
  · go_wp2_with (go_at_call 33; refine ht.mono ?_; rintro e w1 (⟨hk1, _⟩ | ⟨hk1, rfl, ht1⟩); (exfalso; have := HL.out; omega))
    exact bodyPost_gone (.inr ⟨by omega, rfl, ht1⟩)

set_option maxHeartbeats 4000000 in
theorem rfour_at (R base : Nat) (z : List Int) (o : Nat) (w : World) (hR : Rd w R base (z.drop o)) (hz : ∀ v ∈ z, b8 v) :
    Calls Tryd.prog 23 #[.pointer (some ⟨R, 0, none⟩)] w fun e w' =>
      (o + 4 ≤ z.length ∧ e = .returned (.int .u32 (at4 z o)) ∧ Rd w' R base (z.drop (o + 4)) ∧ Took w w' R base) ∨ (z.length < o + 4 ∧ e = .panicked [wrongP] ∧ Took w w' R base) := by
  have ht := take_any R base (z.drop o) 4 w hR
  have HL : Veil ((z.drop o).length = z.length - o) := ⟨List.length_drop⟩
  have HD : Veil ((z.drop o).drop 4 = z.drop (o + 4)) := ⟨by rw [List.drop_drop]⟩
  have ha := b8_get hz o
  have hb := b8_get hz (o + 1)
  have hc := b8_get hz (o + 2)
  have hd := b8_get hz (o + 3)
  have HV : Veil (bits .or .u32 (bits .or .u32 (bits .or .u32 (z[o]?.getD 0 * 16777216) (z[o + 1]?.getD 0 * 65536)) (z[o + 2]?.getD 0 * 256)) (z[o + 3]?.getD 0) = at4 z o) := ⟨val4_or _ _ _ _ ha hb hc hd⟩
  have HF : Veil (∀ (w' : World) (x : Option Addr), Bytes w' x 4 4 ((z.drop o).take 4) → ∃ b off, x = some ⟨b, off, none⟩ ∧ ∀ j, j < 4 → w'.cell? ⟨b, off + j, none⟩ = some (.int .u8 (z[o + j]?.getD 0))) := ⟨fun w' x h => by
    obtain ⟨b, off, hx, hc⟩ := first_cells h (by omega)
    refine ⟨b, off, hx, fun j hj => ?_⟩
    have := hc j hj
    rw [drop_at] at this
    exact this⟩
  obtain ⟨V, hV⟩ : ∃ q, at4 z o = q := ⟨_, rfl⟩
  rw [hV] at HV ⊢
  obtain ⟨A, hA⟩ : ∃ q, z[o]?.getD 0 = q := ⟨_, rfl⟩
  obtain ⟨B, hB⟩ : ∃ q, z[o + 1]?.getD 0 = q := ⟨_, rfl⟩
  obtain ⟨C, hC⟩ : ∃ q, z[o + 2]?.getD 0 = q := ⟨_, rfl⟩
  obtain ⟨D, hD⟩ : ∃ q, z[o + 3]?.getD 0 = q := ⟨_, rfl⟩
  have HA : Veil (z[o]?.getD 0 = A ∧ z[o + 1]?.getD 0 = B ∧ z[o + 2]?.getD 0 = C ∧ z[o + 3]?.getD 0 = D) := ⟨hA, hB, hC, hD⟩
  rw [hA, hB, hC, hD] at HV
  rw [hA] at ha
  rw [hB] at hb
  rw [hC] at hc
  rw [hD] at hd
  have e1 : IntKind.u32.wrap A = A := by rw [IntKind.wrap_u32]; omega
  have e2 : IntKind.u32.wrap B = B := by rw [IntKind.wrap_u32]; omega
  have e3 : IntKind.u32.wrap C = C := by rw [IntKind.wrap_u32]; omega
  have e4 : IntKind.u32.wrap D = D := by rw [IntKind.wrap_u32]; omega
  have e5 : IntKind.u32.wrap (A * 16777216) = A * 16777216 := by rw [IntKind.wrap_u32]; omega
  have e6 : IntKind.u32.wrap (B * 65536) = B * 65536 := by rw [IntKind.wrap_u32]; omega
  have e7 : IntKind.u32.wrap (C * 256) = C * 256 := by rw [IntKind.wrap_u32]; omega
  clear hA hB hC hD hV hR hz
  go_enter Tryd.func23, Tryd.ntmps23
  by_cases hk : o + 4 ≤ z.length
  · go_upto_region 2 with (go_at_call 33; refine ht.mono ?_; rintro e w1 (⟨hk1, x1, rfl, hy1, hR1, ht1⟩ | ⟨hk1, _⟩); rotate_left; (exfalso; have := HL.out; omega))
    obtain ⟨b, off, rfl, hc'⟩ := HF.out w1 x1 (hy1 w1 (Below.refl _ _))
    have c0 : w1.cell? ⟨b, off, none⟩ = some (.int .u8 A) := by have := hc' 0 (by omega); simp only [Nat.add_zero] at this; rw [HA.out.1] at this; exact this
    have c1 : w1.cell? ⟨b, off + 1, none⟩ = some (.int .u8 B) := by have := hc' 1 (by omega); rw [HA.out.2.1] at this; exact this
    have c2 : w1.cell? ⟨b, off + 2, none⟩ = some (.int .u8 C) := by have := hc' 2 (by omega); rw [HA.out.2.2.1] at this; exact this
    have c3 : w1.cell? ⟨b, off + 3, none⟩ = some (.int .u8 D) := by have := hc' 3 (by omega); rw [HA.out.2.2.2] at this; exact this
    clear hc' hy1 ht
    refine wp_region_gate (fun w' => w'.cell? ⟨b, off, none⟩ = some (.int .u8 A) ∧ w'.cell? ⟨b, off + 1, none⟩ = some (.int .u8 B) ∧ w'.cell? ⟨b, off + 2, none⟩ = some (.int .u8 C) ∧ w'.cell? ⟨b, off + 3, none⟩ = some (.int .u8 D)) 22 (by kernel_rfl) ?_
    have hS : w1.drew.cell? ⟨b, off, none⟩ = some (.int .u8 A) ∧ w1.drew.cell? ⟨b, off + 1, none⟩ = some (.int .u8 B) ∧ w1.drew.cell? ⟨b, off + 2, none⟩ = some (.int .u8 C) ∧ w1.drew.cell? ⟨b, off + 3, none⟩ = some (.int .u8 D) := ⟨c0, c1, c2, c3⟩
    refine wpAnyG_any (i := 0) (v := ?_) rfl (by kernel_rfl) (by kernel_rfl) (by kernel_rfl) (fun _ _ _ h => h) (by kernel_rfl) (fun _ => hS) (by kernel_rfl) ?_ ?_
    rotate_left
    · intro _; go_simp; try with_reducible rfl
    simp only [Act.put, List.setIfInBounds_toArray, List.set_cons_zero, List.set_cons_succ]
    refine wpAnyG_any (i := 1) (v := ?_) rfl (by kernel_rfl) (by kernel_rfl) (by kernel_rfl) (fun _ _ _ h => h) (by kernel_rfl) (fun _ => hS) (by kernel_rfl) ?_ ?_
    rotate_left
    · intro _; go_simp; try with_reducible rfl
    simp only [Act.put, List.setIfInBounds_toArray, List.set_cons_zero, List.set_cons_succ]
    refine wpAnyG_read (i := 2) (v := ?_) rfl (by kernel_rfl) (by kernel_rfl) (by kernel_rfl) (fun _ _ _ h => h) (by kernel_rfl) (by kernel_rfl) (by kernel_rfl) hS (by kernel_rfl) ?_ ?_
    rotate_left
    · intro wx hSw; go_split_ands; go_simp; try with_reducible rfl
    simp only [Act.put, List.setIfInBounds_toArray, List.set_cons_zero, List.set_cons_succ]
    refine wpAnyG_any (i := 3) (v := ?_) rfl (by kernel_rfl) (by kernel_rfl) (by kernel_rfl) (fun _ _ _ h => h) (by kernel_rfl) (fun _ => hS) (by kernel_rfl) ?_ ?_
    rotate_left
    · intro _; go_simp; try with_reducible rfl
    simp only [Act.put, List.setIfInBounds_toArray, List.set_cons_zero, List.set_cons_succ]
    refine wpAnyG_any (i := 4) (v := ?_) rfl (by kernel_rfl) (by kernel_rfl) (by kernel_rfl) (fun _ _ _ h => h) (by kernel_rfl) (fun _ => hS) (by kernel_rfl) ?_ ?_
    rotate_left
    · intro _; go_simp; try with_reducible rfl
    simp only [Act.put, List.setIfInBounds_toArray, List.set_cons_zero, List.set_cons_succ]
    refine wpAnyG_any (i := 5) (v := ?_) rfl (by kernel_rfl) (by kernel_rfl) (by kernel_rfl) (fun _ _ _ h => h) (by kernel_rfl) (fun _ => hS) (by kernel_rfl) ?_ ?_
    rotate_left
    · intro _; go_simp; try with_reducible rfl
    simp only [Act.put, List.setIfInBounds_toArray, List.set_cons_zero, List.set_cons_succ]
    refine wpAnyG_any (i := 6) (v := ?_) rfl (by kernel_rfl) (by kernel_rfl) (by kernel_rfl) (fun _ _ _ h => h) (by kernel_rfl) (fun _ => hS) (by kernel_rfl) ?_ ?_
    rotate_left
    · intro _; go_simp; try with_reducible rfl
    simp only [Act.put, List.setIfInBounds_toArray, List.set_cons_zero, List.set_cons_succ]
    refine wpAnyG_read (i := 7) (v := ?_) rfl (by kernel_rfl) (by kernel_rfl) (by kernel_rfl) (fun _ _ _ h => h) (by kernel_rfl) (by kernel_rfl) (by kernel_rfl) hS (by kernel_rfl) ?_ ?_
    rotate_left
    · intro wx hSw; go_split_ands; go_simp; try with_reducible rfl
    simp only [Act.put, List.setIfInBounds_toArray, List.set_cons_zero, List.set_cons_succ]
    refine wpAnyG_any (i := 8) (v := ?_) rfl (by kernel_rfl) (by kernel_rfl) (by kernel_rfl) (fun _ _ _ h => h) (by kernel_rfl) (fun _ => hS) (by kernel_rfl) ?_ ?_
    rotate_left
    · intro _; go_simp; try with_reducible rfl
    simp only [Act.put, List.setIfInBounds_toArray, List.set_cons_zero, List.set_cons_succ]
    refine wpAnyG_any (i := 9) (v := ?_) rfl (by kernel_rfl) (by kernel_rfl) (by kernel_rfl) (fun _ _ _ h => h) (by kernel_rfl) (fun _ => hS) (by kernel_rfl) ?_ ?_
    rotate_left
    · intro _; go_simp; try with_reducible rfl
    simp only [Act.put, List.setIfInBounds_toArray, List.set_cons_zero, List.set_cons_succ]
    refine wpAnyG_any (i := 10) (v := ?_) rfl (by kernel_rfl) (by kernel_rfl) (by kernel_rfl) (fun _ _ _ h => h) (by kernel_rfl) (fun _ => hS) (by kernel_rfl) ?_ ?_
    rotate_left
    · intro _; go_simp; try with_reducible rfl
    simp only [Act.put, List.setIfInBounds_toArray, List.set_cons_zero, List.set_cons_succ]
    refine wpAnyG_any (i := 11) (v := ?_) rfl (by kernel_rfl) (by kernel_rfl) (by kernel_rfl) (fun _ _ _ h => h) (by kernel_rfl) (fun _ => hS) (by kernel_rfl) ?_ ?_
    rotate_left
    · intro _; go_simp; try with_reducible rfl
    simp only [Act.put, List.setIfInBounds_toArray, List.set_cons_zero, List.set_cons_succ]
    refine wpAnyG_any (i := 12) (v := ?_) rfl (by kernel_rfl) (by kernel_rfl) (by kernel_rfl) (fun _ _ _ h => h) (by kernel_rfl) (fun _ => hS) (by kernel_rfl) ?_ ?_
    rotate_left
    · intro _; go_simp; try with_reducible rfl
    simp only [Act.put, List.setIfInBounds_toArray, List.set_cons_zero, List.set_cons_succ]
    refine wpAnyG_read (i := 13) (v := ?_) rfl (by kernel_rfl) (by kernel_rfl) (by kernel_rfl) (fun _ _ _ h => h) (by kernel_rfl) (by kernel_rfl) (by kernel_rfl) hS (by kernel_rfl) ?_ ?_
    rotate_left
    · intro wx hSw; go_split_ands; go_simp; try with_reducible rfl
    simp only [Act.put, List.setIfInBounds_toArray, List.set_cons_zero, List.set_cons_succ]
    refine wpAnyG_any (i := 14) (v := ?_) rfl (by kernel_rfl) (by kernel_rfl) (by kernel_rfl) (fun _ _ _ h => h) (by kernel_rfl) (fun _ => hS) (by kernel_rfl) ?_ ?_
    rotate_left
    · intro _; go_simp; try with_reducible rfl
    simp only [Act.put, List.setIfInBounds_toArray, List.set_cons_zero, List.set_cons_succ]
    refine wpAnyG_any (i := 15) (v := ?_) rfl (by kernel_rfl) (by kernel_rfl) (by kernel_rfl) (fun _ _ _ h => h) (by kernel_rfl) (fun _ => hS) (by kernel_rfl) ?_ ?_
    rotate_left
    · intro _; go_simp; try with_reducible rfl
    simp only [Act.put, List.setIfInBounds_toArray, List.set_cons_zero, List.set_cons_succ]
    refine wpAnyG_any (i := 16) (v := ?_) rfl (by kernel_rfl) (by kernel_rfl) (by kernel_rfl) (fun _ _ _ h => h) (by kernel_rfl) (fun _ => hS) (by kernel_rfl) ?_ ?_
    rotate_left
    · intro _; go_simp; try with_reducible rfl
    simp only [Act.put, List.setIfInBounds_toArray, List.set_cons_zero, List.set_cons_succ]
    refine wpAnyG_any (i := 17) (v := ?_) rfl (by kernel_rfl) (by kernel_rfl) (by kernel_rfl) (fun _ _ _ h => h) (by kernel_rfl) (fun _ => hS) (by kernel_rfl) ?_ ?_
    rotate_left
    · intro _; go_simp; try with_reducible rfl
    simp only [Act.put, List.setIfInBounds_toArray, List.set_cons_zero, List.set_cons_succ]
    refine wpAnyG_any (i := 18) (v := ?_) rfl (by kernel_rfl) (by kernel_rfl) (by kernel_rfl) (fun _ _ _ h => h) (by kernel_rfl) (fun _ => hS) (by kernel_rfl) ?_ ?_
    rotate_left
    · intro _; go_simp; try with_reducible rfl
    simp only [Act.put, List.setIfInBounds_toArray, List.set_cons_zero, List.set_cons_succ]
    refine wpAnyG_read (i := 19) (v := ?_) rfl (by kernel_rfl) (by kernel_rfl) (by kernel_rfl) (fun _ _ _ h => h) (by kernel_rfl) (by kernel_rfl) (by kernel_rfl) hS (by kernel_rfl) ?_ ?_
    rotate_left
    · intro wx hSw; go_split_ands; go_simp; try with_reducible rfl
    simp only [Act.put, List.setIfInBounds_toArray, List.set_cons_zero, List.set_cons_succ]
    refine wpAnyG_any (i := 20) (v := ?_) rfl (by kernel_rfl) (by kernel_rfl) (by kernel_rfl) (fun _ _ _ h => h) (by kernel_rfl) (fun _ => hS) (by kernel_rfl) ?_ ?_
    rotate_left
    · intro _; go_simp; try with_reducible rfl
    simp only [Act.put, List.setIfInBounds_toArray, List.set_cons_zero, List.set_cons_succ]
    refine wpAnyG_any (i := 21) (v := ?_) rfl (by kernel_rfl) (by kernel_rfl) (by kernel_rfl) (fun _ _ _ h => h) (by kernel_rfl) (fun _ => hS) (by kernel_rfl) ?_ ?_
    rotate_left
    · intro _; go_simp; try with_reducible rfl
    simp only [Act.put, List.setIfInBounds_toArray, List.set_cons_zero, List.set_cons_succ]
    refine wpAnyG_one (i := 22) rfl (by kernel_rfl) (by kernel_rfl) (fun K hK => ?_)
    go_simp
    refine hK.out _ _ (fun h => absurd (show true = false from h) (by decide)) ?_
    clear hK K
    refine wpAnyG_done (by kernel_rfl) ?_ _
    go_wp2
    go_ret
    rw [HD.out] at hR1
    refine .inl ⟨hk, ?_, hR1.afar ((Below.refl _ _).drew), ht1.trans (Took.afar hR1.size ((Below.refl _ _).drew))⟩
    rw [← HV.out]
    rfl
  · go_upto_region 2 with (go_at_call 33; refine ht.mono ?_; rintro e w1 (⟨hk1, _⟩ | ⟨hk1, rfl, ht1⟩); (exfalso; have := HL.out; omega))
    exact bodyPost_gone (.inr ⟨by omega, rfl, ht1⟩)

end Go.Proofs.YtdfjfafhpjoilaaDoor
