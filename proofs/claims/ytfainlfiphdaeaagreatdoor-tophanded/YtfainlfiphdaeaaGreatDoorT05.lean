/- Re1 Re2 -/
import Derived.Test.YtfainlfiphdaeaaGreatDoorT03
import Derived.Test.YtfainlfiphdaeaaGreatDoorT04
namespace Go.Proofs.YtfainlfiphdaeaaGreatDoor
open Go.RowKit
set_option maxRecDepth 20000
set_option linter.unusedSimpArgs false
theorem drop_at (z : List Int) (o j : Nat) : (z.drop o)[j]?.getD 0 = z[o + j]?.getD 0 := by rw [List.getElem?_drop]
def at1 (z : List Int) (o : Nat) : Int := z[o]?.getD 0
def at4 (z : List Int) (o : Nat) : Int := val4 (at1 z o) (at1 z (o + 1)) (at1 z (o + 2)) (at1 z (o + 3))
theorem CellsAt.took {w w' : World} {R base g : Nat} {t : TypeId} {cs : List Value} (h : CellsAt w g t cs) (ht : Took w w' R base) (hne : g ≠ R) : CellsAt w' g t cs := by
  have hl := h.lt
  unfold CellsAt at h ⊢; rw [ht.kept g hl hne]; exact h
theorem Rd.setCellO {w : World} {R base : Nat} {z : List Int} (h : Rd w R base z) (a : Addr) (v : Value) (h1 : base ≤ a.block) (h2 : R ≠ a.block) : Rd (w.setCell a v) R base z := by
  obtain ⟨x, n, c, hb, hy⟩ := h.has
  refine ⟨h.ge, x, n, c, ?_, fun wx hx => hy wx (((Below.refl _ _).setCell h1 _).trans hx)⟩
  unfold Box at hb ⊢
  rw [heap_setCell_other w a R v h2]; exact hb
theorem Took.setCellO {w w' : World} {R base : Nat} (h : Took w w' R base) (a : Addr) (v : Value) (h1 : w.heap.size ≤ a.block) (h2 : base ≤ a.block) : Took w (w'.setCell a v) R base :=
  ⟨h.below.setCell h2 _, by have := h.more; simpa [World.setCell] using this, fun g hg hne => by rw [heap_setCell_other w' a g v (by omega)]; exact h.kept g hg hne⟩
theorem Rd.setRowO {w : World} {R base g : Nat} {z : List Int} (h : Rd w R base z) (cs : Array Value) (h1 : base ≤ g) (h2 : R ≠ g) : Rd (w.setRow g cs) R base z := by
  obtain ⟨x, n, c, hb, hy⟩ := h.has
  refine ⟨h.ge, x, n, c, ?_, fun wx hx => hy wx ((below_setRow (Below.refl _ _) h1 _).trans hx)⟩
  unfold Box at hb ⊢
  rw [setRow_other w g R cs h2]; exact hb
theorem Took.setRowO {w w' : World} {R base g : Nat} (h : Took w w' R base) (cs : Array Value) (h1 : w.heap.size ≤ g) (h2 : base ≤ g) : Took w (w'.setRow g cs) R base :=
  ⟨below_setRow h.below h2 _, by have := h.more; simpa [World.setRow] using this, fun k hk hne => by rw [setRow_other w' g k cs (by omega)]; exact h.kept k hk hne⟩
set_option maxHeartbeats 2000000 in
theorem rone_at (R base : Nat) (z : List Int) (o : Nat) (w : World) (hR : Rd w R base (z.drop o)) :
    Calls Tryz.prog 167 #[.pointer (some ⟨R, 0, none⟩)] w fun e w' =>
      (o + 1 ≤ z.length ∧ e = .returned (.int .u8 (at1 z o)) ∧ Rd w' R base (z.drop (o + 1)) ∧ Took w w' R base) ∨ (z.length < o + 1 ∧ e = .panicked [wrongP] ∧ Took w w' R base) := by
  have ht := take_any R base (z.drop o) 1 w hR
  have HL : Veil ((z.drop o).length = z.length - o) := ⟨List.length_drop⟩
  have HD : Veil ((z.drop o).drop 1 = z.drop (o + 1)) := ⟨by rw [List.drop_drop]⟩
  have HF : Veil (∀ (w' : World) (x : Option Addr), Bytes w' x 1 1 ((z.drop o).take 1) → ∃ b off, x = some ⟨b, off, none⟩ ∧ w'.cell? ⟨b, off, none⟩ = some (.int .u8 (at1 z o))) := ⟨fun w' x h => by
    obtain ⟨b, off, hx, hc⟩ := first_cells h (by omega)
    have := hc 0 (by omega)
    rw [drop_at] at this
    exact ⟨b, off, hx, this⟩⟩
  obtain ⟨A, hA⟩ : ∃ q, at1 z o = q := ⟨_, rfl⟩
  rw [hA] at HF ⊢
  clear hA hR
  go_enter Tryz.func167, Tryz.ntmps167
  by_cases hk : o + 1 ≤ z.length
  · go_wp2_with (go_at_call 173; refine ht.mono ?_; rintro e w1 (⟨hk1, x1, rfl, hy1, hR1, ht1⟩ | ⟨hk1, _⟩); rotate_left; (exfalso; have := HL.out; omega); obtain ⟨b, off, rfl, hc⟩ := HF.out w1 x1 (hy1 w1 (Below.refl _ _)))
    go_ret
    rw [HD.out] at hR1
    exact .inl ⟨hk, rfl, hR1, ht1⟩
  · go_wp2_with (go_at_call 173; refine ht.mono ?_; rintro e w1 (⟨hk1, _⟩ | ⟨hk1, rfl, ht1⟩); (exfalso; have := HL.out; omega))
    exact bodyPost_gone (.inr ⟨by omega, rfl, ht1⟩)
set_option maxHeartbeats 4000000 in
theorem rfour_at (R base : Nat) (z : List Int) (o : Nat) (w : World) (hR : Rd w R base (z.drop o)) (hz : ∀ v ∈ z, b8 v) :
    Calls Tryz.prog 166 #[.pointer (some ⟨R, 0, none⟩)] w fun e w' =>
      (o + 4 ≤ z.length ∧ e = .returned (.int .u32 (at4 z o)) ∧ Rd w' R base (z.drop (o + 4)) ∧ Took w w' R base) ∨ (z.length < o + 4 ∧ e = .panicked [wrongP] ∧ Took w w' R base) := by
  have ht := take_any R base (z.drop o) 4 w hR
  have HL : Veil ((z.drop o).length = z.length - o) := ⟨List.length_drop⟩
  have HD : Veil ((z.drop o).drop 4 = z.drop (o + 4)) := ⟨by rw [List.drop_drop]⟩
  have ha := b8_get hz o
  have hb := b8_get hz (o + 1)
  have hc := b8_get hz (o + 2)
  have hd := b8_get hz (o + 3)
  have HV : Veil (bits .or .u32 (bits .or .u32 (bits .or .u32 (z[o]?.getD 0 * 16777216) (z[o + 1]?.getD 0 * 65536)) (z[o + 2]?.getD 0 * 256)) (z[o + 3]?.getD 0) = at4 z o) := ⟨val4_or _ _ _ _ ha hb hc hd⟩
  have HF : Veil (∀ (w' : World) (x : Option Addr), Bytes w' x 4 4 ((z.drop o).take 4) → ∃ b off, x = some ⟨b, off, none⟩ ∧ ∀ j, j < 4 → w'.cell? ⟨b, off + j, none⟩ = some (.int .u8 (z[o + j]?.getD 0))) := ⟨fun w' x h => by
    obtain ⟨b, off, hx, hc⟩ := first_cells h (by omega)
    refine ⟨b, off, hx, fun j hj => ?_⟩
    have := hc j hj
    rw [drop_at] at this
    exact this⟩
  obtain ⟨V, hV⟩ : ∃ q, at4 z o = q := ⟨_, rfl⟩
  rw [hV] at HV ⊢
  obtain ⟨A, hA⟩ : ∃ q, z[o]?.getD 0 = q := ⟨_, rfl⟩
  obtain ⟨B, hB⟩ : ∃ q, z[o + 1]?.getD 0 = q := ⟨_, rfl⟩
  obtain ⟨C, hC⟩ : ∃ q, z[o + 2]?.getD 0 = q := ⟨_, rfl⟩
  obtain ⟨D, hD⟩ : ∃ q, z[o + 3]?.getD 0 = q := ⟨_, rfl⟩
  have HA : Veil (z[o]?.getD 0 = A ∧ z[o + 1]?.getD 0 = B ∧ z[o + 2]?.getD 0 = C ∧ z[o + 3]?.getD 0 = D) := ⟨hA, hB, hC, hD⟩
  rw [hA, hB, hC, hD] at HV
  rw [hA] at ha
  rw [hB] at hb
  rw [hC] at hc
  rw [hD] at hd
  have e1 : IntKind.u32.wrap A = A := by rw [IntKind.wrap_u32]; omega
  have e2 : IntKind.u32.wrap B = B := by rw [IntKind.wrap_u32]; omega
  have e3 : IntKind.u32.wrap C = C := by rw [IntKind.wrap_u32]; omega
  have e4 : IntKind.u32.wrap D = D := by rw [IntKind.wrap_u32]; omega
  have e5 : IntKind.u32.wrap (A * 16777216) = A * 16777216 := by rw [IntKind.wrap_u32]; omega
  have e6 : IntKind.u32.wrap (B * 65536) = B * 65536 := by rw [IntKind.wrap_u32]; omega
  have e7 : IntKind.u32.wrap (C * 256) = C * 256 := by rw [IntKind.wrap_u32]; omega
  clear hA hB hC hD hV hR hz
  go_enter Tryz.func166, Tryz.ntmps166
  by_cases hk : o + 4 ≤ z.length
  · go_upto_region 2 with (go_at_call 173; refine ht.mono ?_; rintro e w1 (⟨hk1, x1, rfl, hy1, hR1, ht1⟩ | ⟨hk1, _⟩); rotate_left; (exfalso; have := HL.out; omega))
    obtain ⟨b, off, rfl, hc'⟩ := HF.out w1 x1 (hy1 w1 (Below.refl _ _))
    have c0 : w1.cell? ⟨b, off, none⟩ = some (.int .u8 A) := by have := hc' 0 (by omega); simp only [Nat.add_zero] at this; rw [HA.out.1] at this; exact this
    have c1 : w1.cell? ⟨b, off + 1, none⟩ = some (.int .u8 B) := by have := hc' 1 (by omega); rw [HA.out.2.1] at this; exact this
    have c2 : w1.cell? ⟨b, off + 2, none⟩ = some (.int .u8 C) := by have := hc' 2 (by omega); rw [HA.out.2.2.1] at this; exact this
    have c3 : w1.cell? ⟨b, off + 3, none⟩ = some (.int .u8 D) := by have := hc' 3 (by omega); rw [HA.out.2.2.2] at this; exact this
    clear hc' hy1 ht
    refine wp_region_gate (fun w' => w'.cell? ⟨b, off, none⟩ = some (.int .u8 A) ∧ w'.cell? ⟨b, off + 1, none⟩ = some (.int .u8 B) ∧ w'.cell? ⟨b, off + 2, none⟩ = some (.int .u8 C) ∧ w'.cell? ⟨b, off + 3, none⟩ = some (.int .u8 D)) 22 (by kernel_rfl) ?_
    have hS : w1.drew.cell? ⟨b, off, none⟩ = some (.int .u8 A) ∧ w1.drew.cell? ⟨b, off + 1, none⟩ = some (.int .u8 B) ∧ w1.drew.cell? ⟨b, off + 2, none⟩ = some (.int .u8 C) ∧ w1.drew.cell? ⟨b, off + 3, none⟩ = some (.int .u8 D) := ⟨c0, c1, c2, c3⟩
    refine wpAnyG_any (i := 0) (v := ?_) rfl (by kernel_rfl) (by kernel_rfl) (by kernel_rfl) (fun _ _ _ h => h) (by kernel_rfl) (fun _ => hS) (by kernel_rfl) ?_ ?_
    rotate_left
    · intro _; go_simp; try with_reducible rfl
    simp only [Act.put, sI, sZ, sS]
    refine wpAnyG_any (i := 1) (v := ?_) rfl (by kernel_rfl) (by kernel_rfl) (by kernel_rfl) (fun _ _ _ h => h) (by kernel_rfl) (fun _ => hS) (by kernel_rfl) ?_ ?_
    rotate_left
    · intro _; go_simp; try with_reducible rfl
    simp only [Act.put, sI, sZ, sS]
    refine wpAnyG_read (i := 2) (v := ?_) rfl (by kernel_rfl) (by kernel_rfl) (by kernel_rfl) (fun _ _ _ h => h) (by kernel_rfl) (by kernel_rfl) (by kernel_rfl) hS (by kernel_rfl) ?_ ?_
    rotate_left
    · intro wx hSw; go_split_ands; go_simp; try with_reducible rfl
    simp only [Act.put, sI, sZ, sS]
    refine wpAnyG_any (i := 3) (v := ?_) rfl (by kernel_rfl) (by kernel_rfl) (by kernel_rfl) (fun _ _ _ h => h) (by kernel_rfl) (fun _ => hS) (by kernel_rfl) ?_ ?_
    rotate_left
    · intro _; go_simp; try with_reducible rfl
    simp only [Act.put, sI, sZ, sS]
    refine wpAnyG_any (i := 4) (v := ?_) rfl (by kernel_rfl) (by kernel_rfl) (by kernel_rfl) (fun _ _ _ h => h) (by kernel_rfl) (fun _ => hS) (by kernel_rfl) ?_ ?_
    rotate_left
    · intro _; go_simp; try with_reducible rfl
    simp only [Act.put, sI, sZ, sS]
    refine wpAnyG_any (i := 5) (v := ?_) rfl (by kernel_rfl) (by kernel_rfl) (by kernel_rfl) (fun _ _ _ h => h) (by kernel_rfl) (fun _ => hS) (by kernel_rfl) ?_ ?_
    rotate_left
    · intro _; go_simp; try with_reducible rfl
    simp only [Act.put, sI, sZ, sS]
    refine wpAnyG_any (i := 6) (v := ?_) rfl (by kernel_rfl) (by kernel_rfl) (by kernel_rfl) (fun _ _ _ h => h) (by kernel_rfl) (fun _ => hS) (by kernel_rfl) ?_ ?_
    rotate_left
    · intro _; go_simp; try with_reducible rfl
    simp only [Act.put, sI, sZ, sS]
    refine wpAnyG_read (i := 7) (v := ?_) rfl (by kernel_rfl) (by kernel_rfl) (by kernel_rfl) (fun _ _ _ h => h) (by kernel_rfl) (by kernel_rfl) (by kernel_rfl) hS (by kernel_rfl) ?_ ?_
    rotate_left
    · intro wx hSw; go_split_ands; go_simp; try with_reducible rfl
    simp only [Act.put, sI, sZ, sS]
    refine wpAnyG_any (i := 8) (v := ?_) rfl (by kernel_rfl) (by kernel_rfl) (by kernel_rfl) (fun _ _ _ h => h) (by kernel_rfl) (fun _ => hS) (by kernel_rfl) ?_ ?_
    rotate_left
    · intro _; go_simp; try with_reducible rfl
    simp only [Act.put, sI, sZ, sS]
    refine wpAnyG_any (i := 9) (v := ?_) rfl (by kernel_rfl) (by kernel_rfl) (by kernel_rfl) (fun _ _ _ h => h) (by kernel_rfl) (fun _ => hS) (by kernel_rfl) ?_ ?_
    rotate_left
    · intro _; go_simp; try with_reducible rfl
    simp only [Act.put, sI, sZ, sS]
    refine wpAnyG_any (i := 10) (v := ?_) rfl (by kernel_rfl) (by kernel_rfl) (by kernel_rfl) (fun _ _ _ h => h) (by kernel_rfl) (fun _ => hS) (by kernel_rfl) ?_ ?_
    rotate_left
    · intro _; go_simp; try with_reducible rfl
    simp only [Act.put, sI, sZ, sS]
    refine wpAnyG_any (i := 11) (v := ?_) rfl (by kernel_rfl) (by kernel_rfl) (by kernel_rfl) (fun _ _ _ h => h) (by kernel_rfl) (fun _ => hS) (by kernel_rfl) ?_ ?_
    rotate_left
    · intro _; go_simp; try with_reducible rfl
    simp only [Act.put, sI, sZ, sS]
    refine wpAnyG_any (i := 12) (v := ?_) rfl (by kernel_rfl) (by kernel_rfl) (by kernel_rfl) (fun _ _ _ h => h) (by kernel_rfl) (fun _ => hS) (by kernel_rfl) ?_ ?_
    rotate_left
    · intro _; go_simp; try with_reducible rfl
    simp only [Act.put, sI, sZ, sS]
    refine wpAnyG_read (i := 13) (v := ?_) rfl (by kernel_rfl) (by kernel_rfl) (by kernel_rfl) (fun _ _ _ h => h) (by kernel_rfl) (by kernel_rfl) (by kernel_rfl) hS (by kernel_rfl) ?_ ?_
    rotate_left
    · intro wx hSw; go_split_ands; go_simp; try with_reducible rfl
    simp only [Act.put, sI, sZ, sS]
    refine wpAnyG_any (i := 14) (v := ?_) rfl (by kernel_rfl) (by kernel_rfl) (by kernel_rfl) (fun _ _ _ h => h) (by kernel_rfl) (fun _ => hS) (by kernel_rfl) ?_ ?_
    rotate_left
    · intro _; go_simp; try with_reducible rfl
    simp only [Act.put, sI, sZ, sS]
    refine wpAnyG_any (i := 15) (v := ?_) rfl (by kernel_rfl) (by kernel_rfl) (by kernel_rfl) (fun _ _ _ h => h) (by kernel_rfl) (fun _ => hS) (by kernel_rfl) ?_ ?_
    rotate_left
    · intro _; go_simp; try with_reducible rfl
    simp only [Act.put, sI, sZ, sS]
    refine wpAnyG_any (i := 16) (v := ?_) rfl (by kernel_rfl) (by kernel_rfl) (by kernel_rfl) (fun _ _ _ h => h) (by kernel_rfl) (fun _ => hS) (by kernel_rfl) ?_ ?_
    rotate_left
    · intro _; go_simp; try with_reducible rfl
    simp only [Act.put, sI, sZ, sS]
    refine wpAnyG_any (i := 17) (v := ?_) rfl (by kernel_rfl) (by kernel_rfl) (by kernel_rfl) (fun _ _ _ h => h) (by kernel_rfl) (fun _ => hS) (by kernel_rfl) ?_ ?_
    rotate_left
    · intro _; go_simp; try with_reducible rfl
    simp only [Act.put, sI, sZ, sS]
    refine wpAnyG_any (i := 18) (v := ?_) rfl (by kernel_rfl) (by kernel_rfl) (by kernel_rfl) (fun _ _ _ h => h) (by kernel_rfl) (fun _ => hS) (by kernel_rfl) ?_ ?_
    rotate_left
    · intro _; go_simp; try with_reducible rfl
    simp only [Act.put, sI, sZ, sS]
    refine wpAnyG_read (i := 19) (v := ?_) rfl (by kernel_rfl) (by kernel_rfl) (by kernel_rfl) (fun _ _ _ h => h) (by kernel_rfl) (by kernel_rfl) (by kernel_rfl) hS (by kernel_rfl) ?_ ?_
    rotate_left
    · intro wx hSw; go_split_ands; go_simp; try with_reducible rfl
    simp only [Act.put, sI, sZ, sS]
    refine wpAnyG_any (i := 20) (v := ?_) rfl (by kernel_rfl) (by kernel_rfl) (by kernel_rfl) (fun _ _ _ h => h) (by kernel_rfl) (fun _ => hS) (by kernel_rfl) ?_ ?_
    rotate_left
    · intro _; go_simp; try with_reducible rfl
    simp only [Act.put, sI, sZ, sS]
    refine wpAnyG_any (i := 21) (v := ?_) rfl (by kernel_rfl) (by kernel_rfl) (by kernel_rfl) (fun _ _ _ h => h) (by kernel_rfl) (fun _ => hS) (by kernel_rfl) ?_ ?_
    rotate_left
    · intro _; go_simp; try with_reducible rfl
    simp only [Act.put, sI, sZ, sS]
    refine wpAnyG_one (i := 22) rfl (by kernel_rfl) (by kernel_rfl) (fun K hK => ?_)
    go_simp
    refine hK.out _ _ (fun h => absurd (show true = false from h) (by decide)) ?_
    clear hK K
    refine wpAnyG_done (by kernel_rfl) ?_ _
    go_wp2
    go_ret
    rw [HD.out] at hR1
    refine .inl ⟨hk, ?_, hR1.afar ((Below.refl _ _).drew), ht1.trans (Took.afar hR1.size ((Below.refl _ _).drew))⟩
    rw [← HV.out]
    rfl
  · go_upto_region 2 with (go_at_call 173; refine ht.mono ?_; rintro e w1 (⟨hk1, _⟩ | ⟨hk1, rfl, ht1⟩); (exfalso; have := HL.out; omega))
    exact bodyPost_gone (.inr ⟨by omega, rfl, ht1⟩)
set_option maxHeartbeats 2000000 in
theorem rtruth_at (R base : Nat) (z : List Int) (o : Nat) (w : World) (hR : Rd w R base (z.drop o)) :
    Calls Tryz.prog 168 #[.pointer (some ⟨R, 0, none⟩)] w fun e w' =>
      ((o + 1 ≤ z.length ∧ at1 z o ≤ 1) ∧ e = .returned (.bool (at1 z o == 1)) ∧ Rd w' R base (z.drop (o + 1)) ∧ Took w w' R base) ∨ (¬ (o + 1 ≤ z.length ∧ at1 z o ≤ 1) ∧ e = .panicked [wrongP] ∧ Took w w' R base) := by
  have h1 := rone_at R base z o w hR
  have hok := fun wx => need_ok wx
  have hbad := fun wx => need_bad wx
  obtain ⟨A, hA⟩ : ∃ q, at1 z o = q := ⟨_, rfl⟩
  rw [hA] at h1 ⊢
  clear hA hR
  by_cases hk : o + 1 ≤ z.length
  · by_cases ha : A ≤ 1
    · clear hbad
      go_enter Tryz.func168, Tryz.ntmps168
      go_wp2_with (first
        | (go_at_call 167; refine h1.mono ?_; rintro e w1 (⟨hk1, rfl, hR1, ht1⟩ | ⟨hk1, _⟩); rotate_left; (exfalso; omega))
        | (go_at_call 164; refine (hok _).mono ?_; rintro e w2 ⟨⟨r2, rfl⟩, rfl⟩))
      go_ret
      exact .inl ⟨⟨hk, ha⟩, rfl, hR1, ht1⟩
    · have ha' : decide (A ≤ 1) = false := by simp; omega
      clear hok
      go_enter Tryz.func168, Tryz.ntmps168
      go_wp2_with (first
        | (go_at_call 167; refine h1.mono ?_; rintro e w1 (⟨hk1, rfl, hR1, ht1⟩ | ⟨hk1, _⟩); rotate_left; (exfalso; omega))
        | (go_at_call 164; refine (hbad _).mono ?_; rintro e w2 ⟨rfl, rfl⟩))
      exact bodyPost_gone (.inr ⟨fun h => by have := h.2; omega, rfl, ht1⟩)
  · go_enter Tryz.func168, Tryz.ntmps168
    go_wp2_with (go_at_call 167; refine h1.mono ?_; rintro e w1 (⟨hk1, _⟩ | ⟨hk1, rfl, ht1⟩); (exfalso; omega))
    exact bodyPost_gone (.inr ⟨fun h => hk h.1, rfl, ht1⟩)
end Go.Proofs.YtfainlfiphdaeaaGreatDoor
namespace Go.Proofs.YtfainlfiphdaeaaGreatDoor
open Go.RowKit
set_option maxRecDepth 20000
set_option linter.unusedSimpArgs false
theorem CellsAt.frozen2 {w : World} {g : Nat} {t : TypeId} {cs : List Value} (h : CellsAt w g t cs) (j : Nat) : w.frozen? ⟨g, j, none⟩ = false := frozen_of_row w g j _ t h
theorem CellsAt.set2 {w : World} {g : Nat} {t : TypeId} {cs : List Value} (h : CellsAt w g t cs) (j : Nat) (v : Value) : CellsAt (w.setCell ⟨g, j, none⟩ v) g t (cs.set j v) := by
  unfold CellsAt at h ⊢
  rw [heap_setCell_same w g j _ t _ h]; simp
theorem CellsAt.setOther2 {w : World} {g : Nat} {t : TypeId} {cs : List Value} (h : CellsAt w g t cs) (a : Addr) (v : Value) (hne : g ≠ a.block) : CellsAt (w.setCell a v) g t cs := by
  unfold CellsAt at h ⊢
  rw [heap_setCell_other w a g v hne]; exact h
theorem CellsAt.setRowOther2 {w : World} {g g' : Nat} {t : TypeId} {cs : List Value} (h : CellsAt w g t cs) (cs' : Array Value) (hne : g ≠ g') : CellsAt (w.setRow g' cs') g t cs := by
  unfold CellsAt at h ⊢; rw [setRow_other w g' g cs' hne]; exact h
theorem CellsAt.whole2 {w : World} {g : Nat} {t : TypeId} {cs : List Value} (h : CellsAt w g t cs) : w.rangeAt g 0 cs := fun j v hv => by rw [Nat.zero_add, h.cell]; exact hv
theorem dot_one (a s : Int) : ∀ v ∈ dotC a s, v.oneCell' = true := by
  intro v hv
  unfold dotC at hv
  simp only [List.mem_cons, List.not_mem_nil, or_false] at hv
  rcases hv with rfl | rfl <;> rfl
set_option maxHeartbeats 4000000 in
theorem rdot_at (R base : Nat) (z : List Int) (o : Nat) (w : World) (hR : Rd w R base (z.drop o)) (hz : ∀ v ∈ z, b8 v) :
    Calls Tryz.prog 165 #[.pointer (some ⟨R, 0, none⟩)] w fun e w' =>
      (o + 5 ≤ z.length ∧ e = .returned (.agg (dotC (at1 z o) (at4 z (o + 1))).toArray) ∧ Rd w' R base (z.drop (o + 5)) ∧ Took w w' R base) ∨ (z.length < o + 5 ∧ e = .panicked [wrongP] ∧ Took w w' R base) := by
  have hlt := hR.lt
  have hsz := hR.size
  have h1 := fun wx (h : Rd wx R base (z.drop o)) => rone_at R base z o wx h
  have h4 := fun wx (h : Rd wx R base (z.drop (o + 1))) => rfour_at R base z (o + 1) wx h hz
  obtain ⟨A, hA⟩ : ∃ q, at1 z o = q := ⟨_, rfl⟩
  rw [hA] at h1 ⊢
  obtain ⟨S, hS⟩ : ∃ q, at4 z (o + 1) = q := ⟨_, rfl⟩
  rw [hS] at h4 ⊢
  have hG0 := (CellsAt.new w 26 (dotC 0 0)).alloc (.cells (dotC 0 0).toArray 26)
  have hG1 : CellsAt ((w.alloc (.cells (dotC 0 0).toArray 26)).alloc (.cells (dotC 0 0).toArray 26)) (w.heap.size + 1) 26 (dotC 0 0) := by
    have := CellsAt.new (w.alloc (.cells (dotC 0 0).toArray 26)) 26 (dotC 0 0)
    rw [World.size_alloc] at this
    exact this
  have hR0 := (hR.alloc (.cells (dotC 0 0).toArray 26)).alloc (.cells (dotC 0 0).toArray 26)
  have hT0 : Took w ((w.alloc (.cells (dotC 0 0).toArray 26)).alloc (.cells (dotC 0 0).toArray 26)) R base := (Took.alloc hsz _).trans (Took.alloc (by simp; omega) _)
  clear hA hS hR hz
  go_enter Tryz.func165, Tryz.ntmps165
  go_upto_region 2 with fail
  refine forget (p := fun y => Code.wp _ _ _ _ y) (fun W => Rd W R base (z.drop o) ∧ Took w W R base ∧ CellsAt W w.heap.size 26 (dotC 0 0) ∧ CellsAt W (w.heap.size + 1) 26 (dotC 0 0)) ⟨hR0, hT0, hG0, hG1⟩ ?_
  clear hR0 hT0 hG0 hG1
  rintro W ⟨hR0, hT0, hG0, hG1⟩
  have h1W := h1 W hR0
  by_cases hk1 : o + 1 ≤ z.length
  · go_upto_region 3 with (go_at_call 167; refine h1W.mono ?_; rintro e w1 (⟨_, rfl, hR1, ht1⟩ | ⟨hx, _⟩); rotate_left; (exfalso; omega); have hH1 := hG1.took ht1 (by omega); have c0 := hH1.cell 0; have f0 := hH1.frozen2 0)
    have hH0 := hG0.took ht1 (by omega)
    refine forget (p := fun y => Code.wp _ _ _ _ y) (fun W2 => Rd W2 R base (z.drop (o + 1)) ∧ Took w W2 R base ∧ CellsAt W2 w.heap.size 26 (dotC 0 0) ∧ CellsAt W2 (w.heap.size + 1) 26 (dotC A 0)) ⟨hR1.setCellO _ _ (by show base ≤ w.heap.size + 1; omega) (by show R ≠ w.heap.size + 1; omega), (hT0.trans ht1).setCellO _ _ (by show w.heap.size ≤ w.heap.size + 1; omega) (by show base ≤ w.heap.size + 1; omega), hH0.setOther2 _ _ (by show w.heap.size ≠ w.heap.size + 1; omega), hH1.set2 0 _⟩ ?_
    clear h1W h1 hR0 hT0 hG0 hG1 c0 f0 hH1 hH0 hR1 ht1
    rintro W2 ⟨hR2, hT2, hG0, hG1⟩
    have h4W := h4 W2 hR2
    by_cases hk4 : o + 5 ≤ z.length
    · go_upto_region 4 with (go_at_call 166; refine h4W.mono ?_; rintro e w3 (⟨_, rfl, hR3, ht3⟩ | ⟨hx, _⟩); rotate_left; (exfalso; omega); have hH1 := hG1.took ht3 (by omega); have c1 := hH1.cell 1; have f1 := hH1.frozen2 1)
      have hH0 := hG0.took ht3 (by omega)
      refine forget (p := fun y => Code.wp _ _ _ _ y) (fun W4 => Rd W4 R base (z.drop (o + 5)) ∧ Took w W4 R base ∧ CellsAt W4 w.heap.size 26 (dotC 0 0) ∧ CellsAt W4 (w.heap.size + 1) 26 (dotC A S)) ⟨hR3.setCellO _ _ (by show base ≤ w.heap.size + 1; omega) (by show R ≠ w.heap.size + 1; omega), (hT2.trans ht3).setCellO _ _ (by show w.heap.size ≤ w.heap.size + 1; omega) (by show base ≤ w.heap.size + 1; omega), hH0.setOther2 _ _ (by show w.heap.size ≠ w.heap.size + 1; omega), hH1.set2 1 _⟩ ?_
      clear h4W h4 hR2 hT2 hG0 hG1 c1 f1 hH1 hH0 hR3 ht3
      rintro W4 ⟨hR4, hT4, hG0, hG1⟩
      have rE := hG1.whole2
      go_wp2_with (first
        | (refine wpList_ldv rfl 26 _ rfl _ _ rfl (dotC A S) rE Tryz.underlying26 rfl sizeDot ?_)
        | (refine wpList_stv rfl 26 _ _ rfl _ rfl rfl hG0 sizeDot rfl (dot_one A S) ?_))
      refine bodyPost_ret (results_cell_row (Tryz.results165) _ _ _ _ _ (0, 0) _ rfl (hG0.setRow (dotC A S)) Tryz.underlying26 rfl sizeDot) rfl ?_
      exact .inl ⟨hk4, rfl, hR4.setRowO _ (by omega) (by omega), hT4.setRowO _ (by omega) (by omega)⟩
    · go_upto_region 4 with (go_at_call 166; refine h4W.mono ?_; rintro e w3 (⟨hx, _⟩ | ⟨_, rfl, ht3⟩); (exfalso; omega))
      exact bodyPost_gone (.inr ⟨by omega, rfl, hT2.trans ht3⟩)
  · go_upto_region 3 with (go_at_call 167; refine h1W.mono ?_; rintro e w1 (⟨hx, _⟩ | ⟨_, rfl, ht1⟩); (exfalso; omega))
    exact bodyPost_gone (.inr ⟨by omega, rfl, hT0.trans ht1⟩)
end Go.Proofs.YtfainlfiphdaeaaGreatDoor
