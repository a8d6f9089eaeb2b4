/- The diagonals of a block's round, walked. (Written by mkcb.py.) The bytes of a block's words; a block. A block of the stream. -/
import Derived.Test.YtfainlfiphdaeaaGreatDoorMCbCgCbd
namespace Go.Proofs.YtfainlfiphdaeaaGreatDoor
open Go.RowKit
set_option maxRecDepth 20000
set_option linter.unusedSimpArgs false

set_option maxHeartbeats 4000000 in
theorem slant_any (s : List Int) (g B : Nat) (w w0 : World) (hs : s.length = 16) (hg : Holds w g .u32 214 s) (hB : B ≤ g) (hb : Below B w0 w) :
    Calls Tryz.prog 183 #[.pointer (some ⟨g, 0, none⟩)] w fun e w' => (∃ v, e = .returned v) ∧ Below B w0 w' ∧ Holds w' g .u32 214 (qAt (qAt (qAt (qAt s 0 5 10 15) 1 6 11 12) 2 7 8 13) 3 4 9 14) := by
  go_enter Tryz.func183, Tryz.ntmps183
  go_wp2_with fail
  have hc0 : w.cell? ⟨g, 0, none⟩ = _ := hg.at 0 (by omega)
  have hc1 : w.cell? ⟨g, 5, none⟩ = _ := hg.at 5 (by omega)
  have hc2 : w.cell? ⟨g, 10, none⟩ = _ := hg.at 10 (by omega)
  have hc3 : w.cell? ⟨g, 15, none⟩ = _ := hg.at 15 (by omega)
  have hf := hg.frozen
  refine wp_region_gate (fun w' : World => w'.cell? ⟨g, 0, none⟩ = some (.int .u32 (at' s 0)) ∧ w'.cell? ⟨g, 5, none⟩ = some (.int .u32 (at' s 5)) ∧ w'.cell? ⟨g, 10, none⟩ = some (.int .u32 (at' s 10)) ∧ w'.cell? ⟨g, 15, none⟩ = some (.int .u32 (at' s 15))) 28 (by kernel_rfl) ?_
  have hS : (fun w' : World => w'.cell? ⟨g, 0, none⟩ = some (.int .u32 (at' s 0)) ∧ w'.cell? ⟨g, 5, none⟩ = some (.int .u32 (at' s 5)) ∧ w'.cell? ⟨g, 10, none⟩ = some (.int .u32 (at' s 10)) ∧ w'.cell? ⟨g, 15, none⟩ = some (.int .u32 (at' s 15))) w.drew := ⟨hc0, hc1, hc2, hc3⟩
  refine wpAnyG_any (i := 0) (v := .pointer (some ⟨g, 0, none⟩)) rfl (by kernel_rfl) (by kernel_rfl) (by kernel_rfl) (fun _ _ _ h => h) (by kernel_rfl) (fun _ => hS) (by rfl) (fun _ => by go_simp) ?_
  simp only [Act.put, List.setIfInBounds_toArray, List.set_cons_zero, List.set_cons_succ]
  refine wpAnyG_any (i := 1) (v := .pointer (some ⟨g, 0, none⟩)) rfl (by kernel_rfl) (by kernel_rfl) (by kernel_rfl) (fun _ _ _ h => h) (by kernel_rfl) (fun _ => hS) (by rfl) (fun _ => by go_simp) ?_
  simp only [Act.put, List.setIfInBounds_toArray, List.set_cons_zero, List.set_cons_succ]
  refine wpAnyG_any (i := 2) (v := .pointer (some ⟨g, 0, none⟩)) rfl (by kernel_rfl) (by kernel_rfl) (by kernel_rfl) (fun _ _ _ h => h) (by kernel_rfl) (fun _ => hS) (by rfl) (fun _ => by go_simp) ?_
  simp only [Act.put, List.setIfInBounds_toArray, List.set_cons_zero, List.set_cons_succ]
  refine wpAnyG_any (i := 3) (v := .pointer (some ⟨g, 0, none⟩)) rfl (by kernel_rfl) (by kernel_rfl) (by kernel_rfl) (fun _ _ _ h => h) (by kernel_rfl) (fun _ => hS) (by rfl) (fun _ => by go_simp) ?_
  simp only [Act.put, List.setIfInBounds_toArray, List.set_cons_zero, List.set_cons_succ]
  refine wpAnyG_any (i := 4) (v := .pointer (some ⟨g, 0, none⟩)) rfl (by kernel_rfl) (by kernel_rfl) (by kernel_rfl) (fun _ _ _ h => h) (by kernel_rfl) (fun _ => hS) (by rfl) (fun _ => by go_simp) ?_
  simp only [Act.put, List.setIfInBounds_toArray, List.set_cons_zero, List.set_cons_succ]
  refine wpAnyG_any (i := 5) (v := .pointer (some ⟨g, 0, none⟩)) rfl (by kernel_rfl) (by kernel_rfl) (by kernel_rfl) (fun _ _ _ h => h) (by kernel_rfl) (fun _ => hS) (by rfl) (fun _ => by go_simp) ?_
  simp only [Act.put, List.setIfInBounds_toArray, List.set_cons_zero, List.set_cons_succ]
  refine wpAnyG_any (i := 6) (v := .pointer (some ⟨g, 0, none⟩)) rfl (by kernel_rfl) (by kernel_rfl) (by kernel_rfl) (fun _ _ _ h => h) (by kernel_rfl) (fun _ => hS) (by rfl) (fun _ => by go_simp) ?_
  simp only [Act.put, List.setIfInBounds_toArray, List.set_cons_zero, List.set_cons_succ]
  refine wpAnyG_read (i := 7) (v := .int .u32 (at' s 0)) rfl (by kernel_rfl) (by kernel_rfl) (by kernel_rfl) (fun _ _ _ h => h) (by kernel_rfl) (by kernel_rfl) (by kernel_rfl) hS (by rfl) (fun wx hSw => by obtain ⟨hx0, hx1, hx2, hx3⟩ := hSw; go_simp) ?_
  simp only [Act.put, List.setIfInBounds_toArray, List.set_cons_zero, List.set_cons_succ]
  refine wpAnyG_any (i := 8) (v := .pointer (some ⟨g, 0, none⟩)) rfl (by kernel_rfl) (by kernel_rfl) (by kernel_rfl) (fun _ _ _ h => h) (by kernel_rfl) (fun _ => hS) (by rfl) (fun _ => by go_simp) ?_
  simp only [Act.put, List.setIfInBounds_toArray, List.set_cons_zero, List.set_cons_succ]
  refine wpAnyG_any (i := 9) (v := .pointer (some ⟨g, 0, none⟩)) rfl (by kernel_rfl) (by kernel_rfl) (by kernel_rfl) (fun _ _ _ h => h) (by kernel_rfl) (fun _ => hS) (by rfl) (fun _ => by go_simp) ?_
  simp only [Act.put, List.setIfInBounds_toArray, List.set_cons_zero, List.set_cons_succ]
  refine wpAnyG_any (i := 10) (v := .pointer (some ⟨g, 5, none⟩)) rfl (by kernel_rfl) (by kernel_rfl) (by kernel_rfl) (fun _ _ _ h => h) (by kernel_rfl) (fun _ => hS) (by rfl) (fun _ => by go_simp) ?_
  simp only [Act.put, List.setIfInBounds_toArray, List.set_cons_zero, List.set_cons_succ]
  refine wpAnyG_read (i := 11) (v := .int .u32 (at' s 5)) rfl (by kernel_rfl) (by kernel_rfl) (by kernel_rfl) (fun _ _ _ h => h) (by kernel_rfl) (by kernel_rfl) (by kernel_rfl) hS (by rfl) (fun wx hSw => by obtain ⟨hx0, hx1, hx2, hx3⟩ := hSw; go_simp) ?_
  simp only [Act.put, List.setIfInBounds_toArray, List.set_cons_zero, List.set_cons_succ]
  refine wpAnyG_any (i := 12) (v := .pointer (some ⟨g, 0, none⟩)) rfl (by kernel_rfl) (by kernel_rfl) (by kernel_rfl) (fun _ _ _ h => h) (by kernel_rfl) (fun _ => hS) (by rfl) (fun _ => by go_simp) ?_
  simp only [Act.put, List.setIfInBounds_toArray, List.set_cons_zero, List.set_cons_succ]
  refine wpAnyG_any (i := 13) (v := .pointer (some ⟨g, 0, none⟩)) rfl (by kernel_rfl) (by kernel_rfl) (by kernel_rfl) (fun _ _ _ h => h) (by kernel_rfl) (fun _ => hS) (by rfl) (fun _ => by go_simp) ?_
  simp only [Act.put, List.setIfInBounds_toArray, List.set_cons_zero, List.set_cons_succ]
  refine wpAnyG_any (i := 14) (v := .pointer (some ⟨g, 10, none⟩)) rfl (by kernel_rfl) (by kernel_rfl) (by kernel_rfl) (fun _ _ _ h => h) (by kernel_rfl) (fun _ => hS) (by rfl) (fun _ => by go_simp) ?_
  simp only [Act.put, List.setIfInBounds_toArray, List.set_cons_zero, List.set_cons_succ]
  refine wpAnyG_read (i := 15) (v := .int .u32 (at' s 10)) rfl (by kernel_rfl) (by kernel_rfl) (by kernel_rfl) (fun _ _ _ h => h) (by kernel_rfl) (by kernel_rfl) (by kernel_rfl) hS (by rfl) (fun wx hSw => by obtain ⟨hx0, hx1, hx2, hx3⟩ := hSw; go_simp) ?_
  simp only [Act.put, List.setIfInBounds_toArray, List.set_cons_zero, List.set_cons_succ]
  refine wpAnyG_any (i := 16) (v := .pointer (some ⟨g, 0, none⟩)) rfl (by kernel_rfl) (by kernel_rfl) (by kernel_rfl) (fun _ _ _ h => h) (by kernel_rfl) (fun _ => hS) (by rfl) (fun _ => by go_simp) ?_
  simp only [Act.put, List.setIfInBounds_toArray, List.set_cons_zero, List.set_cons_succ]
  refine wpAnyG_any (i := 17) (v := .pointer (some ⟨g, 0, none⟩)) rfl (by kernel_rfl) (by kernel_rfl) (by kernel_rfl) (fun _ _ _ h => h) (by kernel_rfl) (fun _ => hS) (by rfl) (fun _ => by go_simp) ?_
  simp only [Act.put, List.setIfInBounds_toArray, List.set_cons_zero, List.set_cons_succ]
  refine wpAnyG_any (i := 18) (v := .pointer (some ⟨g, 15, none⟩)) rfl (by kernel_rfl) (by kernel_rfl) (by kernel_rfl) (fun _ _ _ h => h) (by kernel_rfl) (fun _ => hS) (by rfl) (fun _ => by go_simp) ?_
  simp only [Act.put, List.setIfInBounds_toArray, List.set_cons_zero, List.set_cons_succ]
  refine wpAnyG_read (i := 19) (v := .int .u32 (at' s 15)) rfl (by kernel_rfl) (by kernel_rfl) (by kernel_rfl) (fun _ _ _ h => h) (by kernel_rfl) (by kernel_rfl) (by kernel_rfl) hS (by rfl) (fun wx hSw => by obtain ⟨hx0, hx1, hx2, hx3⟩ := hSw; go_simp) ?_
  simp only [Act.put, List.setIfInBounds_toArray, List.set_cons_zero, List.set_cons_succ]
  refine wpAnyG_any (i := 26) (v := .pointer (some ⟨g, 0, none⟩)) rfl (by kernel_rfl) (by kernel_rfl) (by kernel_rfl) (fun _ _ _ h => h) (by kernel_rfl) (fun _ => hS) (by rfl) (fun _ => by go_simp) ?_
  simp only [Act.put, List.setIfInBounds_toArray, List.set_cons_zero, List.set_cons_succ]
  refine wpAnyG_any (i := 29) (v := .pointer (some ⟨g, 0, none⟩)) rfl (by kernel_rfl) (by kernel_rfl) (by kernel_rfl) (fun _ _ _ h => h) (by kernel_rfl) (fun _ => hS) (by rfl) (fun _ => by go_simp) ?_
  simp only [Act.put, List.setIfInBounds_toArray, List.set_cons_zero, List.set_cons_succ]
  refine wpAnyG_any (i := 32) (v := .pointer (some ⟨g, 0, none⟩)) rfl (by kernel_rfl) (by kernel_rfl) (by kernel_rfl) (fun _ _ _ h => h) (by kernel_rfl) (fun _ => hS) (by rfl) (fun _ => by go_simp) ?_
  simp only [Act.put, List.setIfInBounds_toArray, List.set_cons_zero, List.set_cons_succ]
  refine wpAnyG_any (i := 35) (v := .pointer (some ⟨g, 0, none⟩)) rfl (by kernel_rfl) (by kernel_rfl) (by kernel_rfl) (fun _ _ _ h => h) (by kernel_rfl) (fun _ => hS) (by rfl) (fun _ => by go_simp) ?_
  simp only [Act.put, List.setIfInBounds_toArray, List.set_cons_zero, List.set_cons_succ]
  refine wpAnyG_one (i := 20) rfl (by kernel_rfl) (by rfl) (fun K hK => ?_)
  go_wp2_with (go_at_call 202; refine (quarter_any (at' s 0) (at' s 5) (at' s 10) (at' s 15) _).mono ?_; rintro e w4 ⟨rfl, rfl⟩)
  refine hK.out _ _ (fun _ => hS) ?_
  clear hK K
  refine wpAnyG_any (i := 21) (v := .tuple #[.int .u32 (qr (at' s 0) (at' s 5) (at' s 10) (at' s 15)).1, .int .u32 (qr (at' s 0) (at' s 5) (at' s 10) (at' s 15)).2.1, .int .u32 (qr (at' s 0) (at' s 5) (at' s 10) (at' s 15)).2.2.1, .int .u32 (qr (at' s 0) (at' s 5) (at' s 10) (at' s 15)).2.2.2]) rfl (by kernel_rfl) (by kernel_rfl) (by kernel_rfl) (fun _ _ _ h => h) (by kernel_rfl) (fun _ => hS) (by rfl) (fun _ => by go_simp) ?_
  simp only [Act.put, List.setIfInBounds_toArray, List.set_cons_zero, List.set_cons_succ]
  refine wpAnyG_any (i := 22) (v := .int .u32 (qr (at' s 0) (at' s 5) (at' s 10) (at' s 15)).1) rfl (by kernel_rfl) (by kernel_rfl) (by kernel_rfl) (fun _ _ _ h => h) (by kernel_rfl) (fun _ => hS) (by rfl) (fun _ => by go_simp) ?_
  simp only [Act.put, List.setIfInBounds_toArray, List.set_cons_zero, List.set_cons_succ]
  refine wpAnyG_any (i := 23) (v := .int .u32 (qr (at' s 0) (at' s 5) (at' s 10) (at' s 15)).2.1) rfl (by kernel_rfl) (by kernel_rfl) (by kernel_rfl) (fun _ _ _ h => h) (by kernel_rfl) (fun _ => hS) (by rfl) (fun _ => by go_simp) ?_
  simp only [Act.put, List.setIfInBounds_toArray, List.set_cons_zero, List.set_cons_succ]
  refine wpAnyG_any (i := 24) (v := .int .u32 (qr (at' s 0) (at' s 5) (at' s 10) (at' s 15)).2.2.1) rfl (by kernel_rfl) (by kernel_rfl) (by kernel_rfl) (fun _ _ _ h => h) (by kernel_rfl) (fun _ => hS) (by rfl) (fun _ => by go_simp) ?_
  simp only [Act.put, List.setIfInBounds_toArray, List.set_cons_zero, List.set_cons_succ]
  refine wpAnyG_any (i := 25) (v := .int .u32 (qr (at' s 0) (at' s 5) (at' s 10) (at' s 15)).2.2.2) rfl (by kernel_rfl) (by kernel_rfl) (by kernel_rfl) (fun _ _ _ h => h) (by kernel_rfl) (fun _ => hS) (by rfl) (fun _ => by go_simp) ?_
  simp only [Act.put, List.setIfInBounds_toArray, List.set_cons_zero, List.set_cons_succ]
  refine wpAnyG_any (i := 27) (v := .pointer (some ⟨g, 0, none⟩)) rfl (by kernel_rfl) (by kernel_rfl) (by kernel_rfl) (fun _ _ _ h => h) (by kernel_rfl) (fun _ => hS) (by rfl) (fun _ => by go_simp) ?_
  simp only [Act.put, List.setIfInBounds_toArray, List.set_cons_zero, List.set_cons_succ]
  refine wpAnyG_one (i := 28) rfl (by kernel_rfl) (by rfl) (fun K hK => ?_)
  go_simp
  refine hK.out _ _ (fun h => absurd (show true = false from h) (by decide)) ?_
  clear hK K
  refine wpAnyG_any (i := 30) (v := .pointer (some ⟨g, 5, none⟩)) rfl (by kernel_rfl) (by kernel_rfl) (by kernel_rfl) (fun _ _ _ h => h) (by kernel_rfl) (fun h => absurd (show true = false from h) (by decide)) (by rfl) (fun _ => by go_simp) ?_
  simp only [Act.put, List.setIfInBounds_toArray, List.set_cons_zero, List.set_cons_succ]
  refine wpAnyG_one (i := 31) rfl (by kernel_rfl) (by rfl) (fun K hK => ?_)
  go_simp
  refine hK.out _ _ (fun h => absurd (show true = false from h) (by decide)) ?_
  clear hK K
  refine wpAnyG_any (i := 33) (v := .pointer (some ⟨g, 10, none⟩)) rfl (by kernel_rfl) (by kernel_rfl) (by kernel_rfl) (fun _ _ _ h => h) (by kernel_rfl) (fun h => absurd (show true = false from h) (by decide)) (by rfl) (fun _ => by go_simp) ?_
  simp only [Act.put, List.setIfInBounds_toArray, List.set_cons_zero, List.set_cons_succ]
  refine wpAnyG_one (i := 34) rfl (by kernel_rfl) (by rfl) (fun K hK => ?_)
  go_simp
  refine hK.out _ _ (fun h => absurd (show true = false from h) (by decide)) ?_
  clear hK K
  refine wpAnyG_any (i := 36) (v := .pointer (some ⟨g, 15, none⟩)) rfl (by kernel_rfl) (by kernel_rfl) (by kernel_rfl) (fun _ _ _ h => h) (by kernel_rfl) (fun h => absurd (show true = false from h) (by decide)) (by rfl) (fun _ => by go_simp) ?_
  simp only [Act.put, List.setIfInBounds_toArray, List.set_cons_zero, List.set_cons_succ]
  refine wpAnyG_one (i := 37) rfl (by kernel_rfl) (by rfl) (fun K hK => ?_)
  go_simp
  refine hK.out _ _ (fun h => absurd (show true = false from h) (by decide)) ?_
  clear hK K
  refine wpAnyG_done (by kernel_rfl) ?_ _
  clear hS hc0 hc1 hc2 hc3 hf
  refine forget (p := fun y => Exit.then _ _ _ _ y) (fun W0 => Below B w0 W0 ∧ Holds W0 g .u32 214 (qAt s 0 5 10 15)) ⟨(below4 hb hB _ _ _ _ _ _ _ _).drew, (hg.qAt _ _ _ _).drew⟩ ?_
  clear hb hg
  rintro W0 ⟨hb, hg⟩
  have hs1 : (qAt s 0 5 10 15).length = 16 := by rw [qAt_length, hs]
  obtain ⟨s1, hse⟩ : ∃ x, qAt s 0 5 10 15 = x := ⟨_, rfl⟩
  rw [hse] at hg hs1
  have HE1 : Hid ((qAt s 0 5 10 15) = s1) := by show _ = _; exact hse
  clear hse
  go_wp2_with fail
  have hc0 : W0.cell? ⟨g, 1, none⟩ = _ := hg.at 1 (by omega)
  have hc1 : W0.cell? ⟨g, 6, none⟩ = _ := hg.at 6 (by omega)
  have hc2 : W0.cell? ⟨g, 11, none⟩ = _ := hg.at 11 (by omega)
  have hc3 : W0.cell? ⟨g, 12, none⟩ = _ := hg.at 12 (by omega)
  have hf := hg.frozen
  refine wp_region_gate (fun w' : World => w'.cell? ⟨g, 1, none⟩ = some (.int .u32 (at' s1 1)) ∧ w'.cell? ⟨g, 6, none⟩ = some (.int .u32 (at' s1 6)) ∧ w'.cell? ⟨g, 11, none⟩ = some (.int .u32 (at' s1 11)) ∧ w'.cell? ⟨g, 12, none⟩ = some (.int .u32 (at' s1 12))) 28 (by kernel_rfl) ?_
  have hS : (fun w' : World => w'.cell? ⟨g, 1, none⟩ = some (.int .u32 (at' s1 1)) ∧ w'.cell? ⟨g, 6, none⟩ = some (.int .u32 (at' s1 6)) ∧ w'.cell? ⟨g, 11, none⟩ = some (.int .u32 (at' s1 11)) ∧ w'.cell? ⟨g, 12, none⟩ = some (.int .u32 (at' s1 12))) W0.drew := ⟨hc0, hc1, hc2, hc3⟩
  refine wpAnyG_any (i := 0) (v := .pointer (some ⟨g, 0, none⟩)) rfl (by kernel_rfl) (by kernel_rfl) (by kernel_rfl) (fun _ _ _ h => h) (by kernel_rfl) (fun _ => hS) (by rfl) (fun _ => by go_simp) ?_
  simp only [Act.put, List.setIfInBounds_toArray, List.set_cons_zero, List.set_cons_succ]
  refine wpAnyG_any (i := 1) (v := .pointer (some ⟨g, 0, none⟩)) rfl (by kernel_rfl) (by kernel_rfl) (by kernel_rfl) (fun _ _ _ h => h) (by kernel_rfl) (fun _ => hS) (by rfl) (fun _ => by go_simp) ?_
  simp only [Act.put, List.setIfInBounds_toArray, List.set_cons_zero, List.set_cons_succ]
  refine wpAnyG_any (i := 2) (v := .pointer (some ⟨g, 0, none⟩)) rfl (by kernel_rfl) (by kernel_rfl) (by kernel_rfl) (fun _ _ _ h => h) (by kernel_rfl) (fun _ => hS) (by rfl) (fun _ => by go_simp) ?_
  simp only [Act.put, List.setIfInBounds_toArray, List.set_cons_zero, List.set_cons_succ]
  refine wpAnyG_any (i := 3) (v := .pointer (some ⟨g, 0, none⟩)) rfl (by kernel_rfl) (by kernel_rfl) (by kernel_rfl) (fun _ _ _ h => h) (by kernel_rfl) (fun _ => hS) (by rfl) (fun _ => by go_simp) ?_
  simp only [Act.put, List.setIfInBounds_toArray, List.set_cons_zero, List.set_cons_succ]
  refine wpAnyG_any (i := 4) (v := .pointer (some ⟨g, 0, none⟩)) rfl (by kernel_rfl) (by kernel_rfl) (by kernel_rfl) (fun _ _ _ h => h) (by kernel_rfl) (fun _ => hS) (by rfl) (fun _ => by go_simp) ?_
  simp only [Act.put, List.setIfInBounds_toArray, List.set_cons_zero, List.set_cons_succ]
  refine wpAnyG_any (i := 5) (v := .pointer (some ⟨g, 0, none⟩)) rfl (by kernel_rfl) (by kernel_rfl) (by kernel_rfl) (fun _ _ _ h => h) (by kernel_rfl) (fun _ => hS) (by rfl) (fun _ => by go_simp) ?_
  simp only [Act.put, List.setIfInBounds_toArray, List.set_cons_zero, List.set_cons_succ]
  refine wpAnyG_any (i := 6) (v := .pointer (some ⟨g, 1, none⟩)) rfl (by kernel_rfl) (by kernel_rfl) (by kernel_rfl) (fun _ _ _ h => h) (by kernel_rfl) (fun _ => hS) (by rfl) (fun _ => by go_simp) ?_
  simp only [Act.put, List.setIfInBounds_toArray, List.set_cons_zero, List.set_cons_succ]
  refine wpAnyG_read (i := 7) (v := .int .u32 (at' s1 1)) rfl (by kernel_rfl) (by kernel_rfl) (by kernel_rfl) (fun _ _ _ h => h) (by kernel_rfl) (by kernel_rfl) (by kernel_rfl) hS (by rfl) (fun wx hSw => by obtain ⟨hx0, hx1, hx2, hx3⟩ := hSw; go_simp) ?_
  simp only [Act.put, List.setIfInBounds_toArray, List.set_cons_zero, List.set_cons_succ]
  refine wpAnyG_any (i := 8) (v := .pointer (some ⟨g, 0, none⟩)) rfl (by kernel_rfl) (by kernel_rfl) (by kernel_rfl) (fun _ _ _ h => h) (by kernel_rfl) (fun _ => hS) (by rfl) (fun _ => by go_simp) ?_
  simp only [Act.put, List.setIfInBounds_toArray, List.set_cons_zero, List.set_cons_succ]
  refine wpAnyG_any (i := 9) (v := .pointer (some ⟨g, 0, none⟩)) rfl (by kernel_rfl) (by kernel_rfl) (by kernel_rfl) (fun _ _ _ h => h) (by kernel_rfl) (fun _ => hS) (by rfl) (fun _ => by go_simp) ?_
  simp only [Act.put, List.setIfInBounds_toArray, List.set_cons_zero, List.set_cons_succ]
  refine wpAnyG_any (i := 10) (v := .pointer (some ⟨g, 6, none⟩)) rfl (by kernel_rfl) (by kernel_rfl) (by kernel_rfl) (fun _ _ _ h => h) (by kernel_rfl) (fun _ => hS) (by rfl) (fun _ => by go_simp) ?_
  simp only [Act.put, List.setIfInBounds_toArray, List.set_cons_zero, List.set_cons_succ]
  refine wpAnyG_read (i := 11) (v := .int .u32 (at' s1 6)) rfl (by kernel_rfl) (by kernel_rfl) (by kernel_rfl) (fun _ _ _ h => h) (by kernel_rfl) (by kernel_rfl) (by kernel_rfl) hS (by rfl) (fun wx hSw => by obtain ⟨hx0, hx1, hx2, hx3⟩ := hSw; go_simp) ?_
  simp only [Act.put, List.setIfInBounds_toArray, List.set_cons_zero, List.set_cons_succ]
  refine wpAnyG_any (i := 12) (v := .pointer (some ⟨g, 0, none⟩)) rfl (by kernel_rfl) (by kernel_rfl) (by kernel_rfl) (fun _ _ _ h => h) (by kernel_rfl) (fun _ => hS) (by rfl) (fun _ => by go_simp) ?_
  simp only [Act.put, List.setIfInBounds_toArray, List.set_cons_zero, List.set_cons_succ]
  refine wpAnyG_any (i := 13) (v := .pointer (some ⟨g, 0, none⟩)) rfl (by kernel_rfl) (by kernel_rfl) (by kernel_rfl) (fun _ _ _ h => h) (by kernel_rfl) (fun _ => hS) (by rfl) (fun _ => by go_simp) ?_
  simp only [Act.put, List.setIfInBounds_toArray, List.set_cons_zero, List.set_cons_succ]
  refine wpAnyG_any (i := 14) (v := .pointer (some ⟨g, 11, none⟩)) rfl (by kernel_rfl) (by kernel_rfl) (by kernel_rfl) (fun _ _ _ h => h) (by kernel_rfl) (fun _ => hS) (by rfl) (fun _ => by go_simp) ?_
  simp only [Act.put, List.setIfInBounds_toArray, List.set_cons_zero, List.set_cons_succ]
  refine wpAnyG_read (i := 15) (v := .int .u32 (at' s1 11)) rfl (by kernel_rfl) (by kernel_rfl) (by kernel_rfl) (fun _ _ _ h => h) (by kernel_rfl) (by kernel_rfl) (by kernel_rfl) hS (by rfl) (fun wx hSw => by obtain ⟨hx0, hx1, hx2, hx3⟩ := hSw; go_simp) ?_
  simp only [Act.put, List.setIfInBounds_toArray, List.set_cons_zero, List.set_cons_succ]
  refine wpAnyG_any (i := 16) (v := .pointer (some ⟨g, 0, none⟩)) rfl (by kernel_rfl) (by kernel_rfl) (by kernel_rfl) (fun _ _ _ h => h) (by kernel_rfl) (fun _ => hS) (by rfl) (fun _ => by go_simp) ?_
  simp only [Act.put, List.setIfInBounds_toArray, List.set_cons_zero, List.set_cons_succ]
  refine wpAnyG_any (i := 17) (v := .pointer (some ⟨g, 0, none⟩)) rfl (by kernel_rfl) (by kernel_rfl) (by kernel_rfl) (fun _ _ _ h => h) (by kernel_rfl) (fun _ => hS) (by rfl) (fun _ => by go_simp) ?_
  simp only [Act.put, List.setIfInBounds_toArray, List.set_cons_zero, List.set_cons_succ]
  refine wpAnyG_any (i := 18) (v := .pointer (some ⟨g, 12, none⟩)) rfl (by kernel_rfl) (by kernel_rfl) (by kernel_rfl) (fun _ _ _ h => h) (by kernel_rfl) (fun _ => hS) (by rfl) (fun _ => by go_simp) ?_
  simp only [Act.put, List.setIfInBounds_toArray, List.set_cons_zero, List.set_cons_succ]
  refine wpAnyG_read (i := 19) (v := .int .u32 (at' s1 12)) rfl (by kernel_rfl) (by kernel_rfl) (by kernel_rfl) (fun _ _ _ h => h) (by kernel_rfl) (by kernel_rfl) (by kernel_rfl) hS (by rfl) (fun wx hSw => by obtain ⟨hx0, hx1, hx2, hx3⟩ := hSw; go_simp) ?_
  simp only [Act.put, List.setIfInBounds_toArray, List.set_cons_zero, List.set_cons_succ]
  refine wpAnyG_any (i := 26) (v := .pointer (some ⟨g, 0, none⟩)) rfl (by kernel_rfl) (by kernel_rfl) (by kernel_rfl) (fun _ _ _ h => h) (by kernel_rfl) (fun _ => hS) (by rfl) (fun _ => by go_simp) ?_
  simp only [Act.put, List.setIfInBounds_toArray, List.set_cons_zero, List.set_cons_succ]
  refine wpAnyG_any (i := 29) (v := .pointer (some ⟨g, 0, none⟩)) rfl (by kernel_rfl) (by kernel_rfl) (by kernel_rfl) (fun _ _ _ h => h) (by kernel_rfl) (fun _ => hS) (by rfl) (fun _ => by go_simp) ?_
  simp only [Act.put, List.setIfInBounds_toArray, List.set_cons_zero, List.set_cons_succ]
  refine wpAnyG_any (i := 32) (v := .pointer (some ⟨g, 0, none⟩)) rfl (by kernel_rfl) (by kernel_rfl) (by kernel_rfl) (fun _ _ _ h => h) (by kernel_rfl) (fun _ => hS) (by rfl) (fun _ => by go_simp) ?_
  simp only [Act.put, List.setIfInBounds_toArray, List.set_cons_zero, List.set_cons_succ]
  refine wpAnyG_any (i := 35) (v := .pointer (some ⟨g, 0, none⟩)) rfl (by kernel_rfl) (by kernel_rfl) (by kernel_rfl) (fun _ _ _ h => h) (by kernel_rfl) (fun _ => hS) (by rfl) (fun _ => by go_simp) ?_
  simp only [Act.put, List.setIfInBounds_toArray, List.set_cons_zero, List.set_cons_succ]
  refine wpAnyG_one (i := 20) rfl (by kernel_rfl) (by rfl) (fun K hK => ?_)
  go_wp2_with (go_at_call 202; refine (quarter_any (at' s1 1) (at' s1 6) (at' s1 11) (at' s1 12) _).mono ?_; rintro e w4 ⟨rfl, rfl⟩)
  refine hK.out _ _ (fun _ => hS) ?_
  clear hK K
  refine wpAnyG_any (i := 21) (v := .tuple #[.int .u32 (qr (at' s1 1) (at' s1 6) (at' s1 11) (at' s1 12)).1, .int .u32 (qr (at' s1 1) (at' s1 6) (at' s1 11) (at' s1 12)).2.1, .int .u32 (qr (at' s1 1) (at' s1 6) (at' s1 11) (at' s1 12)).2.2.1, .int .u32 (qr (at' s1 1) (at' s1 6) (at' s1 11) (at' s1 12)).2.2.2]) rfl (by kernel_rfl) (by kernel_rfl) (by kernel_rfl) (fun _ _ _ h => h) (by kernel_rfl) (fun _ => hS) (by rfl) (fun _ => by go_simp) ?_
  simp only [Act.put, List.setIfInBounds_toArray, List.set_cons_zero, List.set_cons_succ]
  refine wpAnyG_any (i := 22) (v := .int .u32 (qr (at' s1 1) (at' s1 6) (at' s1 11) (at' s1 12)).1) rfl (by kernel_rfl) (by kernel_rfl) (by kernel_rfl) (fun _ _ _ h => h) (by kernel_rfl) (fun _ => hS) (by rfl) (fun _ => by go_simp) ?_
  simp only [Act.put, List.setIfInBounds_toArray, List.set_cons_zero, List.set_cons_succ]
  refine wpAnyG_any (i := 23) (v := .int .u32 (qr (at' s1 1) (at' s1 6) (at' s1 11) (at' s1 12)).2.1) rfl (by kernel_rfl) (by kernel_rfl) (by kernel_rfl) (fun _ _ _ h => h) (by kernel_rfl) (fun _ => hS) (by rfl) (fun _ => by go_simp) ?_
  simp only [Act.put, List.setIfInBounds_toArray, List.set_cons_zero, List.set_cons_succ]
  refine wpAnyG_any (i := 24) (v := .int .u32 (qr (at' s1 1) (at' s1 6) (at' s1 11) (at' s1 12)).2.2.1) rfl (by kernel_rfl) (by kernel_rfl) (by kernel_rfl) (fun _ _ _ h => h) (by kernel_rfl) (fun _ => hS) (by rfl) (fun _ => by go_simp) ?_
  simp only [Act.put, List.setIfInBounds_toArray, List.set_cons_zero, List.set_cons_succ]
  refine wpAnyG_any (i := 25) (v := .int .u32 (qr (at' s1 1) (at' s1 6) (at' s1 11) (at' s1 12)).2.2.2) rfl (by kernel_rfl) (by kernel_rfl) (by kernel_rfl) (fun _ _ _ h => h) (by kernel_rfl) (fun _ => hS) (by rfl) (fun _ => by go_simp) ?_
  simp only [Act.put, List.setIfInBounds_toArray, List.set_cons_zero, List.set_cons_succ]
  refine wpAnyG_any (i := 27) (v := .pointer (some ⟨g, 1, none⟩)) rfl (by kernel_rfl) (by kernel_rfl) (by kernel_rfl) (fun _ _ _ h => h) (by kernel_rfl) (fun _ => hS) (by rfl) (fun _ => by go_simp) ?_
  simp only [Act.put, List.setIfInBounds_toArray, List.set_cons_zero, List.set_cons_succ]
  refine wpAnyG_one (i := 28) rfl (by kernel_rfl) (by rfl) (fun K hK => ?_)
  go_simp
  refine hK.out _ _ (fun h => absurd (show true = false from h) (by decide)) ?_
  clear hK K
  refine wpAnyG_any (i := 30) (v := .pointer (some ⟨g, 6, none⟩)) rfl (by kernel_rfl) (by kernel_rfl) (by kernel_rfl) (fun _ _ _ h => h) (by kernel_rfl) (fun h => absurd (show true = false from h) (by decide)) (by rfl) (fun _ => by go_simp) ?_
  simp only [Act.put, List.setIfInBounds_toArray, List.set_cons_zero, List.set_cons_succ]
  refine wpAnyG_one (i := 31) rfl (by kernel_rfl) (by rfl) (fun K hK => ?_)
  go_simp
  refine hK.out _ _ (fun h => absurd (show true = false from h) (by decide)) ?_
  clear hK K
  refine wpAnyG_any (i := 33) (v := .pointer (some ⟨g, 11, none⟩)) rfl (by kernel_rfl) (by kernel_rfl) (by kernel_rfl) (fun _ _ _ h => h) (by kernel_rfl) (fun h => absurd (show true = false from h) (by decide)) (by rfl) (fun _ => by go_simp) ?_
  simp only [Act.put, List.setIfInBounds_toArray, List.set_cons_zero, List.set_cons_succ]
  refine wpAnyG_one (i := 34) rfl (by kernel_rfl) (by rfl) (fun K hK => ?_)
  go_simp
  refine hK.out _ _ (fun h => absurd (show true = false from h) (by decide)) ?_
  clear hK K
  refine wpAnyG_any (i := 36) (v := .pointer (some ⟨g, 12, none⟩)) rfl (by kernel_rfl) (by kernel_rfl) (by kernel_rfl) (fun _ _ _ h => h) (by kernel_rfl) (fun h => absurd (show true = false from h) (by decide)) (by rfl) (fun _ => by go_simp) ?_
  simp only [Act.put, List.setIfInBounds_toArray, List.set_cons_zero, List.set_cons_succ]
  refine wpAnyG_one (i := 37) rfl (by kernel_rfl) (by rfl) (fun K hK => ?_)
  go_simp
  refine hK.out _ _ (fun h => absurd (show true = false from h) (by decide)) ?_
  clear hK K
  refine wpAnyG_done (by kernel_rfl) ?_ _
  clear hS hc0 hc1 hc2 hc3 hf
  refine forget (p := fun y => Exit.then _ _ _ _ y) (fun W0 => Below B w0 W0 ∧ Holds W0 g .u32 214 (qAt s1 1 6 11 12)) ⟨(below4 hb hB _ _ _ _ _ _ _ _).drew, (hg.qAt _ _ _ _).drew⟩ ?_
  clear hb hg
  rintro W1 ⟨hb, hg⟩
  have hs2 : (qAt s1 1 6 11 12).length = 16 := by rw [qAt_length, hs1]
  obtain ⟨s2, hse⟩ : ∃ x, qAt s1 1 6 11 12 = x := ⟨_, rfl⟩
  rw [hse] at hg hs2
  have HE2 : Hid ((qAt (qAt s 0 5 10 15) 1 6 11 12) = s2) := by show _ = _; rw [HE1.out]; exact hse
  clear hse
  go_wp2_with fail
  have hc0 : W1.cell? ⟨g, 2, none⟩ = _ := hg.at 2 (by omega)
  have hc1 : W1.cell? ⟨g, 7, none⟩ = _ := hg.at 7 (by omega)
  have hc2 : W1.cell? ⟨g, 8, none⟩ = _ := hg.at 8 (by omega)
  have hc3 : W1.cell? ⟨g, 13, none⟩ = _ := hg.at 13 (by omega)
  have hf := hg.frozen
  refine wp_region_gate (fun w' : World => w'.cell? ⟨g, 2, none⟩ = some (.int .u32 (at' s2 2)) ∧ w'.cell? ⟨g, 7, none⟩ = some (.int .u32 (at' s2 7)) ∧ w'.cell? ⟨g, 8, none⟩ = some (.int .u32 (at' s2 8)) ∧ w'.cell? ⟨g, 13, none⟩ = some (.int .u32 (at' s2 13))) 28 (by kernel_rfl) ?_
  have hS : (fun w' : World => w'.cell? ⟨g, 2, none⟩ = some (.int .u32 (at' s2 2)) ∧ w'.cell? ⟨g, 7, none⟩ = some (.int .u32 (at' s2 7)) ∧ w'.cell? ⟨g, 8, none⟩ = some (.int .u32 (at' s2 8)) ∧ w'.cell? ⟨g, 13, none⟩ = some (.int .u32 (at' s2 13))) W1.drew := ⟨hc0, hc1, hc2, hc3⟩
  refine wpAnyG_any (i := 0) (v := .pointer (some ⟨g, 0, none⟩)) rfl (by kernel_rfl) (by kernel_rfl) (by kernel_rfl) (fun _ _ _ h => h) (by kernel_rfl) (fun _ => hS) (by rfl) (fun _ => by go_simp) ?_
  simp only [Act.put, List.setIfInBounds_toArray, List.set_cons_zero, List.set_cons_succ]
  refine wpAnyG_any (i := 1) (v := .pointer (some ⟨g, 0, none⟩)) rfl (by kernel_rfl) (by kernel_rfl) (by kernel_rfl) (fun _ _ _ h => h) (by kernel_rfl) (fun _ => hS) (by rfl) (fun _ => by go_simp) ?_
  simp only [Act.put, List.setIfInBounds_toArray, List.set_cons_zero, List.set_cons_succ]
  refine wpAnyG_any (i := 2) (v := .pointer (some ⟨g, 0, none⟩)) rfl (by kernel_rfl) (by kernel_rfl) (by kernel_rfl) (fun _ _ _ h => h) (by kernel_rfl) (fun _ => hS) (by rfl) (fun _ => by go_simp) ?_
  simp only [Act.put, List.setIfInBounds_toArray, List.set_cons_zero, List.set_cons_succ]
  refine wpAnyG_any (i := 3) (v := .pointer (some ⟨g, 0, none⟩)) rfl (by kernel_rfl) (by kernel_rfl) (by kernel_rfl) (fun _ _ _ h => h) (by kernel_rfl) (fun _ => hS) (by rfl) (fun _ => by go_simp) ?_
  simp only [Act.put, List.setIfInBounds_toArray, List.set_cons_zero, List.set_cons_succ]
  refine wpAnyG_any (i := 4) (v := .pointer (some ⟨g, 0, none⟩)) rfl (by kernel_rfl) (by kernel_rfl) (by kernel_rfl) (fun _ _ _ h => h) (by kernel_rfl) (fun _ => hS) (by rfl) (fun _ => by go_simp) ?_
  simp only [Act.put, List.setIfInBounds_toArray, List.set_cons_zero, List.set_cons_succ]
  refine wpAnyG_any (i := 5) (v := .pointer (some ⟨g, 0, none⟩)) rfl (by kernel_rfl) (by kernel_rfl) (by kernel_rfl) (fun _ _ _ h => h) (by kernel_rfl) (fun _ => hS) (by rfl) (fun _ => by go_simp) ?_
  simp only [Act.put, List.setIfInBounds_toArray, List.set_cons_zero, List.set_cons_succ]
  refine wpAnyG_any (i := 6) (v := .pointer (some ⟨g, 2, none⟩)) rfl (by kernel_rfl) (by kernel_rfl) (by kernel_rfl) (fun _ _ _ h => h) (by kernel_rfl) (fun _ => hS) (by rfl) (fun _ => by go_simp) ?_
  simp only [Act.put, List.setIfInBounds_toArray, List.set_cons_zero, List.set_cons_succ]
  refine wpAnyG_read (i := 7) (v := .int .u32 (at' s2 2)) rfl (by kernel_rfl) (by kernel_rfl) (by kernel_rfl) (fun _ _ _ h => h) (by kernel_rfl) (by kernel_rfl) (by kernel_rfl) hS (by rfl) (fun wx hSw => by obtain ⟨hx0, hx1, hx2, hx3⟩ := hSw; go_simp) ?_
  simp only [Act.put, List.setIfInBounds_toArray, List.set_cons_zero, List.set_cons_succ]
  refine wpAnyG_any (i := 8) (v := .pointer (some ⟨g, 0, none⟩)) rfl (by kernel_rfl) (by kernel_rfl) (by kernel_rfl) (fun _ _ _ h => h) (by kernel_rfl) (fun _ => hS) (by rfl) (fun _ => by go_simp) ?_
  simp only [Act.put, List.setIfInBounds_toArray, List.set_cons_zero, List.set_cons_succ]
  refine wpAnyG_any (i := 9) (v := .pointer (some ⟨g, 0, none⟩)) rfl (by kernel_rfl) (by kernel_rfl) (by kernel_rfl) (fun _ _ _ h => h) (by kernel_rfl) (fun _ => hS) (by rfl) (fun _ => by go_simp) ?_
  simp only [Act.put, List.setIfInBounds_toArray, List.set_cons_zero, List.set_cons_succ]
  refine wpAnyG_any (i := 10) (v := .pointer (some ⟨g, 7, none⟩)) rfl (by kernel_rfl) (by kernel_rfl) (by kernel_rfl) (fun _ _ _ h => h) (by kernel_rfl) (fun _ => hS) (by rfl) (fun _ => by go_simp) ?_
  simp only [Act.put, List.setIfInBounds_toArray, List.set_cons_zero, List.set_cons_succ]
  refine wpAnyG_read (i := 11) (v := .int .u32 (at' s2 7)) rfl (by kernel_rfl) (by kernel_rfl) (by kernel_rfl) (fun _ _ _ h => h) (by kernel_rfl) (by kernel_rfl) (by kernel_rfl) hS (by rfl) (fun wx hSw => by obtain ⟨hx0, hx1, hx2, hx3⟩ := hSw; go_simp) ?_
  simp only [Act.put, List.setIfInBounds_toArray, List.set_cons_zero, List.set_cons_succ]
  refine wpAnyG_any (i := 12) (v := .pointer (some ⟨g, 0, none⟩)) rfl (by kernel_rfl) (by kernel_rfl) (by kernel_rfl) (fun _ _ _ h => h) (by kernel_rfl) (fun _ => hS) (by rfl) (fun _ => by go_simp) ?_
  simp only [Act.put, List.setIfInBounds_toArray, List.set_cons_zero, List.set_cons_succ]
  refine wpAnyG_any (i := 13) (v := .pointer (some ⟨g, 0, none⟩)) rfl (by kernel_rfl) (by kernel_rfl) (by kernel_rfl) (fun _ _ _ h => h) (by kernel_rfl) (fun _ => hS) (by rfl) (fun _ => by go_simp) ?_
  simp only [Act.put, List.setIfInBounds_toArray, List.set_cons_zero, List.set_cons_succ]
  refine wpAnyG_any (i := 14) (v := .pointer (some ⟨g, 8, none⟩)) rfl (by kernel_rfl) (by kernel_rfl) (by kernel_rfl) (fun _ _ _ h => h) (by kernel_rfl) (fun _ => hS) (by rfl) (fun _ => by go_simp) ?_
  simp only [Act.put, List.setIfInBounds_toArray, List.set_cons_zero, List.set_cons_succ]
  refine wpAnyG_read (i := 15) (v := .int .u32 (at' s2 8)) rfl (by kernel_rfl) (by kernel_rfl) (by kernel_rfl) (fun _ _ _ h => h) (by kernel_rfl) (by kernel_rfl) (by kernel_rfl) hS (by rfl) (fun wx hSw => by obtain ⟨hx0, hx1, hx2, hx3⟩ := hSw; go_simp) ?_
  simp only [Act.put, List.setIfInBounds_toArray, List.set_cons_zero, List.set_cons_succ]
  refine wpAnyG_any (i := 16) (v := .pointer (some ⟨g, 0, none⟩)) rfl (by kernel_rfl) (by kernel_rfl) (by kernel_rfl) (fun _ _ _ h => h) (by kernel_rfl) (fun _ => hS) (by rfl) (fun _ => by go_simp) ?_
  simp only [Act.put, List.setIfInBounds_toArray, List.set_cons_zero, List.set_cons_succ]
  refine wpAnyG_any (i := 17) (v := .pointer (some ⟨g, 0, none⟩)) rfl (by kernel_rfl) (by kernel_rfl) (by kernel_rfl) (fun _ _ _ h => h) (by kernel_rfl) (fun _ => hS) (by rfl) (fun _ => by go_simp) ?_
  simp only [Act.put, List.setIfInBounds_toArray, List.set_cons_zero, List.set_cons_succ]
  refine wpAnyG_any (i := 18) (v := .pointer (some ⟨g, 13, none⟩)) rfl (by kernel_rfl) (by kernel_rfl) (by kernel_rfl) (fun _ _ _ h => h) (by kernel_rfl) (fun _ => hS) (by rfl) (fun _ => by go_simp) ?_
  simp only [Act.put, List.setIfInBounds_toArray, List.set_cons_zero, List.set_cons_succ]
  refine wpAnyG_read (i := 19) (v := .int .u32 (at' s2 13)) rfl (by kernel_rfl) (by kernel_rfl) (by kernel_rfl) (fun _ _ _ h => h) (by kernel_rfl) (by kernel_rfl) (by kernel_rfl) hS (by rfl) (fun wx hSw => by obtain ⟨hx0, hx1, hx2, hx3⟩ := hSw; go_simp) ?_
  simp only [Act.put, List.setIfInBounds_toArray, List.set_cons_zero, List.set_cons_succ]
  refine wpAnyG_any (i := 26) (v := .pointer (some ⟨g, 0, none⟩)) rfl (by kernel_rfl) (by kernel_rfl) (by kernel_rfl) (fun _ _ _ h => h) (by kernel_rfl) (fun _ => hS) (by rfl) (fun _ => by go_simp) ?_
  simp only [Act.put, List.setIfInBounds_toArray, List.set_cons_zero, List.set_cons_succ]
  refine wpAnyG_any (i := 29) (v := .pointer (some ⟨g, 0, none⟩)) rfl (by kernel_rfl) (by kernel_rfl) (by kernel_rfl) (fun _ _ _ h => h) (by kernel_rfl) (fun _ => hS) (by rfl) (fun _ => by go_simp) ?_
  simp only [Act.put, List.setIfInBounds_toArray, List.set_cons_zero, List.set_cons_succ]
  refine wpAnyG_any (i := 32) (v := .pointer (some ⟨g, 0, none⟩)) rfl (by kernel_rfl) (by kernel_rfl) (by kernel_rfl) (fun _ _ _ h => h) (by kernel_rfl) (fun _ => hS) (by rfl) (fun _ => by go_simp) ?_
  simp only [Act.put, List.setIfInBounds_toArray, List.set_cons_zero, List.set_cons_succ]
  refine wpAnyG_any (i := 35) (v := .pointer (some ⟨g, 0, none⟩)) rfl (by kernel_rfl) (by kernel_rfl) (by kernel_rfl) (fun _ _ _ h => h) (by kernel_rfl) (fun _ => hS) (by rfl) (fun _ => by go_simp) ?_
  simp only [Act.put, List.setIfInBounds_toArray, List.set_cons_zero, List.set_cons_succ]
  refine wpAnyG_one (i := 20) rfl (by kernel_rfl) (by rfl) (fun K hK => ?_)
  go_wp2_with (go_at_call 202; refine (quarter_any (at' s2 2) (at' s2 7) (at' s2 8) (at' s2 13) _).mono ?_; rintro e w4 ⟨rfl, rfl⟩)
  refine hK.out _ _ (fun _ => hS) ?_
  clear hK K
  refine wpAnyG_any (i := 21) (v := .tuple #[.int .u32 (qr (at' s2 2) (at' s2 7) (at' s2 8) (at' s2 13)).1, .int .u32 (qr (at' s2 2) (at' s2 7) (at' s2 8) (at' s2 13)).2.1, .int .u32 (qr (at' s2 2) (at' s2 7) (at' s2 8) (at' s2 13)).2.2.1, .int .u32 (qr (at' s2 2) (at' s2 7) (at' s2 8) (at' s2 13)).2.2.2]) rfl (by kernel_rfl) (by kernel_rfl) (by kernel_rfl) (fun _ _ _ h => h) (by kernel_rfl) (fun _ => hS) (by rfl) (fun _ => by go_simp) ?_
  simp only [Act.put, List.setIfInBounds_toArray, List.set_cons_zero, List.set_cons_succ]
  refine wpAnyG_any (i := 22) (v := .int .u32 (qr (at' s2 2) (at' s2 7) (at' s2 8) (at' s2 13)).1) rfl (by kernel_rfl) (by kernel_rfl) (by kernel_rfl) (fun _ _ _ h => h) (by kernel_rfl) (fun _ => hS) (by rfl) (fun _ => by go_simp) ?_
  simp only [Act.put, List.setIfInBounds_toArray, List.set_cons_zero, List.set_cons_succ]
  refine wpAnyG_any (i := 23) (v := .int .u32 (qr (at' s2 2) (at' s2 7) (at' s2 8) (at' s2 13)).2.1) rfl (by kernel_rfl) (by kernel_rfl) (by kernel_rfl) (fun _ _ _ h => h) (by kernel_rfl) (fun _ => hS) (by rfl) (fun _ => by go_simp) ?_
  simp only [Act.put, List.setIfInBounds_toArray, List.set_cons_zero, List.set_cons_succ]
  refine wpAnyG_any (i := 24) (v := .int .u32 (qr (at' s2 2) (at' s2 7) (at' s2 8) (at' s2 13)).2.2.1) rfl (by kernel_rfl) (by kernel_rfl) (by kernel_rfl) (fun _ _ _ h => h) (by kernel_rfl) (fun _ => hS) (by rfl) (fun _ => by go_simp) ?_
  simp only [Act.put, List.setIfInBounds_toArray, List.set_cons_zero, List.set_cons_succ]
  refine wpAnyG_any (i := 25) (v := .int .u32 (qr (at' s2 2) (at' s2 7) (at' s2 8) (at' s2 13)).2.2.2) rfl (by kernel_rfl) (by kernel_rfl) (by kernel_rfl) (fun _ _ _ h => h) (by kernel_rfl) (fun _ => hS) (by rfl) (fun _ => by go_simp) ?_
  simp only [Act.put, List.setIfInBounds_toArray, List.set_cons_zero, List.set_cons_succ]
  refine wpAnyG_any (i := 27) (v := .pointer (some ⟨g, 2, none⟩)) rfl (by kernel_rfl) (by kernel_rfl) (by kernel_rfl) (fun _ _ _ h => h) (by kernel_rfl) (fun _ => hS) (by rfl) (fun _ => by go_simp) ?_
  simp only [Act.put, List.setIfInBounds_toArray, List.set_cons_zero, List.set_cons_succ]
  refine wpAnyG_one (i := 28) rfl (by kernel_rfl) (by rfl) (fun K hK => ?_)
  go_simp
  refine hK.out _ _ (fun h => absurd (show true = false from h) (by decide)) ?_
  clear hK K
  refine wpAnyG_any (i := 30) (v := .pointer (some ⟨g, 7, none⟩)) rfl (by kernel_rfl) (by kernel_rfl) (by kernel_rfl) (fun _ _ _ h => h) (by kernel_rfl) (fun h => absurd (show true = false from h) (by decide)) (by rfl) (fun _ => by go_simp) ?_
  simp only [Act.put, List.setIfInBounds_toArray, List.set_cons_zero, List.set_cons_succ]
  refine wpAnyG_one (i := 31) rfl (by kernel_rfl) (by rfl) (fun K hK => ?_)
  go_simp
  refine hK.out _ _ (fun h => absurd (show true = false from h) (by decide)) ?_
  clear hK K
  refine wpAnyG_any (i := 33) (v := .pointer (some ⟨g, 8, none⟩)) rfl (by kernel_rfl) (by kernel_rfl) (by kernel_rfl) (fun _ _ _ h => h) (by kernel_rfl) (fun h => absurd (show true = false from h) (by decide)) (by rfl) (fun _ => by go_simp) ?_
  simp only [Act.put, List.setIfInBounds_toArray, List.set_cons_zero, List.set_cons_succ]
  refine wpAnyG_one (i := 34) rfl (by kernel_rfl) (by rfl) (fun K hK => ?_)
  go_simp
  refine hK.out _ _ (fun h => absurd (show true = false from h) (by decide)) ?_
  clear hK K
  refine wpAnyG_any (i := 36) (v := .pointer (some ⟨g, 13, none⟩)) rfl (by kernel_rfl) (by kernel_rfl) (by kernel_rfl) (fun _ _ _ h => h) (by kernel_rfl) (fun h => absurd (show true = false from h) (by decide)) (by rfl) (fun _ => by go_simp) ?_
  simp only [Act.put, List.setIfInBounds_toArray, List.set_cons_zero, List.set_cons_succ]
  refine wpAnyG_one (i := 37) rfl (by kernel_rfl) (by rfl) (fun K hK => ?_)
  go_simp
  refine hK.out _ _ (fun h => absurd (show true = false from h) (by decide)) ?_
  clear hK K
  refine wpAnyG_done (by kernel_rfl) ?_ _
  clear hS hc0 hc1 hc2 hc3 hf
  refine forget (p := fun y => Exit.then _ _ _ _ y) (fun W0 => Below B w0 W0 ∧ Holds W0 g .u32 214 (qAt s2 2 7 8 13)) ⟨(below4 hb hB _ _ _ _ _ _ _ _).drew, (hg.qAt _ _ _ _).drew⟩ ?_
  clear hb hg
  rintro W2 ⟨hb, hg⟩
  have hs3 : (qAt s2 2 7 8 13).length = 16 := by rw [qAt_length, hs2]
  obtain ⟨s3, hse⟩ : ∃ x, qAt s2 2 7 8 13 = x := ⟨_, rfl⟩
  rw [hse] at hg hs3
  have HE3 : Hid ((qAt (qAt (qAt s 0 5 10 15) 1 6 11 12) 2 7 8 13) = s3) := by show _ = _; rw [HE2.out]; exact hse
  clear hse
  go_wp2_with fail
  have hc0 : W2.cell? ⟨g, 3, none⟩ = _ := hg.at 3 (by omega)
  have hc1 : W2.cell? ⟨g, 4, none⟩ = _ := hg.at 4 (by omega)
  have hc2 : W2.cell? ⟨g, 9, none⟩ = _ := hg.at 9 (by omega)
  have hc3 : W2.cell? ⟨g, 14, none⟩ = _ := hg.at 14 (by omega)
  have hf := hg.frozen
  refine wp_region_gate (fun w' : World => w'.cell? ⟨g, 3, none⟩ = some (.int .u32 (at' s3 3)) ∧ w'.cell? ⟨g, 4, none⟩ = some (.int .u32 (at' s3 4)) ∧ w'.cell? ⟨g, 9, none⟩ = some (.int .u32 (at' s3 9)) ∧ w'.cell? ⟨g, 14, none⟩ = some (.int .u32 (at' s3 14))) 28 (by kernel_rfl) ?_
  have hS : (fun w' : World => w'.cell? ⟨g, 3, none⟩ = some (.int .u32 (at' s3 3)) ∧ w'.cell? ⟨g, 4, none⟩ = some (.int .u32 (at' s3 4)) ∧ w'.cell? ⟨g, 9, none⟩ = some (.int .u32 (at' s3 9)) ∧ w'.cell? ⟨g, 14, none⟩ = some (.int .u32 (at' s3 14))) W2.drew := ⟨hc0, hc1, hc2, hc3⟩
  refine wpAnyG_any (i := 0) (v := .pointer (some ⟨g, 0, none⟩)) rfl (by kernel_rfl) (by kernel_rfl) (by kernel_rfl) (fun _ _ _ h => h) (by kernel_rfl) (fun _ => hS) (by rfl) (fun _ => by go_simp) ?_
  simp only [Act.put, List.setIfInBounds_toArray, List.set_cons_zero, List.set_cons_succ]
  refine wpAnyG_any (i := 1) (v := .pointer (some ⟨g, 0, none⟩)) rfl (by kernel_rfl) (by kernel_rfl) (by kernel_rfl) (fun _ _ _ h => h) (by kernel_rfl) (fun _ => hS) (by rfl) (fun _ => by go_simp) ?_
  simp only [Act.put, List.setIfInBounds_toArray, List.set_cons_zero, List.set_cons_succ]
  refine wpAnyG_any (i := 2) (v := .pointer (some ⟨g, 0, none⟩)) rfl (by kernel_rfl) (by kernel_rfl) (by kernel_rfl) (fun _ _ _ h => h) (by kernel_rfl) (fun _ => hS) (by rfl) (fun _ => by go_simp) ?_
  simp only [Act.put, List.setIfInBounds_toArray, List.set_cons_zero, List.set_cons_succ]
  refine wpAnyG_any (i := 3) (v := .pointer (some ⟨g, 0, none⟩)) rfl (by kernel_rfl) (by kernel_rfl) (by kernel_rfl) (fun _ _ _ h => h) (by kernel_rfl) (fun _ => hS) (by rfl) (fun _ => by go_simp) ?_
  simp only [Act.put, List.setIfInBounds_toArray, List.set_cons_zero, List.set_cons_succ]
  refine wpAnyG_any (i := 4) (v := .pointer (some ⟨g, 0, none⟩)) rfl (by kernel_rfl) (by kernel_rfl) (by kernel_rfl) (fun _ _ _ h => h) (by kernel_rfl) (fun _ => hS) (by rfl) (fun _ => by go_simp) ?_
  simp only [Act.put, List.setIfInBounds_toArray, List.set_cons_zero, List.set_cons_succ]
  refine wpAnyG_any (i := 5) (v := .pointer (some ⟨g, 0, none⟩)) rfl (by kernel_rfl) (by kernel_rfl) (by kernel_rfl) (fun _ _ _ h => h) (by kernel_rfl) (fun _ => hS) (by rfl) (fun _ => by go_simp) ?_
  simp only [Act.put, List.setIfInBounds_toArray, List.set_cons_zero, List.set_cons_succ]
  refine wpAnyG_any (i := 6) (v := .pointer (some ⟨g, 3, none⟩)) rfl (by kernel_rfl) (by kernel_rfl) (by kernel_rfl) (fun _ _ _ h => h) (by kernel_rfl) (fun _ => hS) (by rfl) (fun _ => by go_simp) ?_
  simp only [Act.put, List.setIfInBounds_toArray, List.set_cons_zero, List.set_cons_succ]
  refine wpAnyG_read (i := 7) (v := .int .u32 (at' s3 3)) rfl (by kernel_rfl) (by kernel_rfl) (by kernel_rfl) (fun _ _ _ h => h) (by kernel_rfl) (by kernel_rfl) (by kernel_rfl) hS (by rfl) (fun wx hSw => by obtain ⟨hx0, hx1, hx2, hx3⟩ := hSw; go_simp) ?_
  simp only [Act.put, List.setIfInBounds_toArray, List.set_cons_zero, List.set_cons_succ]
  refine wpAnyG_any (i := 8) (v := .pointer (some ⟨g, 0, none⟩)) rfl (by kernel_rfl) (by kernel_rfl) (by kernel_rfl) (fun _ _ _ h => h) (by kernel_rfl) (fun _ => hS) (by rfl) (fun _ => by go_simp) ?_
  simp only [Act.put, List.setIfInBounds_toArray, List.set_cons_zero, List.set_cons_succ]
  refine wpAnyG_any (i := 9) (v := .pointer (some ⟨g, 0, none⟩)) rfl (by kernel_rfl) (by kernel_rfl) (by kernel_rfl) (fun _ _ _ h => h) (by kernel_rfl) (fun _ => hS) (by rfl) (fun _ => by go_simp) ?_
  simp only [Act.put, List.setIfInBounds_toArray, List.set_cons_zero, List.set_cons_succ]
  refine wpAnyG_any (i := 10) (v := .pointer (some ⟨g, 4, none⟩)) rfl (by kernel_rfl) (by kernel_rfl) (by kernel_rfl) (fun _ _ _ h => h) (by kernel_rfl) (fun _ => hS) (by rfl) (fun _ => by go_simp) ?_
  simp only [Act.put, List.setIfInBounds_toArray, List.set_cons_zero, List.set_cons_succ]
  refine wpAnyG_read (i := 11) (v := .int .u32 (at' s3 4)) rfl (by kernel_rfl) (by kernel_rfl) (by kernel_rfl) (fun _ _ _ h => h) (by kernel_rfl) (by kernel_rfl) (by kernel_rfl) hS (by rfl) (fun wx hSw => by obtain ⟨hx0, hx1, hx2, hx3⟩ := hSw; go_simp) ?_
  simp only [Act.put, List.setIfInBounds_toArray, List.set_cons_zero, List.set_cons_succ]
  refine wpAnyG_any (i := 12) (v := .pointer (some ⟨g, 0, none⟩)) rfl (by kernel_rfl) (by kernel_rfl) (by kernel_rfl) (fun _ _ _ h => h) (by kernel_rfl) (fun _ => hS) (by rfl) (fun _ => by go_simp) ?_
  simp only [Act.put, List.setIfInBounds_toArray, List.set_cons_zero, List.set_cons_succ]
  refine wpAnyG_any (i := 13) (v := .pointer (some ⟨g, 0, none⟩)) rfl (by kernel_rfl) (by kernel_rfl) (by kernel_rfl) (fun _ _ _ h => h) (by kernel_rfl) (fun _ => hS) (by rfl) (fun _ => by go_simp) ?_
  simp only [Act.put, List.setIfInBounds_toArray, List.set_cons_zero, List.set_cons_succ]
  refine wpAnyG_any (i := 14) (v := .pointer (some ⟨g, 9, none⟩)) rfl (by kernel_rfl) (by kernel_rfl) (by kernel_rfl) (fun _ _ _ h => h) (by kernel_rfl) (fun _ => hS) (by rfl) (fun _ => by go_simp) ?_
  simp only [Act.put, List.setIfInBounds_toArray, List.set_cons_zero, List.set_cons_succ]
  refine wpAnyG_read (i := 15) (v := .int .u32 (at' s3 9)) rfl (by kernel_rfl) (by kernel_rfl) (by kernel_rfl) (fun _ _ _ h => h) (by kernel_rfl) (by kernel_rfl) (by kernel_rfl) hS (by rfl) (fun wx hSw => by obtain ⟨hx0, hx1, hx2, hx3⟩ := hSw; go_simp) ?_
  simp only [Act.put, List.setIfInBounds_toArray, List.set_cons_zero, List.set_cons_succ]
  refine wpAnyG_any (i := 16) (v := .pointer (some ⟨g, 0, none⟩)) rfl (by kernel_rfl) (by kernel_rfl) (by kernel_rfl) (fun _ _ _ h => h) (by kernel_rfl) (fun _ => hS) (by rfl) (fun _ => by go_simp) ?_
  simp only [Act.put, List.setIfInBounds_toArray, List.set_cons_zero, List.set_cons_succ]
  refine wpAnyG_any (i := 17) (v := .pointer (some ⟨g, 0, none⟩)) rfl (by kernel_rfl) (by kernel_rfl) (by kernel_rfl) (fun _ _ _ h => h) (by kernel_rfl) (fun _ => hS) (by rfl) (fun _ => by go_simp) ?_
  simp only [Act.put, List.setIfInBounds_toArray, List.set_cons_zero, List.set_cons_succ]
  refine wpAnyG_any (i := 18) (v := .pointer (some ⟨g, 14, none⟩)) rfl (by kernel_rfl) (by kernel_rfl) (by kernel_rfl) (fun _ _ _ h => h) (by kernel_rfl) (fun _ => hS) (by rfl) (fun _ => by go_simp) ?_
  simp only [Act.put, List.setIfInBounds_toArray, List.set_cons_zero, List.set_cons_succ]
  refine wpAnyG_read (i := 19) (v := .int .u32 (at' s3 14)) rfl (by kernel_rfl) (by kernel_rfl) (by kernel_rfl) (fun _ _ _ h => h) (by kernel_rfl) (by kernel_rfl) (by kernel_rfl) hS (by rfl) (fun wx hSw => by obtain ⟨hx0, hx1, hx2, hx3⟩ := hSw; go_simp) ?_
  simp only [Act.put, List.setIfInBounds_toArray, List.set_cons_zero, List.set_cons_succ]
  refine wpAnyG_any (i := 26) (v := .pointer (some ⟨g, 0, none⟩)) rfl (by kernel_rfl) (by kernel_rfl) (by kernel_rfl) (fun _ _ _ h => h) (by kernel_rfl) (fun _ => hS) (by rfl) (fun _ => by go_simp) ?_
  simp only [Act.put, List.setIfInBounds_toArray, List.set_cons_zero, List.set_cons_succ]
  refine wpAnyG_any (i := 29) (v := .pointer (some ⟨g, 0, none⟩)) rfl (by kernel_rfl) (by kernel_rfl) (by kernel_rfl) (fun _ _ _ h => h) (by kernel_rfl) (fun _ => hS) (by rfl) (fun _ => by go_simp) ?_
  simp only [Act.put, List.setIfInBounds_toArray, List.set_cons_zero, List.set_cons_succ]
  refine wpAnyG_any (i := 32) (v := .pointer (some ⟨g, 0, none⟩)) rfl (by kernel_rfl) (by kernel_rfl) (by kernel_rfl) (fun _ _ _ h => h) (by kernel_rfl) (fun _ => hS) (by rfl) (fun _ => by go_simp) ?_
  simp only [Act.put, List.setIfInBounds_toArray, List.set_cons_zero, List.set_cons_succ]
  refine wpAnyG_any (i := 35) (v := .pointer (some ⟨g, 0, none⟩)) rfl (by kernel_rfl) (by kernel_rfl) (by kernel_rfl) (fun _ _ _ h => h) (by kernel_rfl) (fun _ => hS) (by rfl) (fun _ => by go_simp) ?_
  simp only [Act.put, List.setIfInBounds_toArray, List.set_cons_zero, List.set_cons_succ]
  refine wpAnyG_one (i := 20) rfl (by kernel_rfl) (by rfl) (fun K hK => ?_)
  go_wp2_with (go_at_call 202; refine (quarter_any (at' s3 3) (at' s3 4) (at' s3 9) (at' s3 14) _).mono ?_; rintro e w4 ⟨rfl, rfl⟩)
  refine hK.out _ _ (fun _ => hS) ?_
  clear hK K
  refine wpAnyG_any (i := 21) (v := .tuple #[.int .u32 (qr (at' s3 3) (at' s3 4) (at' s3 9) (at' s3 14)).1, .int .u32 (qr (at' s3 3) (at' s3 4) (at' s3 9) (at' s3 14)).2.1, .int .u32 (qr (at' s3 3) (at' s3 4) (at' s3 9) (at' s3 14)).2.2.1, .int .u32 (qr (at' s3 3) (at' s3 4) (at' s3 9) (at' s3 14)).2.2.2]) rfl (by kernel_rfl) (by kernel_rfl) (by kernel_rfl) (fun _ _ _ h => h) (by kernel_rfl) (fun _ => hS) (by rfl) (fun _ => by go_simp) ?_
  simp only [Act.put, List.setIfInBounds_toArray, List.set_cons_zero, List.set_cons_succ]
  refine wpAnyG_any (i := 22) (v := .int .u32 (qr (at' s3 3) (at' s3 4) (at' s3 9) (at' s3 14)).1) rfl (by kernel_rfl) (by kernel_rfl) (by kernel_rfl) (fun _ _ _ h => h) (by kernel_rfl) (fun _ => hS) (by rfl) (fun _ => by go_simp) ?_
  simp only [Act.put, List.setIfInBounds_toArray, List.set_cons_zero, List.set_cons_succ]
  refine wpAnyG_any (i := 23) (v := .int .u32 (qr (at' s3 3) (at' s3 4) (at' s3 9) (at' s3 14)).2.1) rfl (by kernel_rfl) (by kernel_rfl) (by kernel_rfl) (fun _ _ _ h => h) (by kernel_rfl) (fun _ => hS) (by rfl) (fun _ => by go_simp) ?_
  simp only [Act.put, List.setIfInBounds_toArray, List.set_cons_zero, List.set_cons_succ]
  refine wpAnyG_any (i := 24) (v := .int .u32 (qr (at' s3 3) (at' s3 4) (at' s3 9) (at' s3 14)).2.2.1) rfl (by kernel_rfl) (by kernel_rfl) (by kernel_rfl) (fun _ _ _ h => h) (by kernel_rfl) (fun _ => hS) (by rfl) (fun _ => by go_simp) ?_
  simp only [Act.put, List.setIfInBounds_toArray, List.set_cons_zero, List.set_cons_succ]
  refine wpAnyG_any (i := 25) (v := .int .u32 (qr (at' s3 3) (at' s3 4) (at' s3 9) (at' s3 14)).2.2.2) rfl (by kernel_rfl) (by kernel_rfl) (by kernel_rfl) (fun _ _ _ h => h) (by kernel_rfl) (fun _ => hS) (by rfl) (fun _ => by go_simp) ?_
  simp only [Act.put, List.setIfInBounds_toArray, List.set_cons_zero, List.set_cons_succ]
  refine wpAnyG_any (i := 27) (v := .pointer (some ⟨g, 3, none⟩)) rfl (by kernel_rfl) (by kernel_rfl) (by kernel_rfl) (fun _ _ _ h => h) (by kernel_rfl) (fun _ => hS) (by rfl) (fun _ => by go_simp) ?_
  simp only [Act.put, List.setIfInBounds_toArray, List.set_cons_zero, List.set_cons_succ]
  refine wpAnyG_one (i := 28) rfl (by kernel_rfl) (by rfl) (fun K hK => ?_)
  go_simp
  refine hK.out _ _ (fun h => absurd (show true = false from h) (by decide)) ?_
  clear hK K
  refine wpAnyG_any (i := 30) (v := .pointer (some ⟨g, 4, none⟩)) rfl (by kernel_rfl) (by kernel_rfl) (by kernel_rfl) (fun _ _ _ h => h) (by kernel_rfl) (fun h => absurd (show true = false from h) (by decide)) (by rfl) (fun _ => by go_simp) ?_
  simp only [Act.put, List.setIfInBounds_toArray, List.set_cons_zero, List.set_cons_succ]
  refine wpAnyG_one (i := 31) rfl (by kernel_rfl) (by rfl) (fun K hK => ?_)
  go_simp
  refine hK.out _ _ (fun h => absurd (show true = false from h) (by decide)) ?_
  clear hK K
  refine wpAnyG_any (i := 33) (v := .pointer (some ⟨g, 9, none⟩)) rfl (by kernel_rfl) (by kernel_rfl) (by kernel_rfl) (fun _ _ _ h => h) (by kernel_rfl) (fun h => absurd (show true = false from h) (by decide)) (by rfl) (fun _ => by go_simp) ?_
  simp only [Act.put, List.setIfInBounds_toArray, List.set_cons_zero, List.set_cons_succ]
  refine wpAnyG_one (i := 34) rfl (by kernel_rfl) (by rfl) (fun K hK => ?_)
  go_simp
  refine hK.out _ _ (fun h => absurd (show true = false from h) (by decide)) ?_
  clear hK K
  refine wpAnyG_any (i := 36) (v := .pointer (some ⟨g, 14, none⟩)) rfl (by kernel_rfl) (by kernel_rfl) (by kernel_rfl) (fun _ _ _ h => h) (by kernel_rfl) (fun h => absurd (show true = false from h) (by decide)) (by rfl) (fun _ => by go_simp) ?_
  simp only [Act.put, List.setIfInBounds_toArray, List.set_cons_zero, List.set_cons_succ]
  refine wpAnyG_one (i := 37) rfl (by kernel_rfl) (by rfl) (fun K hK => ?_)
  go_simp
  refine hK.out _ _ (fun h => absurd (show true = false from h) (by decide)) ?_
  clear hK K
  refine wpAnyG_done (by kernel_rfl) ?_ _
  clear hS hc0 hc1 hc2 hc3 hf
  go_end0
  rw [HE3.out]
  exact ⟨⟨_, rfl⟩, (below4 hb hB _ _ _ _ _ _ _ _).drew, (hg.qAt _ _ _ _).drew⟩
end Go.Proofs.YtfainlfiphdaeaaGreatDoor

namespace Go.Proofs.YtfainlfiphdaeaaGreatDoor
open Go.RowKit
set_option maxRecDepth 20000

/-- A word's four bytes, the lowest first. -/
def bytesL (v : Int) : List Int := [v % 256, v / 256 % 256, v / 65536 % 256, v / 16777216 % 256]
/-- The bytes of the first k words. -/
def joinK (s : List Int) : Nat → List Int
  | 0 => []
  | k + 1 => joinK s k ++ bytesL (at' s k)
theorem joinK_length (s : List Int) (k : Nat) : (joinK s k).length = 4 * k := by
  induction k with
  | zero => rfl
  | succ k ih => simp only [joinK, List.length_append, ih, bytesL, List.length_cons, List.length_nil]; omega
theorem size64 : (Tryz.prog.info? 185).map (·.size) = some 64 := by kernel_rfl
theorem size1u32 : (Tryz.prog.info? 24).map (·.size) = some 1 := by kernel_rfl

set_option maxHeartbeats 1000000 in
theorem bytes_any (s : List Int) (w : World) (hs : s.length = 16) :
    Calls Tryz.prog 184 #[.agg (row .u32 s)] w fun e w' => e = .returned (.agg (row .u8 (joinK s 16))) ∧ Below w.heap.size w w' := by
  have h0 : ∀ o1 o2, Holds (((w.alloc (.cells (row .u32 s) 214)).alloc o1).alloc o2) w.heap.size .u32 214 s := fun o1 o2 => ((Holds.new w .u32 214 s).alloc o1).alloc o2
  go_enter Tryz.func184, Tryz.ntmps184
  go_wp2_with (refine wpList_ld rfl 214 _ rfl _ rfl (h0 _ _) Tryz.underlying214 sizeState hs ?_)
  refine forget (p := fun y => Code.wp _ _ _ _ y) (fun W0 => Below w.heap.size w W0 ∧ Holds W0 (w.heap.size + 1) .u8 185 (List.replicate 64 0) ∧ Holds W0 (w.heap.size + 1 + 1) .u8 185 (List.replicate 64 0)) ⟨?_, ?_, ?_⟩ ?_
  · exact (((Below.refl _ _).alloc (Nat.le_refl _) _).alloc (by simp) _).alloc (by simp; omega) _
  · have := (Holds.new (w.alloc (.cells (row .u32 s) 214)) .u8 185 (List.replicate 64 0))
    rw [World.size_alloc] at this
    exact this.alloc _
  · have := (Holds.new ((w.alloc (.cells (row .u32 s) 214)).alloc (.cells (row .u8 (List.replicate 64 0)) 185)) .u8 185 (List.replicate 64 0))
    rw [World.size_alloc, World.size_alloc] at this
    exact this
  clear h0
  rintro W0 ⟨hB0, hR0, hb0⟩
  go_loopw [8] (fun i wr => ∃ k : Nat, k ≤ 16 ∧ i = .int .i64 k ∧ Below w.heap.size w wr ∧ Holds wr (w.heap.size + 1) .u8 185 (List.replicate 64 0) ∧ Holds wr (w.heap.size + 1 + 1) .u8 185 (joinK s k ++ List.replicate (64 - 4 * k) 0))
    (fun i _ => 16 - (intOf i).toNat)
  case atStart => exact ⟨0, by omega, rfl, hB0, hR0, hb0⟩
  case round =>
    clear hB0 hR0 hb0
    obtain ⟨k, hk, rfl, hB, hR, hb⟩ := hrel
    by_cases hlt : k < 16
    · have hix := fun wx => run_index_row (P := Tryz.prog) wx 214 24 16 .u32 s k Tryz.underlying214 Tryz.underlying24 size1u32 hs (by omega)
      have hN : Hid (s[k]?.getD 0 = at' s k) := rfl
      obtain ⟨V, hV⟩ : ∃ V, s[k]?.getD 0 = V := ⟨_, rfl⟩
      rw [hV] at hix
      have HV : Hid (at' s k = V) := hV
      clear hV hN
      obtain ⟨I, hI⟩ : ∃ I : Nat, 4 * k = I := ⟨_, rfl⟩
      have hlen : (joinK s k ++ List.replicate (64 - 4 * k) 0).length = 64 := by rw [List.length_append, joinK_length, List.length_replicate]; omega
      have c0 := hb.cell I (by omega)
      have c1 := hb.cell (I + 1) (by omega)
      have c2 := hb.cell (I + 2) (by omega)
      have c3 := hb.cell (I + 3) (by omega)
      have hf := hb.frozen
      have hI' : (k : Int) * 4 = (I : Int) := by omega
      have i4 : (I : Int) + 3 < 64 := by omega
      have i3 : (I : Int) + 2 < 64 := by omega
      have i2 : (I : Int) + 1 < 64 := by omega
      have i1 : (I : Int) < 64 := by omega
      have j1 : IntKind.i64.wrap ((I : Int) + 1) = (I : Int) + 1 := by rw [IntKind.wrap_i64]; omega
      have j2 : IntKind.i64.wrap ((I : Int) + 2) = (I : Int) + 2 := by rw [IntKind.wrap_i64]; omega
      have j3 : IntKind.i64.wrap ((I : Int) + 3) = (I : Int) + 3 := by rw [IntKind.wrap_i64]; omega
      have n1 : (0 : Int) ≤ (I : Int) + 1 := by omega
      have n2 : (0 : Int) ≤ (I : Int) + 2 := by omega
      have n3 : (0 : Int) ≤ (I : Int) + 3 := by omega
      have t1 : ((I : Int) + 1).toNat = I + 1 := by omega
      have t2 : ((I : Int) + 2).toNat = I + 2 := by omega
      have t3 : ((I : Int) + 3).toNat = I + 3 := by omega
      have HI : Hid (4 * k = I) := hI
      clear hI hlen
      go_wp2
      go_roundw
      case rel =>
        have hI := HI.out
        refine ⟨k + 1, by omega, by go_num, (((hB.setCell (by simp; omega) _).setCell (by simp; omega) _).setCell (by simp; omega) _).setCell (by simp; omega) _, (((hR.setOther _ _ (by simp)).setOther _ _ (by simp)).setOther _ _ (by simp)).setOther _ _ (by simp), ?_⟩
        have := (((hb.set I (V % 256)).set (I + 1) (V / 256 % 256)).set (I + 2) (V / 65536 % 256)).set (I + 3) (V / 16777216 % 256)
        rw [show 64 - 4 * k = (64 - 4 * (k + 1)) + 4 by omega, set_four _ _ _ _ _ _ _ (by rw [joinK_length]; exact hI)] at this
        have e : joinK s (k + 1) = joinK s k ++ [V % 256, V / 256 % 256, V / 65536 % 256, V / 16777216 % 256] := by
          show joinK s k ++ bytesL (at' s k) = _
          rw [HV.out]; rfl
        rw [e]
        exact this
      case measure => simp [intOf]; omega
    · obtain rfl : k = 16 := by omega
      have hb' : Holds wr (w.heap.size + 1 + 1) .u8 185 (joinK s 16) := by simpa using hb
      have hl := joinK_length s 16
      obtain ⟨L, hL⟩ : ∃ L, joinK s 16 = L := ⟨_, rfl⟩
      have HL : Hid (joinK s 16 = L) := hL
      rw [hL] at hb' hl
      clear hb hL
      go_wp2_with (first | (refine wpList_ld rfl 185 _ rfl _ rfl hb' Tryz.underlying185 size64 hl ?_) | (refine wpList_st rfl 185 _ _ rfl _ rfl rfl hR (by rw [hl]; exact size64) (by simp [hl]) ?_))
      refine bodyPost_ret (results_holds (Tryz.results184) _ rfl (hR.setRow _) Tryz.underlying185 size64 hl) rfl ⟨by rw [HL.out], ?_⟩
      exact below_setRow hB (by omega) _
end Go.Proofs.YtfainlfiphdaeaaGreatDoor

namespace Go.Proofs.YtfainlfiphdaeaaGreatDoor
open Go.RowKit
set_option maxRecDepth 20000

def downL (s : List Int) : List Int := qAt (qAt (qAt (qAt s 0 4 8 12) 1 5 9 13) 2 6 10 14) 3 7 11 15
def slantL (s : List Int) : List Int := qAt (qAt (qAt (qAt s 0 5 10 15) 1 6 11 12) 2 7 8 13) 3 4 9 14
theorem downL_length (s : List Int) : (downL s).length = s.length := by simp only [downL, qAt_length]
theorem slantL_length (s : List Int) : (slantL s).length = s.length := by simp only [slantL, qAt_length]
/-- The words behind k double rounds. -/
def roundsL (s : List Int) : Nat → List Int
  | 0 => s
  | k + 1 => slantL (downL (roundsL s k))
theorem roundsL_length (s : List Int) (k : Nat) : (roundsL s k).length = s.length := by
  induction k with
  | zero => rfl
  | succ k ih => simp only [roundsL, slantL_length, downL_length, ih]
/-- The sums as far as place k; behind it the first of the two. -/
def addKC (r s : List Int) (k : Nat) : List Int := (List.range 16).map fun i => if i < k then (at' r i + at' s i) % 4294967296 else at' r i
theorem addKC_length (r s : List Int) (k : Nat) : (addKC r s k).length = 16 := by simp [addKC]
theorem addKC_zero (r s : List Int) (h : r.length = 16) : addKC r s 0 = r := by
  apply List.ext_getElem (by simp [addKC, h])
  intro i h1 h2
  simp [addKC, at', h2]
theorem addKC_get (r s : List Int) (k j : Nat) (h : j < 16) : at' (addKC r s k) j = if j < k then (at' r j + at' s j) % 4294967296 else at' r j := by
  simp [addKC, at', h]
theorem addKC_set (r s : List Int) (k : Nat) : (addKC r s k).set k ((at' r k + at' s k) % 4294967296) = addKC r s (k + 1) := by
  apply List.ext_getElem (by simp [addKC])
  intro i h1 h2
  simp only [addKC, List.length_set, List.length_map, List.length_range] at h1
  by_cases hik : k = i
  · subst hik
    simp [addKC]
  · rw [List.getElem_set_ne hik]
    simp only [addKC, List.getElem_map, List.getElem_range]
    by_cases hlt : i < k
    · rw [if_pos hlt, if_pos (by omega)]
    · rw [if_neg hlt, if_neg (by omega)]
/-- A block of the stream. -/
def blockW (b : List Int) : List Int := addKC (roundsL b 10) b 16
def blockL (k n : List Int) (c : Int) : List Int := joinK (blockW (beginL k n c)) 16
theorem blockL_length (k n : List Int) (c : Int) : (blockL k n c).length = 64 := joinK_length _ 16

set_option maxHeartbeats 1000000 in
theorem block_any (k n : List Int) (c : Int) (w : World) (hk : k.length = 32) (hn : n.length = 12) :
    Calls Tryz.prog 152 #[.agg (row .u8 k), .agg (row .u8 n), .int .u32 c] w fun e w' => e = .returned (.agg (row .u8 (blockL k n c))) ∧ Below w.heap.size w w' := by
  have hbg := begin_any k n c
  have hBl := beginL_length k n c
  obtain ⟨B, hBe⟩ : ∃ B, beginL k n c = B := ⟨_, rfl⟩
  have HB : Veil (blockL k n c = joinK (blockW B) 16) := ⟨by unfold blockL; rw [hBe]⟩
  rw [hBe] at hbg hBl
  clear hBe
  go_enter Tryz.func152, Tryz.ntmps152
  go_upto_region 1 with fail
  refine forget (p := fun y => Code.wp _ _ _ _ y) (fun W0 => Below w.heap.size w W0 ∧ W0.heap.size = w.heap.size + 1 + 1 + 1 ∧ Holds W0 w.heap.size .u8 23 k ∧ Holds W0 (w.heap.size + 1) .u8 101 n ∧ Holds W0 (w.heap.size + 1 + 1) .u8 185 (List.replicate 64 0)) ⟨?_, by simp, ?_, ?_, ?_⟩ ?_
  · exact (((Below.refl _ _).alloc (Nat.le_refl _) _).alloc (by simp) _).alloc (by simp; omega) _
  · exact ((Holds.new w .u8 23 k).alloc _).alloc _
  · have := (Holds.new (w.alloc (.cells (row .u8 k) 23)) .u8 101 n)
    rw [World.size_alloc] at this
    exact this.alloc _
  · have := (Holds.new ((w.alloc (.cells (row .u8 k) 23)).alloc (.cells (row .u8 n) 101)) .u8 185 (List.replicate 64 0))
    rw [World.size_alloc, World.size_alloc] at this
    exact this
  rintro W0 ⟨hB0, hs0, hK0, hN0, hR0⟩
  go_upto_region 2 with (first
    | (refine wpList_ld rfl 23 _ rfl _ rfl hK0 Tryz.underlying23 sizeKey hk ?_)
    | (refine wpList_ld rfl 101 _ rfl _ rfl hN0 Tryz.underlying101 sizeNonce hn ?_)
    | (go_at_call 181; refine (hbg _ hk hn).mono ?_; rintro e w1 ⟨rfl, hb1⟩; have hF0 := Holds.new w1 .u32 214 (List.replicate 16 0))
    | (refine wpList_st rfl 214 _ _ rfl _ rfl rfl hF0 (by rw [hBl]; exact sizeState) (by simp [hBl]) ?_))
  have hsz1 := hb1.size
  refine forget (p := fun y => Code.wp _ _ _ _ y) (fun W2 => Below w.heap.size w W2 ∧ W2.heap.size = w1.heap.size + 1 ∧ Holds W2 (w.heap.size + 1 + 1) .u8 185 (List.replicate 64 0) ∧ Holds W2 w1.heap.size .u32 214 B) ⟨?_, by simp, ?_, hF0.setRow _⟩ ?_
  · exact below_setRow ((hB0.trans (hb1.mono hB0.size)).alloc (by omega) _) (by omega) _
  · exact ((hR0.below hb1 (by omega)).alloc _).setRowOther _ (by omega)
  clear hF0 hB0 hK0 hN0 hR0 hbg
  rintro W2 ⟨hB2, hs2, hR2, hF2⟩
  have hL0 := Holds.new W2 .u32 214 (List.replicate 16 0)
  rw [hs2] at hL0
  go_upto_region 3 with (first
    | (refine wpList_ld rfl 214 _ rfl _ rfl hF2 Tryz.underlying214 sizeState hBl ?_)
    | (refine wpList_st rfl 214 _ _ rfl _ rfl rfl hL0 (by rw [hBl]; exact sizeState) (by simp [hBl]) ?_))
  refine forget (p := fun y => Code.wp _ _ _ _ y) (fun W3 => Below w.heap.size w W3 ∧ Holds W3 (w.heap.size + 1 + 1) .u8 185 (List.replicate 64 0) ∧ Holds W3 w1.heap.size .u32 214 B ∧ Holds W3 (w1.heap.size + 1) .u32 214 B) ⟨?_, ?_, ?_, ?_⟩ ?_
  · exact below_setRow (hB2.alloc (by omega) _) (by omega) _
  · exact (hR2.alloc _).setRowOther _ (by omega)
  · exact (hF2.alloc _).setRowOther _ (by omega)
  · exact hL0.setRow B
  clear hL0 hB2 hR2 hF2 hs2
  rintro W3 ⟨hB3, hR3, hF3, hL3⟩
  go_wp2_with fail
  go_loopw [15] (fun i wr => ∃ j : Nat, j ≤ 10 ∧ i = .int .i64 j ∧ Below w.heap.size w wr ∧ Holds wr (w.heap.size + 1 + 1) .u8 185 (List.replicate 64 0) ∧ Holds wr w1.heap.size .u32 214 B ∧ Holds wr (w1.heap.size + 1) .u32 214 (roundsL B j))
    (fun i _ => 10 - (intOf i).toNat)
  case atStart => exact ⟨0, by omega, rfl, hB3, hR3, hF3, hL3⟩
  case round =>
    clear hB3 hR3 hF3 hL3
    obtain ⟨j, hj, rfl, hB, hR, hF, hL⟩ := hrel
    by_cases hlt : j < 10
    · have hl : (roundsL B j).length = 16 := by rw [roundsL_length, hBl]
      have HN : Veil (roundsL B (j + 1) = slantL (downL (roundsL B j))) := ⟨rfl⟩
      obtain ⟨S, hS⟩ : ∃ S, roundsL B j = S := ⟨_, rfl⟩
      rw [hS] at hl hL HN
      clear hS
      obtain ⟨D, hD⟩ : ∃ D, downL S = D := ⟨_, rfl⟩
      obtain ⟨T, hT⟩ : ∃ T, slantL D = T := ⟨_, rfl⟩
      have hDl : D.length = 16 := by rw [← hD, downL_length, hl]
      have hd : Calls Tryz.prog 182 #[.pointer (some ⟨w1.heap.size + 1, 0, none⟩)] wr fun e w' => (∃ v, e = .returned v) ∧ Below (w1.heap.size + 1) wr w' ∧ Holds w' (w1.heap.size + 1) .u32 214 D := by
        rw [← hD]
        exact down_any S (w1.heap.size + 1) (w1.heap.size + 1) wr wr hl hL (Nat.le_refl _) (Below.refl _ _)
      have hsl : ∀ wx, Below (w1.heap.size + 1) wr wx → Holds wx (w1.heap.size + 1) .u32 214 D → Calls Tryz.prog 183 #[.pointer (some ⟨w1.heap.size + 1, 0, none⟩)] wx fun e w' => (∃ v, e = .returned v) ∧ Below (w1.heap.size + 1) wr w' ∧ Holds w' (w1.heap.size + 1) .u32 214 T := fun wx hx h => by
        rw [← hT]
        exact slant_any D (w1.heap.size + 1) (w1.heap.size + 1) wx wr hDl h (Nat.le_refl _) hx
      rw [hD, hT] at HN
      clear hD hT hDl
      go_wp2_with (first
        | (go_at_call 182; refine hd.mono ?_; rintro e w4 ⟨⟨v4, rfl⟩, hb4, hL4⟩)
        | (go_at_call 183; refine (hsl _ hb4 hL4).mono ?_; rintro e w5 ⟨⟨v5, rfl⟩, hb5, hL5⟩))
      go_roundw
      case rel => exact ⟨j + 1, by omega, by go_num, hB.trans (hb5.mono (by omega)), hR.below hb5 (by omega), hF.below hb5 (by omega), by rw [HN.out]; exact hL5⟩
      case measure => simp [intOf]; omega
    · obtain rfl : j = 10 := by omega
      have hl : (roundsL B 10).length = 16 := by rw [roundsL_length, hBl]
      obtain ⟨S, hS⟩ : ∃ S, roundsL B 10 = S := ⟨_, rfl⟩
      have HW : Veil (blockW B = addKC S B 16) := ⟨by unfold blockW; rw [hS]⟩
      rw [hS] at hl hL
      clear hS
      have hL0 : Holds wr (w1.heap.size + 1) .u32 214 (addKC S B 0) := by rw [addKC_zero _ _ hl]; exact hL
      clear hL
      go_wp2_with fail
      go_loopw [20] (fun i wr => ∃ j : Nat, j ≤ 16 ∧ i = .int .i64 j ∧ Below w.heap.size w wr ∧ Holds wr (w.heap.size + 1 + 1) .u8 185 (List.replicate 64 0) ∧ Holds wr w1.heap.size .u32 214 B ∧ Holds wr (w1.heap.size + 1) .u32 214 (addKC S B j))
        (fun i _ => 16 - (intOf i).toNat)
      case atStart => exact ⟨0, by omega, rfl, hB, hR, hF, hL0⟩
      case round =>
        clear hB hR hF hL0
        obtain ⟨j, hj, rfl, hB, hR, hF, hL⟩ := hrel
        by_cases hlt2 : j < 16
        · have cF := hF.at j (by omega)
          have cL := hL.at j (by rw [addKC_length]; omega)
          rw [addKC_get S B j j hlt2, if_neg (Nat.lt_irrefl _)] at cL
          have fL := hL.frozen j
          have HA : Veil ((addKC S B j).set j ((at' S j + at' B j) % 4294967296) = addKC S B (j + 1)) := ⟨addKC_set S B j⟩
          obtain ⟨X, hX⟩ : ∃ X, at' S j = X := ⟨_, rfl⟩
          obtain ⟨Y, hY⟩ : ∃ Y, at' B j = Y := ⟨_, rfl⟩
          rw [hX, hY] at HA
          rw [hX] at cL
          rw [hY] at cF
          clear hX hY
          have hji : (j : Int) < 16 := by omega
          have hne : ¬ (w1.heap.size + 1 = w1.heap.size) := by omega
          go_upto_region 11 with fail
          go_region
          all_goals go_wp2
          all_goals go_roundw
          all_goals first
            | (refine ⟨j + 1, by omega, by go_num, (hB.setCell (by simp; omega) _).drew, (hR.setOther _ _ (by simp; omega)).drew, (hF.setOther _ _ (by simp)).drew, ?_⟩; rw [← HA.out]; exact (hL.set j _).drew)
            | (simp [intOf]; omega)
        · obtain rfl : j = 16 := by omega
          have hl2 := addKC_length S B 16
          rw [← HW.out] at hl2 hL
          obtain ⟨V, hV⟩ : ∃ V, blockW B = V := ⟨_, rfl⟩
          have hby := fun wx => bytes_any V wx
          have hjl := joinK_length V 16
          rw [hV] at hl2 hL HB
          obtain ⟨Z, hZ⟩ : ∃ Z, joinK V 16 = Z := ⟨_, rfl⟩
          rw [hZ] at hby hjl HB
          clear hV hZ HW
          go_wp2_with (first
            | (refine wpList_ld rfl 214 _ rfl _ rfl hL Tryz.underlying214 sizeState hl2 ?_)
            | (go_at_call 184; refine (hby _ hl2).mono ?_; rintro e w6 ⟨rfl, hb6⟩; have hR6 := hR.below hb6 hR.lt)
            | (refine wpList_st rfl 185 _ _ rfl _ rfl rfl hR6 (by rw [hjl]; exact size64) (by simp [hjl]) ?_))
          refine bodyPost_ret (results_holds (Tryz.results152) _ rfl (hR6.setRow _) Tryz.underlying185 size64 hjl) rfl ⟨by rw [HB.out], ?_⟩
          exact below_setRow (hB.trans (hb6.mono hB.size)) (by omega) _
end Go.Proofs.YtfainlfiphdaeaaGreatDoor
