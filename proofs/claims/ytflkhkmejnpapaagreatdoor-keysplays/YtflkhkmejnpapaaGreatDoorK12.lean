/- Cbd -/
import Derived.Test.YtflkhkmejnpapaaGreatDoorK11
namespace Go.Proofs.YtflkhkmejnpapaaGreatDoor
open Go.RowKit
set_option maxRecDepth 20000
set_option linter.unusedSimpArgs false
set_option maxHeartbeats 4000000 in
theorem down_any (s : List Int) (g B : Nat) (w w0 : World) (hs : s.length = 16) (hg : Holds w g .u32 113 s) (hB : B ≤ g) (hb : Below B w0 w) :
    Calls Tryz.prog 75 #[.pointer (some ⟨g, 0, none⟩)] w fun e w' => (∃ v, e = .returned v) ∧ Below B w0 w' ∧ Holds w' g .u32 113 (qAt (qAt (qAt (qAt s 0 4 8 12) 1 5 9 13) 2 6 10 14) 3 7 11 15) := by
 go_enter Tryz.func75, Tryz.ntmps75
 go_wp2_with fail
 have hc0 : w.cell? ⟨g, 0, none⟩ = _ := hg.at 0 (by omega)
 have hc1 : w.cell? ⟨g, 4, none⟩ = _ := hg.at 4 (by omega)
 have hc2 : w.cell? ⟨g, 8, none⟩ = _ := hg.at 8 (by omega)
 have hc3 : w.cell? ⟨g, 12, none⟩ = _ := hg.at 12 (by omega)
 have hf := hg.frozen
 refine wp_region_gate (fun w' : World => w'.cell? ⟨g, 0, none⟩ = some (.int .u32 (at' s 0)) ∧ w'.cell? ⟨g, 4, none⟩ = some (.int .u32 (at' s 4)) ∧ w'.cell? ⟨g, 8, none⟩ = some (.int .u32 (at' s 8)) ∧ w'.cell? ⟨g, 12, none⟩ = some (.int .u32 (at' s 12))) 28 (by kernel_rfl) ?_
 have hS : (fun w' : World => w'.cell? ⟨g, 0, none⟩ = some (.int .u32 (at' s 0)) ∧ w'.cell? ⟨g, 4, none⟩ = some (.int .u32 (at' s 4)) ∧ w'.cell? ⟨g, 8, none⟩ = some (.int .u32 (at' s 8)) ∧ w'.cell? ⟨g, 12, none⟩ = some (.int .u32 (at' s 12))) w.drew := ⟨hc0, hc1, hc2, hc3⟩
 refine gb 0 (.pointer (some ⟨g, 0, none⟩)) rfl (by kernel_rfl) (fun _ _ _ h => h) hS (by rfl) (fun _ => by go_simp) ?_
 simp only [Act.put, sI, sZ, sS]
 refine gb 1 (.pointer (some ⟨g, 0, none⟩)) rfl (by kernel_rfl) (fun _ _ _ h => h) hS (by rfl) (fun _ => by go_simp) ?_
 simp only [Act.put, sI, sZ, sS]
 refine gb 2 (.pointer (some ⟨g, 0, none⟩)) rfl (by kernel_rfl) (fun _ _ _ h => h) hS (by rfl) (fun _ => by go_simp) ?_
 simp only [Act.put, sI, sZ, sS]
 refine gb 3 (.pointer (some ⟨g, 0, none⟩)) rfl (by kernel_rfl) (fun _ _ _ h => h) hS (by rfl) (fun _ => by go_simp) ?_
 simp only [Act.put, sI, sZ, sS]
 refine gb 4 (.pointer (some ⟨g, 0, none⟩)) rfl (by kernel_rfl) (fun _ _ _ h => h) hS (by rfl) (fun _ => by go_simp) ?_
 simp only [Act.put, sI, sZ, sS]
 refine gb 5 (.pointer (some ⟨g, 0, none⟩)) rfl (by kernel_rfl) (fun _ _ _ h => h) hS (by rfl) (fun _ => by go_simp) ?_
 simp only [Act.put, sI, sZ, sS]
 refine gb 6 (.pointer (some ⟨g, 0, none⟩)) rfl (by kernel_rfl) (fun _ _ _ h => h) hS (by rfl) (fun _ => by go_simp) ?_
 simp only [Act.put, sI, sZ, sS]
 refine gq 7 (.int .u32 (at' s 0)) rfl (by kernel_rfl) (fun _ _ _ h => h) hS (by rfl) (fun wx hSw => by obtain ⟨hx0, hx1, hx2, hx3⟩ := hSw; go_simp) ?_
 simp only [Act.put, sI, sZ, sS]
 refine gb 8 (.pointer (some ⟨g, 0, none⟩)) rfl (by kernel_rfl) (fun _ _ _ h => h) hS (by rfl) (fun _ => by go_simp) ?_
 simp only [Act.put, sI, sZ, sS]
 refine gb 9 (.pointer (some ⟨g, 0, none⟩)) rfl (by kernel_rfl) (fun _ _ _ h => h) hS (by rfl) (fun _ => by go_simp) ?_
 simp only [Act.put, sI, sZ, sS]
 refine gb 10 (.pointer (some ⟨g, 4, none⟩)) rfl (by kernel_rfl) (fun _ _ _ h => h) hS (by rfl) (fun _ => by go_simp) ?_
 simp only [Act.put, sI, sZ, sS]
 refine gq 11 (.int .u32 (at' s 4)) rfl (by kernel_rfl) (fun _ _ _ h => h) hS (by rfl) (fun wx hSw => by obtain ⟨hx0, hx1, hx2, hx3⟩ := hSw; go_simp) ?_
 simp only [Act.put, sI, sZ, sS]
 refine gb 12 (.pointer (some ⟨g, 0, none⟩)) rfl (by kernel_rfl) (fun _ _ _ h => h) hS (by rfl) (fun _ => by go_simp) ?_
 simp only [Act.put, sI, sZ, sS]
 refine gb 13 (.pointer (some ⟨g, 0, none⟩)) rfl (by kernel_rfl) (fun _ _ _ h => h) hS (by rfl) (fun _ => by go_simp) ?_
 simp only [Act.put, sI, sZ, sS]
 refine gb 14 (.pointer (some ⟨g, 8, none⟩)) rfl (by kernel_rfl) (fun _ _ _ h => h) hS (by rfl) (fun _ => by go_simp) ?_
 simp only [Act.put, sI, sZ, sS]
 refine gq 15 (.int .u32 (at' s 8)) rfl (by kernel_rfl) (fun _ _ _ h => h) hS (by rfl) (fun wx hSw => by obtain ⟨hx0, hx1, hx2, hx3⟩ := hSw; go_simp) ?_
 simp only [Act.put, sI, sZ, sS]
 refine gb 16 (.pointer (some ⟨g, 0, none⟩)) rfl (by kernel_rfl) (fun _ _ _ h => h) hS (by rfl) (fun _ => by go_simp) ?_
 simp only [Act.put, sI, sZ, sS]
 refine gb 17 (.pointer (some ⟨g, 0, none⟩)) rfl (by kernel_rfl) (fun _ _ _ h => h) hS (by rfl) (fun _ => by go_simp) ?_
 simp only [Act.put, sI, sZ, sS]
 refine gb 18 (.pointer (some ⟨g, 12, none⟩)) rfl (by kernel_rfl) (fun _ _ _ h => h) hS (by rfl) (fun _ => by go_simp) ?_
 simp only [Act.put, sI, sZ, sS]
 refine gq 19 (.int .u32 (at' s 12)) rfl (by kernel_rfl) (fun _ _ _ h => h) hS (by rfl) (fun wx hSw => by obtain ⟨hx0, hx1, hx2, hx3⟩ := hSw; go_simp) ?_
 simp only [Act.put, sI, sZ, sS]
 refine gb 26 (.pointer (some ⟨g, 0, none⟩)) rfl (by kernel_rfl) (fun _ _ _ h => h) hS (by rfl) (fun _ => by go_simp) ?_
 simp only [Act.put, sI, sZ, sS]
 refine gb 29 (.pointer (some ⟨g, 0, none⟩)) rfl (by kernel_rfl) (fun _ _ _ h => h) hS (by rfl) (fun _ => by go_simp) ?_
 simp only [Act.put, sI, sZ, sS]
 refine gb 32 (.pointer (some ⟨g, 0, none⟩)) rfl (by kernel_rfl) (fun _ _ _ h => h) hS (by rfl) (fun _ => by go_simp) ?_
 simp only [Act.put, sI, sZ, sS]
 refine gb 35 (.pointer (some ⟨g, 0, none⟩)) rfl (by kernel_rfl) (fun _ _ _ h => h) hS (by rfl) (fun _ => by go_simp) ?_
 simp only [Act.put, sI, sZ, sS]
 refine wpAnyG_one (i := 20) rfl (by kernel_rfl) (by rfl) (fun K hK => ?_)
 go_wp2_with (go_at_call 97; refine (quarter_any (at' s 0) (at' s 4) (at' s 8) (at' s 12) _).mono ?_; rintro e w4 ⟨rfl, rfl⟩)
 refine hK.out _ _ (fun _ => hS) ?_
 clear hK K
 refine gb 21 (.tuple #[.int .u32 (qr (at' s 0) (at' s 4) (at' s 8) (at' s 12)).1, .int .u32 (qr (at' s 0) (at' s 4) (at' s 8) (at' s 12)).2.1, .int .u32 (qr (at' s 0) (at' s 4) (at' s 8) (at' s 12)).2.2.1, .int .u32 (qr (at' s 0) (at' s 4) (at' s 8) (at' s 12)).2.2.2]) rfl (by kernel_rfl) (fun _ _ _ h => h) hS (by rfl) (fun _ => by go_simp) ?_
 simp only [Act.put, sI, sZ, sS]
 refine gb 22 (.int .u32 (qr (at' s 0) (at' s 4) (at' s 8) (at' s 12)).1) rfl (by kernel_rfl) (fun _ _ _ h => h) hS (by rfl) (fun _ => by go_simp) ?_
 simp only [Act.put, sI, sZ, sS]
 refine gb 23 (.int .u32 (qr (at' s 0) (at' s 4) (at' s 8) (at' s 12)).2.1) rfl (by kernel_rfl) (fun _ _ _ h => h) hS (by rfl) (fun _ => by go_simp) ?_
 simp only [Act.put, sI, sZ, sS]
 refine gb 24 (.int .u32 (qr (at' s 0) (at' s 4) (at' s 8) (at' s 12)).2.2.1) rfl (by kernel_rfl) (fun _ _ _ h => h) hS (by rfl) (fun _ => by go_simp) ?_
 simp only [Act.put, sI, sZ, sS]
 refine gb 25 (.int .u32 (qr (at' s 0) (at' s 4) (at' s 8) (at' s 12)).2.2.2) rfl (by kernel_rfl) (fun _ _ _ h => h) hS (by rfl) (fun _ => by go_simp) ?_
 simp only [Act.put, sI, sZ, sS]
 refine gb 27 (.pointer (some ⟨g, 0, none⟩)) rfl (by kernel_rfl) (fun _ _ _ h => h) hS (by rfl) (fun _ => by go_simp) ?_
 simp only [Act.put, sI, sZ, sS]
 refine wpAnyG_one (i := 28) rfl (by kernel_rfl) (by rfl) (fun K hK => ?_)
 go_simp
 refine hK.out _ _ (fun h => absurd (show true = false from h) (by decide)) ?_
 clear hK K
 refine wpAnyG_any (i := 30) (v := .pointer (some ⟨g, 4, none⟩)) rfl (by kernel_rfl) (by kernel_rfl) (by kernel_rfl) (fun _ _ _ h => h) (by kernel_rfl) (fun h => absurd (show true = false from h) (by decide)) (by rfl) (fun _ => by go_simp) ?_
 simp only [Act.put, sI, sZ, sS]
 refine wpAnyG_one (i := 31) rfl (by kernel_rfl) (by rfl) (fun K hK => ?_)
 go_simp
 refine hK.out _ _ (fun h => absurd (show true = false from h) (by decide)) ?_
 clear hK K
 refine wpAnyG_any (i := 33) (v := .pointer (some ⟨g, 8, none⟩)) rfl (by kernel_rfl) (by kernel_rfl) (by kernel_rfl) (fun _ _ _ h => h) (by kernel_rfl) (fun h => absurd (show true = false from h) (by decide)) (by rfl) (fun _ => by go_simp) ?_
 simp only [Act.put, sI, sZ, sS]
 refine wpAnyG_one (i := 34) rfl (by kernel_rfl) (by rfl) (fun K hK => ?_)
 go_simp
 refine hK.out _ _ (fun h => absurd (show true = false from h) (by decide)) ?_
 clear hK K
 refine wpAnyG_any (i := 36) (v := .pointer (some ⟨g, 12, none⟩)) rfl (by kernel_rfl) (by kernel_rfl) (by kernel_rfl) (fun _ _ _ h => h) (by kernel_rfl) (fun h => absurd (show true = false from h) (by decide)) (by rfl) (fun _ => by go_simp) ?_
 simp only [Act.put, sI, sZ, sS]
 refine wpAnyG_one (i := 37) rfl (by kernel_rfl) (by rfl) (fun K hK => ?_)
 go_simp
 refine hK.out _ _ (fun h => absurd (show true = false from h) (by decide)) ?_
 clear hK K
 refine wpAnyG_done (by kernel_rfl) ?_ _
 clear hS hc0 hc1 hc2 hc3 hf
 refine forget (p := fun y => Exit.then _ _ _ _ y) (fun W0 => Below B w0 W0 ∧ Holds W0 g .u32 113 (qAt s 0 4 8 12)) ⟨(below4 hb hB _ _ _ _ _ _ _ _).drew, (hg.qAt _ _ _ _).drew⟩ ?_
 clear hb hg
 rintro W0 ⟨hb, hg⟩
 have hs1 : (qAt s 0 4 8 12).length = 16 := by rw [qAt_length, hs]
 obtain ⟨s1, hse⟩ : ∃ x, qAt s 0 4 8 12 = x := ⟨_, rfl⟩
 rw [hse] at hg hs1
 have HE1 : Hid ((qAt s 0 4 8 12) = s1) := by show _ = _; exact hse
 clear hse
 go_wp2_with fail
 have hc0 : W0.cell? ⟨g, 1, none⟩ = _ := hg.at 1 (by omega)
 have hc1 : W0.cell? ⟨g, 5, none⟩ = _ := hg.at 5 (by omega)
 have hc2 : W0.cell? ⟨g, 9, none⟩ = _ := hg.at 9 (by omega)
 have hc3 : W0.cell? ⟨g, 13, none⟩ = _ := hg.at 13 (by omega)
 have hf := hg.frozen
 refine wp_region_gate (fun w' : World => w'.cell? ⟨g, 1, none⟩ = some (.int .u32 (at' s1 1)) ∧ w'.cell? ⟨g, 5, none⟩ = some (.int .u32 (at' s1 5)) ∧ w'.cell? ⟨g, 9, none⟩ = some (.int .u32 (at' s1 9)) ∧ w'.cell? ⟨g, 13, none⟩ = some (.int .u32 (at' s1 13))) 28 (by kernel_rfl) ?_
 have hS : (fun w' : World => w'.cell? ⟨g, 1, none⟩ = some (.int .u32 (at' s1 1)) ∧ w'.cell? ⟨g, 5, none⟩ = some (.int .u32 (at' s1 5)) ∧ w'.cell? ⟨g, 9, none⟩ = some (.int .u32 (at' s1 9)) ∧ w'.cell? ⟨g, 13, none⟩ = some (.int .u32 (at' s1 13))) W0.drew := ⟨hc0, hc1, hc2, hc3⟩
 refine gb 0 (.pointer (some ⟨g, 0, none⟩)) rfl (by kernel_rfl) (fun _ _ _ h => h) hS (by rfl) (fun _ => by go_simp) ?_
 simp only [Act.put, sI, sZ, sS]
 refine gb 1 (.pointer (some ⟨g, 0, none⟩)) rfl (by kernel_rfl) (fun _ _ _ h => h) hS (by rfl) (fun _ => by go_simp) ?_
 simp only [Act.put, sI, sZ, sS]
 refine gb 2 (.pointer (some ⟨g, 0, none⟩)) rfl (by kernel_rfl) (fun _ _ _ h => h) hS (by rfl) (fun _ => by go_simp) ?_
 simp only [Act.put, sI, sZ, sS]
 refine gb 3 (.pointer (some ⟨g, 0, none⟩)) rfl (by kernel_rfl) (fun _ _ _ h => h) hS (by rfl) (fun _ => by go_simp) ?_
 simp only [Act.put, sI, sZ, sS]
 refine gb 4 (.pointer (some ⟨g, 0, none⟩)) rfl (by kernel_rfl) (fun _ _ _ h => h) hS (by rfl) (fun _ => by go_simp) ?_
 simp only [Act.put, sI, sZ, sS]
 refine gb 5 (.pointer (some ⟨g, 0, none⟩)) rfl (by kernel_rfl) (fun _ _ _ h => h) hS (by rfl) (fun _ => by go_simp) ?_
 simp only [Act.put, sI, sZ, sS]
 refine gb 6 (.pointer (some ⟨g, 1, none⟩)) rfl (by kernel_rfl) (fun _ _ _ h => h) hS (by rfl) (fun _ => by go_simp) ?_
 simp only [Act.put, sI, sZ, sS]
 refine gq 7 (.int .u32 (at' s1 1)) rfl (by kernel_rfl) (fun _ _ _ h => h) hS (by rfl) (fun wx hSw => by obtain ⟨hx0, hx1, hx2, hx3⟩ := hSw; go_simp) ?_
 simp only [Act.put, sI, sZ, sS]
 refine gb 8 (.pointer (some ⟨g, 0, none⟩)) rfl (by kernel_rfl) (fun _ _ _ h => h) hS (by rfl) (fun _ => by go_simp) ?_
 simp only [Act.put, sI, sZ, sS]
 refine gb 9 (.pointer (some ⟨g, 0, none⟩)) rfl (by kernel_rfl) (fun _ _ _ h => h) hS (by rfl) (fun _ => by go_simp) ?_
 simp only [Act.put, sI, sZ, sS]
 refine gb 10 (.pointer (some ⟨g, 5, none⟩)) rfl (by kernel_rfl) (fun _ _ _ h => h) hS (by rfl) (fun _ => by go_simp) ?_
 simp only [Act.put, sI, sZ, sS]
 refine gq 11 (.int .u32 (at' s1 5)) rfl (by kernel_rfl) (fun _ _ _ h => h) hS (by rfl) (fun wx hSw => by obtain ⟨hx0, hx1, hx2, hx3⟩ := hSw; go_simp) ?_
 simp only [Act.put, sI, sZ, sS]
 refine gb 12 (.pointer (some ⟨g, 0, none⟩)) rfl (by kernel_rfl) (fun _ _ _ h => h) hS (by rfl) (fun _ => by go_simp) ?_
 simp only [Act.put, sI, sZ, sS]
 refine gb 13 (.pointer (some ⟨g, 0, none⟩)) rfl (by kernel_rfl) (fun _ _ _ h => h) hS (by rfl) (fun _ => by go_simp) ?_
 simp only [Act.put, sI, sZ, sS]
 refine gb 14 (.pointer (some ⟨g, 9, none⟩)) rfl (by kernel_rfl) (fun _ _ _ h => h) hS (by rfl) (fun _ => by go_simp) ?_
 simp only [Act.put, sI, sZ, sS]
 refine gq 15 (.int .u32 (at' s1 9)) rfl (by kernel_rfl) (fun _ _ _ h => h) hS (by rfl) (fun wx hSw => by obtain ⟨hx0, hx1, hx2, hx3⟩ := hSw; go_simp) ?_
 simp only [Act.put, sI, sZ, sS]
 refine gb 16 (.pointer (some ⟨g, 0, none⟩)) rfl (by kernel_rfl) (fun _ _ _ h => h) hS (by rfl) (fun _ => by go_simp) ?_
 simp only [Act.put, sI, sZ, sS]
 refine gb 17 (.pointer (some ⟨g, 0, none⟩)) rfl (by kernel_rfl) (fun _ _ _ h => h) hS (by rfl) (fun _ => by go_simp) ?_
 simp only [Act.put, sI, sZ, sS]
 refine gb 18 (.pointer (some ⟨g, 13, none⟩)) rfl (by kernel_rfl) (fun _ _ _ h => h) hS (by rfl) (fun _ => by go_simp) ?_
 simp only [Act.put, sI, sZ, sS]
 refine gq 19 (.int .u32 (at' s1 13)) rfl (by kernel_rfl) (fun _ _ _ h => h) hS (by rfl) (fun wx hSw => by obtain ⟨hx0, hx1, hx2, hx3⟩ := hSw; go_simp) ?_
 simp only [Act.put, sI, sZ, sS]
 refine gb 26 (.pointer (some ⟨g, 0, none⟩)) rfl (by kernel_rfl) (fun _ _ _ h => h) hS (by rfl) (fun _ => by go_simp) ?_
 simp only [Act.put, sI, sZ, sS]
 refine gb 29 (.pointer (some ⟨g, 0, none⟩)) rfl (by kernel_rfl) (fun _ _ _ h => h) hS (by rfl) (fun _ => by go_simp) ?_
 simp only [Act.put, sI, sZ, sS]
 refine gb 32 (.pointer (some ⟨g, 0, none⟩)) rfl (by kernel_rfl) (fun _ _ _ h => h) hS (by rfl) (fun _ => by go_simp) ?_
 simp only [Act.put, sI, sZ, sS]
 refine gb 35 (.pointer (some ⟨g, 0, none⟩)) rfl (by kernel_rfl) (fun _ _ _ h => h) hS (by rfl) (fun _ => by go_simp) ?_
 simp only [Act.put, sI, sZ, sS]
 refine wpAnyG_one (i := 20) rfl (by kernel_rfl) (by rfl) (fun K hK => ?_)
 go_wp2_with (go_at_call 97; refine (quarter_any (at' s1 1) (at' s1 5) (at' s1 9) (at' s1 13) _).mono ?_; rintro e w4 ⟨rfl, rfl⟩)
 refine hK.out _ _ (fun _ => hS) ?_
 clear hK K
 refine gb 21 (.tuple #[.int .u32 (qr (at' s1 1) (at' s1 5) (at' s1 9) (at' s1 13)).1, .int .u32 (qr (at' s1 1) (at' s1 5) (at' s1 9) (at' s1 13)).2.1, .int .u32 (qr (at' s1 1) (at' s1 5) (at' s1 9) (at' s1 13)).2.2.1, .int .u32 (qr (at' s1 1) (at' s1 5) (at' s1 9) (at' s1 13)).2.2.2]) rfl (by kernel_rfl) (fun _ _ _ h => h) hS (by rfl) (fun _ => by go_simp) ?_
 simp only [Act.put, sI, sZ, sS]
 refine gb 22 (.int .u32 (qr (at' s1 1) (at' s1 5) (at' s1 9) (at' s1 13)).1) rfl (by kernel_rfl) (fun _ _ _ h => h) hS (by rfl) (fun _ => by go_simp) ?_
 simp only [Act.put, sI, sZ, sS]
 refine gb 23 (.int .u32 (qr (at' s1 1) (at' s1 5) (at' s1 9) (at' s1 13)).2.1) rfl (by kernel_rfl) (fun _ _ _ h => h) hS (by rfl) (fun _ => by go_simp) ?_
 simp only [Act.put, sI, sZ, sS]
 refine gb 24 (.int .u32 (qr (at' s1 1) (at' s1 5) (at' s1 9) (at' s1 13)).2.2.1) rfl (by kernel_rfl) (fun _ _ _ h => h) hS (by rfl) (fun _ => by go_simp) ?_
 simp only [Act.put, sI, sZ, sS]
 refine gb 25 (.int .u32 (qr (at' s1 1) (at' s1 5) (at' s1 9) (at' s1 13)).2.2.2) rfl (by kernel_rfl) (fun _ _ _ h => h) hS (by rfl) (fun _ => by go_simp) ?_
 simp only [Act.put, sI, sZ, sS]
 refine gb 27 (.pointer (some ⟨g, 1, none⟩)) rfl (by kernel_rfl) (fun _ _ _ h => h) hS (by rfl) (fun _ => by go_simp) ?_
 simp only [Act.put, sI, sZ, sS]
 refine wpAnyG_one (i := 28) rfl (by kernel_rfl) (by rfl) (fun K hK => ?_)
 go_simp
 refine hK.out _ _ (fun h => absurd (show true = false from h) (by decide)) ?_
 clear hK K
 refine wpAnyG_any (i := 30) (v := .pointer (some ⟨g, 5, none⟩)) rfl (by kernel_rfl) (by kernel_rfl) (by kernel_rfl) (fun _ _ _ h => h) (by kernel_rfl) (fun h => absurd (show true = false from h) (by decide)) (by rfl) (fun _ => by go_simp) ?_
 simp only [Act.put, sI, sZ, sS]
 refine wpAnyG_one (i := 31) rfl (by kernel_rfl) (by rfl) (fun K hK => ?_)
 go_simp
 refine hK.out _ _ (fun h => absurd (show true = false from h) (by decide)) ?_
 clear hK K
 refine wpAnyG_any (i := 33) (v := .pointer (some ⟨g, 9, none⟩)) rfl (by kernel_rfl) (by kernel_rfl) (by kernel_rfl) (fun _ _ _ h => h) (by kernel_rfl) (fun h => absurd (show true = false from h) (by decide)) (by rfl) (fun _ => by go_simp) ?_
 simp only [Act.put, sI, sZ, sS]
 refine wpAnyG_one (i := 34) rfl (by kernel_rfl) (by rfl) (fun K hK => ?_)
 go_simp
 refine hK.out _ _ (fun h => absurd (show true = false from h) (by decide)) ?_
 clear hK K
 refine wpAnyG_any (i := 36) (v := .pointer (some ⟨g, 13, none⟩)) rfl (by kernel_rfl) (by kernel_rfl) (by kernel_rfl) (fun _ _ _ h => h) (by kernel_rfl) (fun h => absurd (show true = false from h) (by decide)) (by rfl) (fun _ => by go_simp) ?_
 simp only [Act.put, sI, sZ, sS]
 refine wpAnyG_one (i := 37) rfl (by kernel_rfl) (by rfl) (fun K hK => ?_)
 go_simp
 refine hK.out _ _ (fun h => absurd (show true = false from h) (by decide)) ?_
 clear hK K
 refine wpAnyG_done (by kernel_rfl) ?_ _
 clear hS hc0 hc1 hc2 hc3 hf
 refine forget (p := fun y => Exit.then _ _ _ _ y) (fun W0 => Below B w0 W0 ∧ Holds W0 g .u32 113 (qAt s1 1 5 9 13)) ⟨(below4 hb hB _ _ _ _ _ _ _ _).drew, (hg.qAt _ _ _ _).drew⟩ ?_
 clear hb hg
 rintro W1 ⟨hb, hg⟩
 have hs2 : (qAt s1 1 5 9 13).length = 16 := by rw [qAt_length, hs1]
 obtain ⟨s2, hse⟩ : ∃ x, qAt s1 1 5 9 13 = x := ⟨_, rfl⟩
 rw [hse] at hg hs2
 have HE2 : Hid ((qAt (qAt s 0 4 8 12) 1 5 9 13) = s2) := by show _ = _; rw [HE1.out]; exact hse
 clear hse
 go_wp2_with fail
 have hc0 : W1.cell? ⟨g, 2, none⟩ = _ := hg.at 2 (by omega)
 have hc1 : W1.cell? ⟨g, 6, none⟩ = _ := hg.at 6 (by omega)
 have hc2 : W1.cell? ⟨g, 10, none⟩ = _ := hg.at 10 (by omega)
 have hc3 : W1.cell? ⟨g, 14, none⟩ = _ := hg.at 14 (by omega)
 have hf := hg.frozen
 refine wp_region_gate (fun w' : World => w'.cell? ⟨g, 2, none⟩ = some (.int .u32 (at' s2 2)) ∧ w'.cell? ⟨g, 6, none⟩ = some (.int .u32 (at' s2 6)) ∧ w'.cell? ⟨g, 10, none⟩ = some (.int .u32 (at' s2 10)) ∧ w'.cell? ⟨g, 14, none⟩ = some (.int .u32 (at' s2 14))) 28 (by kernel_rfl) ?_
 have hS : (fun w' : World => w'.cell? ⟨g, 2, none⟩ = some (.int .u32 (at' s2 2)) ∧ w'.cell? ⟨g, 6, none⟩ = some (.int .u32 (at' s2 6)) ∧ w'.cell? ⟨g, 10, none⟩ = some (.int .u32 (at' s2 10)) ∧ w'.cell? ⟨g, 14, none⟩ = some (.int .u32 (at' s2 14))) W1.drew := ⟨hc0, hc1, hc2, hc3⟩
 refine gb 0 (.pointer (some ⟨g, 0, none⟩)) rfl (by kernel_rfl) (fun _ _ _ h => h) hS (by rfl) (fun _ => by go_simp) ?_
 simp only [Act.put, sI, sZ, sS]
 refine gb 1 (.pointer (some ⟨g, 0, none⟩)) rfl (by kernel_rfl) (fun _ _ _ h => h) hS (by rfl) (fun _ => by go_simp) ?_
 simp only [Act.put, sI, sZ, sS]
 refine gb 2 (.pointer (some ⟨g, 0, none⟩)) rfl (by kernel_rfl) (fun _ _ _ h => h) hS (by rfl) (fun _ => by go_simp) ?_
 simp only [Act.put, sI, sZ, sS]
 refine gb 3 (.pointer (some ⟨g, 0, none⟩)) rfl (by kernel_rfl) (fun _ _ _ h => h) hS (by rfl) (fun _ => by go_simp) ?_
 simp only [Act.put, sI, sZ, sS]
 refine gb 4 (.pointer (some ⟨g, 0, none⟩)) rfl (by kernel_rfl) (fun _ _ _ h => h) hS (by rfl) (fun _ => by go_simp) ?_
 simp only [Act.put, sI, sZ, sS]
 refine gb 5 (.pointer (some ⟨g, 0, none⟩)) rfl (by kernel_rfl) (fun _ _ _ h => h) hS (by rfl) (fun _ => by go_simp) ?_
 simp only [Act.put, sI, sZ, sS]
 refine gb 6 (.pointer (some ⟨g, 2, none⟩)) rfl (by kernel_rfl) (fun _ _ _ h => h) hS (by rfl) (fun _ => by go_simp) ?_
 simp only [Act.put, sI, sZ, sS]
 refine gq 7 (.int .u32 (at' s2 2)) rfl (by kernel_rfl) (fun _ _ _ h => h) hS (by rfl) (fun wx hSw => by obtain ⟨hx0, hx1, hx2, hx3⟩ := hSw; go_simp) ?_
 simp only [Act.put, sI, sZ, sS]
 refine gb 8 (.pointer (some ⟨g, 0, none⟩)) rfl (by kernel_rfl) (fun _ _ _ h => h) hS (by rfl) (fun _ => by go_simp) ?_
 simp only [Act.put, sI, sZ, sS]
 refine gb 9 (.pointer (some ⟨g, 0, none⟩)) rfl (by kernel_rfl) (fun _ _ _ h => h) hS (by rfl) (fun _ => by go_simp) ?_
 simp only [Act.put, sI, sZ, sS]
 refine gb 10 (.pointer (some ⟨g, 6, none⟩)) rfl (by kernel_rfl) (fun _ _ _ h => h) hS (by rfl) (fun _ => by go_simp) ?_
 simp only [Act.put, sI, sZ, sS]
 refine gq 11 (.int .u32 (at' s2 6)) rfl (by kernel_rfl) (fun _ _ _ h => h) hS (by rfl) (fun wx hSw => by obtain ⟨hx0, hx1, hx2, hx3⟩ := hSw; go_simp) ?_
 simp only [Act.put, sI, sZ, sS]
 refine gb 12 (.pointer (some ⟨g, 0, none⟩)) rfl (by kernel_rfl) (fun _ _ _ h => h) hS (by rfl) (fun _ => by go_simp) ?_
 simp only [Act.put, sI, sZ, sS]
 refine gb 13 (.pointer (some ⟨g, 0, none⟩)) rfl (by kernel_rfl) (fun _ _ _ h => h) hS (by rfl) (fun _ => by go_simp) ?_
 simp only [Act.put, sI, sZ, sS]
 refine gb 14 (.pointer (some ⟨g, 10, none⟩)) rfl (by kernel_rfl) (fun _ _ _ h => h) hS (by rfl) (fun _ => by go_simp) ?_
 simp only [Act.put, sI, sZ, sS]
 refine gq 15 (.int .u32 (at' s2 10)) rfl (by kernel_rfl) (fun _ _ _ h => h) hS (by rfl) (fun wx hSw => by obtain ⟨hx0, hx1, hx2, hx3⟩ := hSw; go_simp) ?_
 simp only [Act.put, sI, sZ, sS]
 refine gb 16 (.pointer (some ⟨g, 0, none⟩)) rfl (by kernel_rfl) (fun _ _ _ h => h) hS (by rfl) (fun _ => by go_simp) ?_
 simp only [Act.put, sI, sZ, sS]
 refine gb 17 (.pointer (some ⟨g, 0, none⟩)) rfl (by kernel_rfl) (fun _ _ _ h => h) hS (by rfl) (fun _ => by go_simp) ?_
 simp only [Act.put, sI, sZ, sS]
 refine gb 18 (.pointer (some ⟨g, 14, none⟩)) rfl (by kernel_rfl) (fun _ _ _ h => h) hS (by rfl) (fun _ => by go_simp) ?_
 simp only [Act.put, sI, sZ, sS]
 refine gq 19 (.int .u32 (at' s2 14)) rfl (by kernel_rfl) (fun _ _ _ h => h) hS (by rfl) (fun wx hSw => by obtain ⟨hx0, hx1, hx2, hx3⟩ := hSw; go_simp) ?_
 simp only [Act.put, sI, sZ, sS]
 refine gb 26 (.pointer (some ⟨g, 0, none⟩)) rfl (by kernel_rfl) (fun _ _ _ h => h) hS (by rfl) (fun _ => by go_simp) ?_
 simp only [Act.put, sI, sZ, sS]
 refine gb 29 (.pointer (some ⟨g, 0, none⟩)) rfl (by kernel_rfl) (fun _ _ _ h => h) hS (by rfl) (fun _ => by go_simp) ?_
 simp only [Act.put, sI, sZ, sS]
 refine gb 32 (.pointer (some ⟨g, 0, none⟩)) rfl (by kernel_rfl) (fun _ _ _ h => h) hS (by rfl) (fun _ => by go_simp) ?_
 simp only [Act.put, sI, sZ, sS]
 refine gb 35 (.pointer (some ⟨g, 0, none⟩)) rfl (by kernel_rfl) (fun _ _ _ h => h) hS (by rfl) (fun _ => by go_simp) ?_
 simp only [Act.put, sI, sZ, sS]
 refine wpAnyG_one (i := 20) rfl (by kernel_rfl) (by rfl) (fun K hK => ?_)
 go_wp2_with (go_at_call 97; refine (quarter_any (at' s2 2) (at' s2 6) (at' s2 10) (at' s2 14) _).mono ?_; rintro e w4 ⟨rfl, rfl⟩)
 refine hK.out _ _ (fun _ => hS) ?_
 clear hK K
 refine gb 21 (.tuple #[.int .u32 (qr (at' s2 2) (at' s2 6) (at' s2 10) (at' s2 14)).1, .int .u32 (qr (at' s2 2) (at' s2 6) (at' s2 10) (at' s2 14)).2.1, .int .u32 (qr (at' s2 2) (at' s2 6) (at' s2 10) (at' s2 14)).2.2.1, .int .u32 (qr (at' s2 2) (at' s2 6) (at' s2 10) (at' s2 14)).2.2.2]) rfl (by kernel_rfl) (fun _ _ _ h => h) hS (by rfl) (fun _ => by go_simp) ?_
 simp only [Act.put, sI, sZ, sS]
 refine gb 22 (.int .u32 (qr (at' s2 2) (at' s2 6) (at' s2 10) (at' s2 14)).1) rfl (by kernel_rfl) (fun _ _ _ h => h) hS (by rfl) (fun _ => by go_simp) ?_
 simp only [Act.put, sI, sZ, sS]
 refine gb 23 (.int .u32 (qr (at' s2 2) (at' s2 6) (at' s2 10) (at' s2 14)).2.1) rfl (by kernel_rfl) (fun _ _ _ h => h) hS (by rfl) (fun _ => by go_simp) ?_
 simp only [Act.put, sI, sZ, sS]
 refine gb 24 (.int .u32 (qr (at' s2 2) (at' s2 6) (at' s2 10) (at' s2 14)).2.2.1) rfl (by kernel_rfl) (fun _ _ _ h => h) hS (by rfl) (fun _ => by go_simp) ?_
 simp only [Act.put, sI, sZ, sS]
 refine gb 25 (.int .u32 (qr (at' s2 2) (at' s2 6) (at' s2 10) (at' s2 14)).2.2.2) rfl (by kernel_rfl) (fun _ _ _ h => h) hS (by rfl) (fun _ => by go_simp) ?_
 simp only [Act.put, sI, sZ, sS]
 refine gb 27 (.pointer (some ⟨g, 2, none⟩)) rfl (by kernel_rfl) (fun _ _ _ h => h) hS (by rfl) (fun _ => by go_simp) ?_
 simp only [Act.put, sI, sZ, sS]
 refine wpAnyG_one (i := 28) rfl (by kernel_rfl) (by rfl) (fun K hK => ?_)
 go_simp
 refine hK.out _ _ (fun h => absurd (show true = false from h) (by decide)) ?_
 clear hK K
 refine wpAnyG_any (i := 30) (v := .pointer (some ⟨g, 6, none⟩)) rfl (by kernel_rfl) (by kernel_rfl) (by kernel_rfl) (fun _ _ _ h => h) (by kernel_rfl) (fun h => absurd (show true = false from h) (by decide)) (by rfl) (fun _ => by go_simp) ?_
 simp only [Act.put, sI, sZ, sS]
 refine wpAnyG_one (i := 31) rfl (by kernel_rfl) (by rfl) (fun K hK => ?_)
 go_simp
 refine hK.out _ _ (fun h => absurd (show true = false from h) (by decide)) ?_
 clear hK K
 refine wpAnyG_any (i := 33) (v := .pointer (some ⟨g, 10, none⟩)) rfl (by kernel_rfl) (by kernel_rfl) (by kernel_rfl) (fun _ _ _ h => h) (by kernel_rfl) (fun h => absurd (show true = false from h) (by decide)) (by rfl) (fun _ => by go_simp) ?_
 simp only [Act.put, sI, sZ, sS]
 refine wpAnyG_one (i := 34) rfl (by kernel_rfl) (by rfl) (fun K hK => ?_)
 go_simp
 refine hK.out _ _ (fun h => absurd (show true = false from h) (by decide)) ?_
 clear hK K
 refine wpAnyG_any (i := 36) (v := .pointer (some ⟨g, 14, none⟩)) rfl (by kernel_rfl) (by kernel_rfl) (by kernel_rfl) (fun _ _ _ h => h) (by kernel_rfl) (fun h => absurd (show true = false from h) (by decide)) (by rfl) (fun _ => by go_simp) ?_
 simp only [Act.put, sI, sZ, sS]
 refine wpAnyG_one (i := 37) rfl (by kernel_rfl) (by rfl) (fun K hK => ?_)
 go_simp
 refine hK.out _ _ (fun h => absurd (show true = false from h) (by decide)) ?_
 clear hK K
 refine wpAnyG_done (by kernel_rfl) ?_ _
 clear hS hc0 hc1 hc2 hc3 hf
 refine forget (p := fun y => Exit.then _ _ _ _ y) (fun W0 => Below B w0 W0 ∧ Holds W0 g .u32 113 (qAt s2 2 6 10 14)) ⟨(below4 hb hB _ _ _ _ _ _ _ _).drew, (hg.qAt _ _ _ _).drew⟩ ?_
 clear hb hg
 rintro W2 ⟨hb, hg⟩
 have hs3 : (qAt s2 2 6 10 14).length = 16 := by rw [qAt_length, hs2]
 obtain ⟨s3, hse⟩ : ∃ x, qAt s2 2 6 10 14 = x := ⟨_, rfl⟩
 rw [hse] at hg hs3
 have HE3 : Hid ((qAt (qAt (qAt s 0 4 8 12) 1 5 9 13) 2 6 10 14) = s3) := by show _ = _; rw [HE2.out]; exact hse
 clear hse
 go_wp2_with fail
 have hc0 : W2.cell? ⟨g, 3, none⟩ = _ := hg.at 3 (by omega)
 have hc1 : W2.cell? ⟨g, 7, none⟩ = _ := hg.at 7 (by omega)
 have hc2 : W2.cell? ⟨g, 11, none⟩ = _ := hg.at 11 (by omega)
 have hc3 : W2.cell? ⟨g, 15, none⟩ = _ := hg.at 15 (by omega)
 have hf := hg.frozen
 refine wp_region_gate (fun w' : World => w'.cell? ⟨g, 3, none⟩ = some (.int .u32 (at' s3 3)) ∧ w'.cell? ⟨g, 7, none⟩ = some (.int .u32 (at' s3 7)) ∧ w'.cell? ⟨g, 11, none⟩ = some (.int .u32 (at' s3 11)) ∧ w'.cell? ⟨g, 15, none⟩ = some (.int .u32 (at' s3 15))) 28 (by kernel_rfl) ?_
 have hS : (fun w' : World => w'.cell? ⟨g, 3, none⟩ = some (.int .u32 (at' s3 3)) ∧ w'.cell? ⟨g, 7, none⟩ = some (.int .u32 (at' s3 7)) ∧ w'.cell? ⟨g, 11, none⟩ = some (.int .u32 (at' s3 11)) ∧ w'.cell? ⟨g, 15, none⟩ = some (.int .u32 (at' s3 15))) W2.drew := ⟨hc0, hc1, hc2, hc3⟩
 refine gb 0 (.pointer (some ⟨g, 0, none⟩)) rfl (by kernel_rfl) (fun _ _ _ h => h) hS (by rfl) (fun _ => by go_simp) ?_
 simp only [Act.put, sI, sZ, sS]
 refine gb 1 (.pointer (some ⟨g, 0, none⟩)) rfl (by kernel_rfl) (fun _ _ _ h => h) hS (by rfl) (fun _ => by go_simp) ?_
 simp only [Act.put, sI, sZ, sS]
 refine gb 2 (.pointer (some ⟨g, 0, none⟩)) rfl (by kernel_rfl) (fun _ _ _ h => h) hS (by rfl) (fun _ => by go_simp) ?_
 simp only [Act.put, sI, sZ, sS]
 refine gb 3 (.pointer (some ⟨g, 0, none⟩)) rfl (by kernel_rfl) (fun _ _ _ h => h) hS (by rfl) (fun _ => by go_simp) ?_
 simp only [Act.put, sI, sZ, sS]
 refine gb 4 (.pointer (some ⟨g, 0, none⟩)) rfl (by kernel_rfl) (fun _ _ _ h => h) hS (by rfl) (fun _ => by go_simp) ?_
 simp only [Act.put, sI, sZ, sS]
 refine gb 5 (.pointer (some ⟨g, 0, none⟩)) rfl (by kernel_rfl) (fun _ _ _ h => h) hS (by rfl) (fun _ => by go_simp) ?_
 simp only [Act.put, sI, sZ, sS]
 refine gb 6 (.pointer (some ⟨g, 3, none⟩)) rfl (by kernel_rfl) (fun _ _ _ h => h) hS (by rfl) (fun _ => by go_simp) ?_
 simp only [Act.put, sI, sZ, sS]
 refine gq 7 (.int .u32 (at' s3 3)) rfl (by kernel_rfl) (fun _ _ _ h => h) hS (by rfl) (fun wx hSw => by obtain ⟨hx0, hx1, hx2, hx3⟩ := hSw; go_simp) ?_
 simp only [Act.put, sI, sZ, sS]
 refine gb 8 (.pointer (some ⟨g, 0, none⟩)) rfl (by kernel_rfl) (fun _ _ _ h => h) hS (by rfl) (fun _ => by go_simp) ?_
 simp only [Act.put, sI, sZ, sS]
 refine gb 9 (.pointer (some ⟨g, 0, none⟩)) rfl (by kernel_rfl) (fun _ _ _ h => h) hS (by rfl) (fun _ => by go_simp) ?_
 simp only [Act.put, sI, sZ, sS]
 refine gb 10 (.pointer (some ⟨g, 7, none⟩)) rfl (by kernel_rfl) (fun _ _ _ h => h) hS (by rfl) (fun _ => by go_simp) ?_
 simp only [Act.put, sI, sZ, sS]
 refine gq 11 (.int .u32 (at' s3 7)) rfl (by kernel_rfl) (fun _ _ _ h => h) hS (by rfl) (fun wx hSw => by obtain ⟨hx0, hx1, hx2, hx3⟩ := hSw; go_simp) ?_
 simp only [Act.put, sI, sZ, sS]
 refine gb 12 (.pointer (some ⟨g, 0, none⟩)) rfl (by kernel_rfl) (fun _ _ _ h => h) hS (by rfl) (fun _ => by go_simp) ?_
 simp only [Act.put, sI, sZ, sS]
 refine gb 13 (.pointer (some ⟨g, 0, none⟩)) rfl (by kernel_rfl) (fun _ _ _ h => h) hS (by rfl) (fun _ => by go_simp) ?_
 simp only [Act.put, sI, sZ, sS]
 refine gb 14 (.pointer (some ⟨g, 11, none⟩)) rfl (by kernel_rfl) (fun _ _ _ h => h) hS (by rfl) (fun _ => by go_simp) ?_
 simp only [Act.put, sI, sZ, sS]
 refine gq 15 (.int .u32 (at' s3 11)) rfl (by kernel_rfl) (fun _ _ _ h => h) hS (by rfl) (fun wx hSw => by obtain ⟨hx0, hx1, hx2, hx3⟩ := hSw; go_simp) ?_
 simp only [Act.put, sI, sZ, sS]
 refine gb 16 (.pointer (some ⟨g, 0, none⟩)) rfl (by kernel_rfl) (fun _ _ _ h => h) hS (by rfl) (fun _ => by go_simp) ?_
 simp only [Act.put, sI, sZ, sS]
 refine gb 17 (.pointer (some ⟨g, 0, none⟩)) rfl (by kernel_rfl) (fun _ _ _ h => h) hS (by rfl) (fun _ => by go_simp) ?_
 simp only [Act.put, sI, sZ, sS]
 refine gb 18 (.pointer (some ⟨g, 15, none⟩)) rfl (by kernel_rfl) (fun _ _ _ h => h) hS (by rfl) (fun _ => by go_simp) ?_
 simp only [Act.put, sI, sZ, sS]
 refine gq 19 (.int .u32 (at' s3 15)) rfl (by kernel_rfl) (fun _ _ _ h => h) hS (by rfl) (fun wx hSw => by obtain ⟨hx0, hx1, hx2, hx3⟩ := hSw; go_simp) ?_
 simp only [Act.put, sI, sZ, sS]
 refine gb 26 (.pointer (some ⟨g, 0, none⟩)) rfl (by kernel_rfl) (fun _ _ _ h => h) hS (by rfl) (fun _ => by go_simp) ?_
 simp only [Act.put, sI, sZ, sS]
 refine gb 29 (.pointer (some ⟨g, 0, none⟩)) rfl (by kernel_rfl) (fun _ _ _ h => h) hS (by rfl) (fun _ => by go_simp) ?_
 simp only [Act.put, sI, sZ, sS]
 refine gb 32 (.pointer (some ⟨g, 0, none⟩)) rfl (by kernel_rfl) (fun _ _ _ h => h) hS (by rfl) (fun _ => by go_simp) ?_
 simp only [Act.put, sI, sZ, sS]
 refine gb 35 (.pointer (some ⟨g, 0, none⟩)) rfl (by kernel_rfl) (fun _ _ _ h => h) hS (by rfl) (fun _ => by go_simp) ?_
 simp only [Act.put, sI, sZ, sS]
 refine wpAnyG_one (i := 20) rfl (by kernel_rfl) (by rfl) (fun K hK => ?_)
 go_wp2_with (go_at_call 97; refine (quarter_any (at' s3 3) (at' s3 7) (at' s3 11) (at' s3 15) _).mono ?_; rintro e w4 ⟨rfl, rfl⟩)
 refine hK.out _ _ (fun _ => hS) ?_
 clear hK K
 refine gb 21 (.tuple #[.int .u32 (qr (at' s3 3) (at' s3 7) (at' s3 11) (at' s3 15)).1, .int .u32 (qr (at' s3 3) (at' s3 7) (at' s3 11) (at' s3 15)).2.1, .int .u32 (qr (at' s3 3) (at' s3 7) (at' s3 11) (at' s3 15)).2.2.1, .int .u32 (qr (at' s3 3) (at' s3 7) (at' s3 11) (at' s3 15)).2.2.2]) rfl (by kernel_rfl) (fun _ _ _ h => h) hS (by rfl) (fun _ => by go_simp) ?_
 simp only [Act.put, sI, sZ, sS]
 refine gb 22 (.int .u32 (qr (at' s3 3) (at' s3 7) (at' s3 11) (at' s3 15)).1) rfl (by kernel_rfl) (fun _ _ _ h => h) hS (by rfl) (fun _ => by go_simp) ?_
 simp only [Act.put, sI, sZ, sS]
 refine gb 23 (.int .u32 (qr (at' s3 3) (at' s3 7) (at' s3 11) (at' s3 15)).2.1) rfl (by kernel_rfl) (fun _ _ _ h => h) hS (by rfl) (fun _ => by go_simp) ?_
 simp only [Act.put, sI, sZ, sS]
 refine gb 24 (.int .u32 (qr (at' s3 3) (at' s3 7) (at' s3 11) (at' s3 15)).2.2.1) rfl (by kernel_rfl) (fun _ _ _ h => h) hS (by rfl) (fun _ => by go_simp) ?_
 simp only [Act.put, sI, sZ, sS]
 refine gb 25 (.int .u32 (qr (at' s3 3) (at' s3 7) (at' s3 11) (at' s3 15)).2.2.2) rfl (by kernel_rfl) (fun _ _ _ h => h) hS (by rfl) (fun _ => by go_simp) ?_
 simp only [Act.put, sI, sZ, sS]
 refine gb 27 (.pointer (some ⟨g, 3, none⟩)) rfl (by kernel_rfl) (fun _ _ _ h => h) hS (by rfl) (fun _ => by go_simp) ?_
 simp only [Act.put, sI, sZ, sS]
 refine wpAnyG_one (i := 28) rfl (by kernel_rfl) (by rfl) (fun K hK => ?_)
 go_simp
 refine hK.out _ _ (fun h => absurd (show true = false from h) (by decide)) ?_
 clear hK K
 refine wpAnyG_any (i := 30) (v := .pointer (some ⟨g, 7, none⟩)) rfl (by kernel_rfl) (by kernel_rfl) (by kernel_rfl) (fun _ _ _ h => h) (by kernel_rfl) (fun h => absurd (show true = false from h) (by decide)) (by rfl) (fun _ => by go_simp) ?_
 simp only [Act.put, sI, sZ, sS]
 refine wpAnyG_one (i := 31) rfl (by kernel_rfl) (by rfl) (fun K hK => ?_)
 go_simp
 refine hK.out _ _ (fun h => absurd (show true = false from h) (by decide)) ?_
 clear hK K
 refine wpAnyG_any (i := 33) (v := .pointer (some ⟨g, 11, none⟩)) rfl (by kernel_rfl) (by kernel_rfl) (by kernel_rfl) (fun _ _ _ h => h) (by kernel_rfl) (fun h => absurd (show true = false from h) (by decide)) (by rfl) (fun _ => by go_simp) ?_
 simp only [Act.put, sI, sZ, sS]
 refine wpAnyG_one (i := 34) rfl (by kernel_rfl) (by rfl) (fun K hK => ?_)
 go_simp
 refine hK.out _ _ (fun h => absurd (show true = false from h) (by decide)) ?_
 clear hK K
 refine wpAnyG_any (i := 36) (v := .pointer (some ⟨g, 15, none⟩)) rfl (by kernel_rfl) (by kernel_rfl) (by kernel_rfl) (fun _ _ _ h => h) (by kernel_rfl) (fun h => absurd (show true = false from h) (by decide)) (by rfl) (fun _ => by go_simp) ?_
 simp only [Act.put, sI, sZ, sS]
 refine wpAnyG_one (i := 37) rfl (by kernel_rfl) (by rfl) (fun K hK => ?_)
 go_simp
 refine hK.out _ _ (fun h => absurd (show true = false from h) (by decide)) ?_
 clear hK K
 refine wpAnyG_done (by kernel_rfl) ?_ _
 clear hS hc0 hc1 hc2 hc3 hf
 go_end0
 rw [HE3.out]
 exact ⟨⟨_, rfl⟩, (below4 hb hB _ _ _ _ _ _ _ _).drew, (hg.qAt _ _ _ _).drew⟩
end Go.Proofs.YtflkhkmejnpapaaGreatDoor
