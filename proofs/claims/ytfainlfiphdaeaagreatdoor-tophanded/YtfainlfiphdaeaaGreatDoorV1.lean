/- Ky8 Ky9 Kz1 Kz2 Fhd TopHandedW -/
import Derived.Test.YtfainlfiphdaeaaGreatDoorT03
import Derived.Test.YtfainlfiphdaeaaGreatDoorT02
import Derived.Test.YtfainlfiphdaeaaGreatDoorT29
import Derived.Great.BuildSlice
import Derived.Test.YtfainlfiphdaeaaGreatDoorT30
import Derived.Test.YtfainlfiphdaeaaGreatDoorT32
import Derived.Test.YtfainlfiphdaeaaGreatDoorT33
import Derived.Test.YtfainlfiphdaeaaGreatDoorT47
import Derived.Test.YtfainlfiphdaeaaGreatDoorT13
import Derived.Test.YtfainlfiphdaeaaGreatDoorT48
import Derived.Test.YtfainlfiphdaeaaGreatDoorT34
namespace Go.Proofs.YtfainlfiphdaeaaGreatDoor
open Go.RowKit
set_option maxRecDepth 20000
set_option linter.unusedSimpArgs false
section
variable {P : Program} {ops : Array Oper} {Q : Exit → Act → World → Prop} {md : Region.Mode} {S : World → Prop} {D : Nat}
theorem wpAnyG_three {i j l : Nat} {oi oj ol : Oper} {fuel : Nat} {listed : Array Bool} {a : Act} {w : World} (hi : ops[i]? = some oi) (hj : ops[j]? = some oj) (hl : ops[l]? = some ol) (hr : Region.ready md ops listed = [i, j, l])
    (hwi : Region.wanted oi (yielded ops a.tmps) = true) (hwj : Region.wanted oj (yielded ops a.tmps) = true) (hwl : Region.wanted ol (yielded ops a.tmps) = true)
    (h1 : ∀ K' : Act → World → Prop, Shut (∀ a w, ((listed.setIfInBounds i true).getD D true = false → S w) → wpAnyG P md ops Q S D fuel (listed.setIfInBounds i true) a w → K' a w) → Oper.wp P oi a w K' Q)
    (h2 : ∀ K' : Act → World → Prop, Shut (∀ a w, ((listed.setIfInBounds j true).getD D true = false → S w) → wpAnyG P md ops Q S D fuel (listed.setIfInBounds j true) a w → K' a w) → Oper.wp P oj a w K' Q)
    (h3 : ∀ K' : Act → World → Prop, Shut (∀ a w, ((listed.setIfInBounds l true).getD D true = false → S w) → wpAnyG P md ops Q S D fuel (listed.setIfInBounds l true) a w → K' a w) → Oper.wp P ol a w K' Q) : wpAnyG P md ops Q S D (fuel + 1) listed a w :=
  ⟨fun h0 => (by rw [hr] at h0; cases h0), fun q hq => by
    rw [hr] at hq
    rcases List.mem_cons.1 hq with rfl | hq
    · refine wpOp_step hi (fun K' hK => ?_)
      rw [if_pos hwi]
      exact h1 K' (fun a w h1 h2 => hK a w ⟨h1, h2⟩)
    · rcases List.mem_cons.1 hq with rfl | hq
      · refine wpOp_step hj (fun K' hK => ?_)
        rw [if_pos hwj]
        exact h2 K' (fun a w h1 h2 => hK a w ⟨h1, h2⟩)
      · obtain rfl : q = l := by simpa using hq
        refine wpOp_step hl (fun K' hK => ?_)
        rw [if_pos hwl]
        exact h3 K' (fun a w h1 h2 => hK a w ⟨h1, h2⟩)⟩
end
end Go.Proofs.YtfainlfiphdaeaaGreatDoor
namespace Go.Proofs.YtfainlfiphdaeaaGreatDoor
open Go.RowKit
set_option linter.unusedSimpArgs false
section
variable {P : Program} {o : Oper} {a : Act} {w : World} {K : Act → World → Prop} {Q : Exit → Act → World → Prop}
theorem wpx_copy (d s : Operand) (dT sT : TypeId) (ho : o.op = .call { callee := .builtin .copy, args := #[d, s], argTypes := #[dT, sT] }) (dv sv v : Value) (w' : World) (hd : a.eval d = dv) (hs : a.eval s = sv) (hrun : (Builtin.copy_ #[dT, sT] o.type #[dv, sv]).run P w = .ok v w') (h : K (a.put o.dst v) w') : o.wp P a w K Q := by
  unfold Oper.wp execOp
  simp only [ho, resolve, invoke, builtin, Sem.run_bind, Sem.run_pure, Result.andThen_ok, List.map_toArray, List.map_cons, List.map_nil, hd, hs, hrun]
  exact h
end
end Go.Proofs.YtfainlfiphdaeaaGreatDoor
namespace Go.Proofs.YtfainlfiphdaeaaGreatDoor
open Go.RowKit
set_option maxRecDepth 20000
set_option linter.unusedSimpArgs false
theorem run_make4 (w : World) : (Instr.makeSlice 41 (.int .i64 4) (.int .i64 4)).run Tryz.prog w = .ok (.slice (some ⟨w.heap.size, 0, none⟩) 4 4) (w.alloc (.cells (row .u8 [0, 0, 0, 0]) 5)) := by kernel_rfl
def wrapNL (f t a s : Int) : List Int := [f, t, a, 0] ++ (bE4 s ++ [0, 0, 0, 0])
set_option maxHeartbeats 4000000 in
theorem wnonce_any (f t a s : Int) (w : World) :
    Calls Tryz.prog 86 #[.int .u8 f, .int .u8 t, .agg (dotC a s).toArray] w fun e w' => e = .returned (.agg (row .u8 (wrapNL f t a s))) ∧ Below w.heap.size w w' := by
  obtain ⟨iw, hiw, hwz, hws2, hwb⟩ := info_parts infoSl
  obtain ⟨iu, hiu, huz, hus, hub⟩ := info_parts infoU8
  obtain ⟨Z, hZl, hZ⟩ : ∃ Z : List Int, Z.length = 12 ∧ Z = List.replicate 12 0 := ⟨_, rfl, rfl⟩
  have hd0 := (CellsAt.new w 26 (dotC a s)).alloc (.cells (row .u8 Z) 101)
  have hr0 := Holds.new (w.alloc (.cells (dotC a s).toArray 26)) .u8 101 Z
  rw [World.size_alloc] at hr0
  have hB : Below w.heap.size w ((w.alloc (.cells (dotC a s).toArray 26)).alloc (.cells (row .u8 Z) 101)) := ((Below.refl _ _).alloc (Nat.le_refl _) _).alloc (by simp) _
  go_enter Tryz.func86, Tryz.ntmps86
  go_upto_region 1 with fail
  refine forget (p := fun y => Code.wp _ _ _ _ y) (fun W => Below w.heap.size w W ∧ Holds W (w.heap.size + 1) .u8 101 Z ∧ CellsAt W w.heap.size 26 (dotC a s)) ⟨by rw [hZ] at hB; exact hB, by rw [hZ] at hr0 ⊢; exact hr0, by rw [hZ] at hd0; exact hd0⟩ ?_
  clear hB hr0 hZ hd0
  rintro W ⟨hBW, hRW, hDW⟩
  obtain ⟨V0, hV0⟩ : ∃ q, W.drew = q := ⟨_, rfl⟩
  have hBV0 : Below w.heap.size w V0 := by rw [← hV0]; exact hBW.drew
  have hRV0 : Holds V0 (w.heap.size + 1) .u8 101 Z := by rw [← hV0]; exact hRW.drew
  have hDV0 : CellsAt V0 w.heap.size 26 (dotC a s) := by rw [← hV0]; exact hDW
  refine wp_region_gate (fun w' => w'.cell? ⟨w.heap.size, 0, none⟩ = some (.int .u8 a) ∧ w'.cell? ⟨w.heap.size, 1, none⟩ = some (.int .u32 s)) 13 (by kernel_rfl) ?_
  rw [hV0]
  clear hV0 hBW hRW hDW W
  have HS : ∀ W' : World, CellsAt W' w.heap.size 26 (dotC a s) → (fun w' : World => w'.cell? ⟨w.heap.size, 0, none⟩ = some (.int .u8 a) ∧ w'.cell? ⟨w.heap.size, 1, none⟩ = some (.int .u32 s)) W' := fun W' h => ⟨h.cell 0, h.cell 1⟩
  have hS := HS V0 hDV0
  have hNLl : (wrapNL f t a s).length = 12 := rfl
  obtain ⟨NL, hNL⟩ : ∃ q, wrapNL f t a s = q := ⟨_, rfl⟩
  rw [hNL] at hNLl
  refine wpAnyG_any (i := 0) (v := ?_) rfl (by kernel_rfl) (by kernel_rfl) (by kernel_rfl) (fun _ _ _ h => h) (by kernel_rfl) (fun _ => hS) (by kernel_rfl) ?_ ?_
  rotate_left
  · intro _; go_simp; try with_reducible rfl
  simp only [Act.put, gA, gS, gZ, sI, sZ, sS]
  refine wpAnyG_any (i := 1) (v := ?_) rfl (by kernel_rfl) (by kernel_rfl) (by kernel_rfl) (fun _ _ _ h => h) (by kernel_rfl) (fun _ => hS) (by kernel_rfl) ?_ ?_
  rotate_left
  · intro _; go_simp; try with_reducible rfl
  simp only [Act.put, gA, gS, gZ, sI, sZ, sS]
  refine wpAnyG_any (i := 2) (v := ?_) rfl (by kernel_rfl) (by kernel_rfl) (by kernel_rfl) (fun _ _ _ h => h) (by kernel_rfl) (fun _ => hS) (by kernel_rfl) ?_ ?_
  rotate_left
  · intro _; go_simp; try with_reducible rfl
  simp only [Act.put, gA, gS, gZ, sI, sZ, sS]
  refine wpAnyG_read (i := 3) (v := ?_) rfl (by kernel_rfl) (by kernel_rfl) (by kernel_rfl) (fun _ _ _ h => h) (by kernel_rfl) (by kernel_rfl) (by kernel_rfl) hS (by kernel_rfl) ?_ ?_
  rotate_left
  · intro wx hSw; go_split_ands; go_simp; try with_reducible rfl
  simp only [Act.put, gA, gS, gZ, sI, sZ, sS]
  refine wpAnyG_any (i := 5) (v := ?_) rfl (by kernel_rfl) (by kernel_rfl) (by kernel_rfl) (fun _ _ _ h => h) (by kernel_rfl) (fun _ => hS) (by kernel_rfl) ?_ ?_
  rotate_left
  · intro _; go_simp; try with_reducible rfl
  simp only [Act.put, gA, gS, gZ, sI, sZ, sS]
  refine wpAnyG_read (i := 6) (v := ?_) rfl (by kernel_rfl) (by kernel_rfl) (by kernel_rfl) (fun _ _ _ h => h) (by kernel_rfl) (by kernel_rfl) (by kernel_rfl) hS (by kernel_rfl) ?_ ?_
  rotate_left
  · intro wx hSw; go_split_ands; go_simp; try with_reducible rfl
  simp only [Act.put, gA, gS, gZ, sI, sZ, sS]
  refine wpAnyG_three (i := 4) (j := 7) (l := 8) rfl rfl rfl (by kernel_rfl) (by kernel_rfl) (by kernel_rfl) (by kernel_rfl) (fun K hK => ?_) (fun K hK => ?_) (fun K hK => ?_)
  · skip
    refine wp_buildSlice 41 5 4 _ rfl (row .u8 [f, t, a, 0]) iu _ Tryz.underlying41 hiu huz (by rw [hus]; decide) (by rw [hus]; decide) (by rw [hus]; kernel_rfl) ?_
    have hNV5 := newB V0 [f, t, a, 0] 4 rfl (by simp [bE4])
    have hBV5 := hBV0.alloc hBV0.size (.cells (row .u8 [f, t, a, 0]) 5)
    have hRV5 := hRV0.alloc (.cells (row .u8 [f, t, a, 0]) 5)
    have hDV5 := hDV0.alloc (.cells (row .u8 [f, t, a, 0]) 5)
    replace hS := HS _ hDV5
    refine hK.out _ _ (fun _ => hS) ?_
    clear hK K
    try simp only [Act.put, gA, gS, gZ, sI, sZ, sS]
    obtain ⟨V5, hV5⟩ : ∃ q, V0.alloc (.cells (row .u8 [f, t, a, 0]) 5) = q := ⟨_, rfl⟩
    obtain ⟨g5, hg5⟩ : ∃ q, V0.heap.size = q := ⟨_, rfl⟩
    rw [hV5] at hNV5 hBV5 hRV5 hDV5 ⊢
    rw [hg5] at hNV5 ⊢
    clear hV5 hg5 hBV0 hRV0 hDV0
    have hN4_V5 := hNV5
    clear hNV5
    refine wpAnyG_two (i := 7) (j := 8) rfl rfl (by kernel_rfl) (by kernel_rfl) (by kernel_rfl) (fun K hK => ?_) (fun K hK => ?_)
    · skip
      refine wpx_call _ _ (by kernel_rfl) ((kfour_any s _).mono ?_)
      rintro e wy ⟨rfl, rfl⟩
      refine ⟨_, rfl, ?_⟩
      have hNV6 := newB V5 (bE4 s) 4 rfl (by simp [bE4])
      have hBV6 := hBV5.alloc hBV5.size (.cells (row .u8 (bE4 s)) 5)
      have hRV6 := hRV5.alloc (.cells (row .u8 (bE4 s)) 5)
      have hN4_V6 := hN4_V5.below ((Below.refl _ _).alloc (Nat.le_refl _) (.cells (row .u8 (bE4 s)) 5))
      have hDV6 := hDV5.alloc (.cells (row .u8 (bE4 s)) 5)
      replace hS := HS _ hDV6
      refine hK.out _ _ (fun _ => hS) ?_
      clear hK K
      try simp only [Act.put, gA, gS, gZ, sI, sZ, sS]
      obtain ⟨V6, hV6⟩ : ∃ q, V5.alloc (.cells (row .u8 (bE4 s)) 5) = q := ⟨_, rfl⟩
      obtain ⟨g6, hg6⟩ : ∃ q, V5.heap.size = q := ⟨_, rfl⟩
      rw [hV6] at hNV6 hBV6 hRV6 hN4_V6 hDV6 ⊢
      rw [hg6] at hNV6 ⊢
      clear hV6 hg6 hBV5 hRV5 hDV5 hN4_V5
      have hN7_V6 := hNV6
      clear hNV6
      refine wpAnyG_one (i := 8) rfl (by kernel_rfl) (by kernel_rfl) (fun K hK => ?_)
      refine wpx_make _ _ _ rfl _ _ _ _ rfl rfl (run_make4 _) ?_
      have hNV7 := newB V6 [0, 0, 0, 0] 4 rfl (by simp [bE4])
      have hBV7 := hBV6.alloc hBV6.size (.cells (row .u8 [0, 0, 0, 0]) 5)
      have hRV7 := hRV6.alloc (.cells (row .u8 [0, 0, 0, 0]) 5)
      have hN4_V7 := hN4_V6.below ((Below.refl _ _).alloc (Nat.le_refl _) (.cells (row .u8 [0, 0, 0, 0]) 5))
      have hN7_V7 := hN7_V6.below ((Below.refl _ _).alloc (Nat.le_refl _) (.cells (row .u8 [0, 0, 0, 0]) 5))
      have hDV7 := hDV6.alloc (.cells (row .u8 [0, 0, 0, 0]) 5)
      replace hS := HS _ hDV7
      refine hK.out _ _ (fun _ => hS) ?_
      clear hK K
      try simp only [Act.put, gA, gS, gZ, sI, sZ, sS]
      obtain ⟨V7, hV7⟩ : ∃ q, V6.alloc (.cells (row .u8 [0, 0, 0, 0]) 5) = q := ⟨_, rfl⟩
      obtain ⟨g7, hg7⟩ : ∃ q, V6.heap.size = q := ⟨_, rfl⟩
      rw [hV7] at hNV7 hBV7 hRV7 hN4_V7 hN7_V7 hDV7 ⊢
      rw [hg7] at hNV7 ⊢
      clear hV7 hg7 hBV6 hRV6 hDV6 hN4_V6 hN7_V6
      have hN8_V7 := hNV7
      clear hNV7
      refine wpAnyG_one (i := 9) rfl (by kernel_rfl) (by kernel_rfl) (fun K hK => ?_)
      refine wp_buildSlice 187 41 3 _ rfl #[.slice (some ⟨g5, 0, none⟩) 4 4, .slice (some ⟨g6, 0, none⟩) 4 4, .slice (some ⟨g7, 0, none⟩) 4 4] iw _ Tryz.underlying187 hiw hwz (by rw [hws2]; decide) (by rw [hws2]; decide) (by rw [hws2]; kernel_rfl) ?_
      have hP := partsNew V7 [⟨some ⟨g5, 0, none⟩, 4, 4, [f, t, a, 0]⟩, ⟨some ⟨g6, 0, none⟩, 4, 4, (bE4 s)⟩, ⟨some ⟨g7, 0, none⟩, 4, 4, [0, 0, 0, 0]⟩] (fun p hp => by
        simp only [List.mem_cons, List.not_mem_nil, or_false] at hp
        rcases hp with rfl | rfl | rfl
        · exact hN4_V7
        · exact hN7_V7
        · exact hN8_V7)
      have hBP := hBV7.alloc hBV7.size (.cells #[.slice (some ⟨g5, 0, none⟩) 4 4, .slice (some ⟨g6, 0, none⟩) 4 4, .slice (some ⟨g7, 0, none⟩) 4 4] 41)
      have hRP := hRV7.alloc (.cells #[.slice (some ⟨g5, 0, none⟩) 4 4, .slice (some ⟨g6, 0, none⟩) 4 4, .slice (some ⟨g7, 0, none⟩) 4 4] 41)
      have hDP := hDV7.alloc (.cells #[.slice (some ⟨g5, 0, none⟩) 4 4, .slice (some ⟨g6, 0, none⟩) 4 4, .slice (some ⟨g7, 0, none⟩) 4 4] 41)
      replace hS := HS _ hDP
      refine hK.out _ _ (fun _ => hS) ?_
      clear hK K
      try simp only [Act.put, gA, gS, gZ, sI, sZ, sS]
      refine wpAnyG_one (i := 10) rfl (by kernel_rfl) (by kernel_rfl) (fun K hK => ?_)
      have hj := kjoined_any V7.heap.size 3 [⟨some ⟨g5, 0, none⟩, 4, 4, [f, t, a, 0]⟩, ⟨some ⟨g6, 0, none⟩, 4, 4, (bE4 s)⟩, ⟨some ⟨g7, 0, none⟩, 4, 4, [0, 0, 0, 0]⟩] _ hP rfl (by omega) (by simp [sumN, allZ, bE4])
      rw [show allZ [⟨some ⟨g5, 0, none⟩, 4, 4, [f, t, a, 0]⟩, ⟨some ⟨g6, 0, none⟩, 4, 4, (bE4 s)⟩, ⟨some ⟨g7, 0, none⟩, 4, 4, [0, 0, 0, 0]⟩] = wrapNL f t a s from rfl, hNL] at hj
      refine wpx_call _ _ (by kernel_rfl) (hj.mono ?_)
      rintro e WJ ⟨vj, rfl, hoj, hbj⟩
      refine ⟨_, rfl, ?_⟩
      have hBJ := hBP.trans (hbj.mono hBP.size)
      have hRJ := hRP.below hbj hRP.lt
      obtain ⟨gj, cj, rfl, hgj⟩ := hoj.slice (by rw [hNLl]; omega)
      have hrg := hoj.bytes.2.rangeK
      have hDJ := hDP.congr (hbj.block _ hDP.lt)
      replace hS := HS _ hDJ
      refine hK.out _ _ (fun _ => hS) ?_
      clear hK K
      try simp only [Act.put, gA, gS, gZ, sI, sZ, sS]
      refine wpAnyG_one (i := 11) rfl (by kernel_rfl) (by kernel_rfl) (fun K hK => ?_)
      refine wpx_arr _ _ rfl _ _ _ rfl (run_arrayAk Tryz.underlying101 _ _ _ (by rw [hNLl]; exact Nat.le_refl _) _) ?_
      refine hK.out _ _ (fun _ => hS) ?_
      clear hK K
      try simp only [Act.put, gA, gS, gZ, sI, sZ, sS]
      refine wpAnyG_one (i := 12) rfl (by kernel_rfl) (by kernel_rfl) (fun K hK => ?_)
      refine wp_load_mid 101 _ rfl gj 0 rfl _ _ hrg Tryz.underlying101 rfl (by rw [List.length_map, hNLl]; exact sizeNonceD) ?_
      refine hK.out _ _ (fun _ => hS) ?_
      clear hK K
      try simp only [Act.put, gA, gS, gZ, sI, sZ, sS]
      refine wpAnyG_one (i := 13) rfl (by kernel_rfl) (by kernel_rfl) (fun K hK => ?_)
      refine wp_stG 101 _ _ rfl _ rfl (k := .u8) (l := NL) rfl hRJ (by rw [hNLl]; exact sizeNonceD) (by rw [hZl, hNLl]) ?_
      refine hK.out _ _ (fun h => absurd (show true = false from h) (by decide)) ?_
      clear hK K
      try simp only [Act.put, gA, gS, gZ, sI, sZ, sS]
      refine wpAnyG_done (by kernel_rfl) ?_ _
      go_wp2_with fail
      refine bodyPost_ret (results_holds (Tryz.results86) _ rfl (hRJ.setRow _) Tryz.underlying101 sizeNonceD hNLl) rfl ⟨by rw [← hNL], ?_⟩
      exact below_setRow hBJ (by omega) _
    · skip
      refine wpx_make _ _ _ rfl _ _ _ _ rfl rfl (run_make4 _) ?_
      have hNV8 := newB V5 [0, 0, 0, 0] 4 rfl (by simp [bE4])
      have hBV8 := hBV5.alloc hBV5.size (.cells (row .u8 [0, 0, 0, 0]) 5)
      have hRV8 := hRV5.alloc (.cells (row .u8 [0, 0, 0, 0]) 5)
      have hN4_V8 := hN4_V5.below ((Below.refl _ _).alloc (Nat.le_refl _) (.cells (row .u8 [0, 0, 0, 0]) 5))
      have hDV8 := hDV5.alloc (.cells (row .u8 [0, 0, 0, 0]) 5)
      replace hS := HS _ hDV8
      refine hK.out _ _ (fun _ => hS) ?_
      clear hK K
      try simp only [Act.put, gA, gS, gZ, sI, sZ, sS]
      obtain ⟨V8, hV8⟩ : ∃ q, V5.alloc (.cells (row .u8 [0, 0, 0, 0]) 5) = q := ⟨_, rfl⟩
      obtain ⟨g8, hg8⟩ : ∃ q, V5.heap.size = q := ⟨_, rfl⟩
      rw [hV8] at hNV8 hBV8 hRV8 hN4_V8 hDV8 ⊢
      rw [hg8] at hNV8 ⊢
      clear hV8 hg8 hBV5 hRV5 hDV5 hN4_V5
      have hN8_V8 := hNV8
      clear hNV8
      refine wpAnyG_one (i := 7) rfl (by kernel_rfl) (by kernel_rfl) (fun K hK => ?_)
      refine wpx_call _ _ (by kernel_rfl) ((kfour_any s _).mono ?_)
      rintro e wy ⟨rfl, rfl⟩
      refine ⟨_, rfl, ?_⟩
      have hNV9 := newB V8 (bE4 s) 4 rfl (by simp [bE4])
      have hBV9 := hBV8.alloc hBV8.size (.cells (row .u8 (bE4 s)) 5)
      have hRV9 := hRV8.alloc (.cells (row .u8 (bE4 s)) 5)
      have hN4_V9 := hN4_V8.below ((Below.refl _ _).alloc (Nat.le_refl _) (.cells (row .u8 (bE4 s)) 5))
      have hN8_V9 := hN8_V8.below ((Below.refl _ _).alloc (Nat.le_refl _) (.cells (row .u8 (bE4 s)) 5))
      have hDV9 := hDV8.alloc (.cells (row .u8 (bE4 s)) 5)
      replace hS := HS _ hDV9
      refine hK.out _ _ (fun _ => hS) ?_
      clear hK K
      try simp only [Act.put, gA, gS, gZ, sI, sZ, sS]
      obtain ⟨V9, hV9⟩ : ∃ q, V8.alloc (.cells (row .u8 (bE4 s)) 5) = q := ⟨_, rfl⟩
      obtain ⟨g9, hg9⟩ : ∃ q, V8.heap.size = q := ⟨_, rfl⟩
      rw [hV9] at hNV9 hBV9 hRV9 hN4_V9 hN8_V9 hDV9 ⊢
      rw [hg9] at hNV9 ⊢
      clear hV9 hg9 hBV8 hRV8 hDV8 hN4_V8 hN8_V8
      have hN7_V9 := hNV9
      clear hNV9
      refine wpAnyG_one (i := 9) rfl (by kernel_rfl) (by kernel_rfl) (fun K hK => ?_)
      refine wp_buildSlice 187 41 3 _ rfl #[.slice (some ⟨g5, 0, none⟩) 4 4, .slice (some ⟨g9, 0, none⟩) 4 4, .slice (some ⟨g8, 0, none⟩) 4 4] iw _ Tryz.underlying187 hiw hwz (by rw [hws2]; decide) (by rw [hws2]; decide) (by rw [hws2]; kernel_rfl) ?_
      have hP := partsNew V9 [⟨some ⟨g5, 0, none⟩, 4, 4, [f, t, a, 0]⟩, ⟨some ⟨g9, 0, none⟩, 4, 4, (bE4 s)⟩, ⟨some ⟨g8, 0, none⟩, 4, 4, [0, 0, 0, 0]⟩] (fun p hp => by
        simp only [List.mem_cons, List.not_mem_nil, or_false] at hp
        rcases hp with rfl | rfl | rfl
        · exact hN4_V9
        · exact hN7_V9
        · exact hN8_V9)
      have hBP := hBV9.alloc hBV9.size (.cells #[.slice (some ⟨g5, 0, none⟩) 4 4, .slice (some ⟨g9, 0, none⟩) 4 4, .slice (some ⟨g8, 0, none⟩) 4 4] 41)
      have hRP := hRV9.alloc (.cells #[.slice (some ⟨g5, 0, none⟩) 4 4, .slice (some ⟨g9, 0, none⟩) 4 4, .slice (some ⟨g8, 0, none⟩) 4 4] 41)
      have hDP := hDV9.alloc (.cells #[.slice (some ⟨g5, 0, none⟩) 4 4, .slice (some ⟨g9, 0, none⟩) 4 4, .slice (some ⟨g8, 0, none⟩) 4 4] 41)
      replace hS := HS _ hDP
      refine hK.out _ _ (fun _ => hS) ?_
      clear hK K
      try simp only [Act.put, gA, gS, gZ, sI, sZ, sS]
      refine wpAnyG_one (i := 10) rfl (by kernel_rfl) (by kernel_rfl) (fun K hK => ?_)
      have hj := kjoined_any V9.heap.size 3 [⟨some ⟨g5, 0, none⟩, 4, 4, [f, t, a, 0]⟩, ⟨some ⟨g9, 0, none⟩, 4, 4, (bE4 s)⟩, ⟨some ⟨g8, 0, none⟩, 4, 4, [0, 0, 0, 0]⟩] _ hP rfl (by omega) (by simp [sumN, allZ, bE4])
      rw [show allZ [⟨some ⟨g5, 0, none⟩, 4, 4, [f, t, a, 0]⟩, ⟨some ⟨g9, 0, none⟩, 4, 4, (bE4 s)⟩, ⟨some ⟨g8, 0, none⟩, 4, 4, [0, 0, 0, 0]⟩] = wrapNL f t a s from rfl, hNL] at hj
      refine wpx_call _ _ (by kernel_rfl) (hj.mono ?_)
      rintro e WJ ⟨vj, rfl, hoj, hbj⟩
      refine ⟨_, rfl, ?_⟩
      have hBJ := hBP.trans (hbj.mono hBP.size)
      have hRJ := hRP.below hbj hRP.lt
      obtain ⟨gj, cj, rfl, hgj⟩ := hoj.slice (by rw [hNLl]; omega)
      have hrg := hoj.bytes.2.rangeK
      have hDJ := hDP.congr (hbj.block _ hDP.lt)
      replace hS := HS _ hDJ
      refine hK.out _ _ (fun _ => hS) ?_
      clear hK K
      try simp only [Act.put, gA, gS, gZ, sI, sZ, sS]
      refine wpAnyG_one (i := 11) rfl (by kernel_rfl) (by kernel_rfl) (fun K hK => ?_)
      refine wpx_arr _ _ rfl _ _ _ rfl (run_arrayAk Tryz.underlying101 _ _ _ (by rw [hNLl]; exact Nat.le_refl _) _) ?_
      refine hK.out _ _ (fun _ => hS) ?_
      clear hK K
      try simp only [Act.put, gA, gS, gZ, sI, sZ, sS]
      refine wpAnyG_one (i := 12) rfl (by kernel_rfl) (by kernel_rfl) (fun K hK => ?_)
      refine wp_load_mid 101 _ rfl gj 0 rfl _ _ hrg Tryz.underlying101 rfl (by rw [List.length_map, hNLl]; exact sizeNonceD) ?_
      refine hK.out _ _ (fun _ => hS) ?_
      clear hK K
      try simp only [Act.put, gA, gS, gZ, sI, sZ, sS]
      refine wpAnyG_one (i := 13) rfl (by kernel_rfl) (by kernel_rfl) (fun K hK => ?_)
      refine wp_stG 101 _ _ rfl _ rfl (k := .u8) (l := NL) rfl hRJ (by rw [hNLl]; exact sizeNonceD) (by rw [hZl, hNLl]) ?_
      refine hK.out _ _ (fun h => absurd (show true = false from h) (by decide)) ?_
      clear hK K
      try simp only [Act.put, gA, gS, gZ, sI, sZ, sS]
      refine wpAnyG_done (by kernel_rfl) ?_ _
      go_wp2_with fail
      refine bodyPost_ret (results_holds (Tryz.results86) _ rfl (hRJ.setRow _) Tryz.underlying101 sizeNonceD hNLl) rfl ⟨by rw [← hNL], ?_⟩
      exact below_setRow hBJ (by omega) _
  · skip
    refine wpx_call _ _ (by kernel_rfl) ((kfour_any s _).mono ?_)
    rintro e wy ⟨rfl, rfl⟩
    refine ⟨_, rfl, ?_⟩
    have hNV10 := newB V0 (bE4 s) 4 rfl (by simp [bE4])
    have hBV10 := hBV0.alloc hBV0.size (.cells (row .u8 (bE4 s)) 5)
    have hRV10 := hRV0.alloc (.cells (row .u8 (bE4 s)) 5)
    have hDV10 := hDV0.alloc (.cells (row .u8 (bE4 s)) 5)
    replace hS := HS _ hDV10
    refine hK.out _ _ (fun _ => hS) ?_
    clear hK K
    try simp only [Act.put, gA, gS, gZ, sI, sZ, sS]
    obtain ⟨V10, hV10⟩ : ∃ q, V0.alloc (.cells (row .u8 (bE4 s)) 5) = q := ⟨_, rfl⟩
    obtain ⟨g10, hg10⟩ : ∃ q, V0.heap.size = q := ⟨_, rfl⟩
    rw [hV10] at hNV10 hBV10 hRV10 hDV10 ⊢
    rw [hg10] at hNV10 ⊢
    clear hV10 hg10 hBV0 hRV0 hDV0
    have hN7_V10 := hNV10
    clear hNV10
    refine wpAnyG_two (i := 4) (j := 8) rfl rfl (by kernel_rfl) (by kernel_rfl) (by kernel_rfl) (fun K hK => ?_) (fun K hK => ?_)
    · skip
      refine wp_buildSlice 41 5 4 _ rfl (row .u8 [f, t, a, 0]) iu _ Tryz.underlying41 hiu huz (by rw [hus]; decide) (by rw [hus]; decide) (by rw [hus]; kernel_rfl) ?_
      have hNV11 := newB V10 [f, t, a, 0] 4 rfl (by simp [bE4])
      have hBV11 := hBV10.alloc hBV10.size (.cells (row .u8 [f, t, a, 0]) 5)
      have hRV11 := hRV10.alloc (.cells (row .u8 [f, t, a, 0]) 5)
      have hN7_V11 := hN7_V10.below ((Below.refl _ _).alloc (Nat.le_refl _) (.cells (row .u8 [f, t, a, 0]) 5))
      have hDV11 := hDV10.alloc (.cells (row .u8 [f, t, a, 0]) 5)
      replace hS := HS _ hDV11
      refine hK.out _ _ (fun _ => hS) ?_
      clear hK K
      try simp only [Act.put, gA, gS, gZ, sI, sZ, sS]
      obtain ⟨V11, hV11⟩ : ∃ q, V10.alloc (.cells (row .u8 [f, t, a, 0]) 5) = q := ⟨_, rfl⟩
      obtain ⟨g11, hg11⟩ : ∃ q, V10.heap.size = q := ⟨_, rfl⟩
      rw [hV11] at hNV11 hBV11 hRV11 hN7_V11 hDV11 ⊢
      rw [hg11] at hNV11 ⊢
      clear hV11 hg11 hBV10 hRV10 hDV10 hN7_V10
      have hN4_V11 := hNV11
      clear hNV11
      refine wpAnyG_one (i := 8) rfl (by kernel_rfl) (by kernel_rfl) (fun K hK => ?_)
      refine wpx_make _ _ _ rfl _ _ _ _ rfl rfl (run_make4 _) ?_
      have hNV12 := newB V11 [0, 0, 0, 0] 4 rfl (by simp [bE4])
      have hBV12 := hBV11.alloc hBV11.size (.cells (row .u8 [0, 0, 0, 0]) 5)
      have hRV12 := hRV11.alloc (.cells (row .u8 [0, 0, 0, 0]) 5)
      have hN7_V12 := hN7_V11.below ((Below.refl _ _).alloc (Nat.le_refl _) (.cells (row .u8 [0, 0, 0, 0]) 5))
      have hN4_V12 := hN4_V11.below ((Below.refl _ _).alloc (Nat.le_refl _) (.cells (row .u8 [0, 0, 0, 0]) 5))
      have hDV12 := hDV11.alloc (.cells (row .u8 [0, 0, 0, 0]) 5)
      replace hS := HS _ hDV12
      refine hK.out _ _ (fun _ => hS) ?_
      clear hK K
      try simp only [Act.put, gA, gS, gZ, sI, sZ, sS]
      obtain ⟨V12, hV12⟩ : ∃ q, V11.alloc (.cells (row .u8 [0, 0, 0, 0]) 5) = q := ⟨_, rfl⟩
      obtain ⟨g12, hg12⟩ : ∃ q, V11.heap.size = q := ⟨_, rfl⟩
      rw [hV12] at hNV12 hBV12 hRV12 hN7_V12 hN4_V12 hDV12 ⊢
      rw [hg12] at hNV12 ⊢
      clear hV12 hg12 hBV11 hRV11 hDV11 hN7_V11 hN4_V11
      have hN8_V12 := hNV12
      clear hNV12
      refine wpAnyG_one (i := 9) rfl (by kernel_rfl) (by kernel_rfl) (fun K hK => ?_)
      refine wp_buildSlice 187 41 3 _ rfl #[.slice (some ⟨g11, 0, none⟩) 4 4, .slice (some ⟨g10, 0, none⟩) 4 4, .slice (some ⟨g12, 0, none⟩) 4 4] iw _ Tryz.underlying187 hiw hwz (by rw [hws2]; decide) (by rw [hws2]; decide) (by rw [hws2]; kernel_rfl) ?_
      have hP := partsNew V12 [⟨some ⟨g11, 0, none⟩, 4, 4, [f, t, a, 0]⟩, ⟨some ⟨g10, 0, none⟩, 4, 4, (bE4 s)⟩, ⟨some ⟨g12, 0, none⟩, 4, 4, [0, 0, 0, 0]⟩] (fun p hp => by
        simp only [List.mem_cons, List.not_mem_nil, or_false] at hp
        rcases hp with rfl | rfl | rfl
        · exact hN4_V12
        · exact hN7_V12
        · exact hN8_V12)
      have hBP := hBV12.alloc hBV12.size (.cells #[.slice (some ⟨g11, 0, none⟩) 4 4, .slice (some ⟨g10, 0, none⟩) 4 4, .slice (some ⟨g12, 0, none⟩) 4 4] 41)
      have hRP := hRV12.alloc (.cells #[.slice (some ⟨g11, 0, none⟩) 4 4, .slice (some ⟨g10, 0, none⟩) 4 4, .slice (some ⟨g12, 0, none⟩) 4 4] 41)
      have hDP := hDV12.alloc (.cells #[.slice (some ⟨g11, 0, none⟩) 4 4, .slice (some ⟨g10, 0, none⟩) 4 4, .slice (some ⟨g12, 0, none⟩) 4 4] 41)
      replace hS := HS _ hDP
      refine hK.out _ _ (fun _ => hS) ?_
      clear hK K
      try simp only [Act.put, gA, gS, gZ, sI, sZ, sS]
      refine wpAnyG_one (i := 10) rfl (by kernel_rfl) (by kernel_rfl) (fun K hK => ?_)
      have hj := kjoined_any V12.heap.size 3 [⟨some ⟨g11, 0, none⟩, 4, 4, [f, t, a, 0]⟩, ⟨some ⟨g10, 0, none⟩, 4, 4, (bE4 s)⟩, ⟨some ⟨g12, 0, none⟩, 4, 4, [0, 0, 0, 0]⟩] _ hP rfl (by omega) (by simp [sumN, allZ, bE4])
      rw [show allZ [⟨some ⟨g11, 0, none⟩, 4, 4, [f, t, a, 0]⟩, ⟨some ⟨g10, 0, none⟩, 4, 4, (bE4 s)⟩, ⟨some ⟨g12, 0, none⟩, 4, 4, [0, 0, 0, 0]⟩] = wrapNL f t a s from rfl, hNL] at hj
      refine wpx_call _ _ (by kernel_rfl) (hj.mono ?_)
      rintro e WJ ⟨vj, rfl, hoj, hbj⟩
      refine ⟨_, rfl, ?_⟩
      have hBJ := hBP.trans (hbj.mono hBP.size)
      have hRJ := hRP.below hbj hRP.lt
      obtain ⟨gj, cj, rfl, hgj⟩ := hoj.slice (by rw [hNLl]; omega)
      have hrg := hoj.bytes.2.rangeK
      have hDJ := hDP.congr (hbj.block _ hDP.lt)
      replace hS := HS _ hDJ
      refine hK.out _ _ (fun _ => hS) ?_
      clear hK K
      try simp only [Act.put, gA, gS, gZ, sI, sZ, sS]
      refine wpAnyG_one (i := 11) rfl (by kernel_rfl) (by kernel_rfl) (fun K hK => ?_)
      refine wpx_arr _ _ rfl _ _ _ rfl (run_arrayAk Tryz.underlying101 _ _ _ (by rw [hNLl]; exact Nat.le_refl _) _) ?_
      refine hK.out _ _ (fun _ => hS) ?_
      clear hK K
      try simp only [Act.put, gA, gS, gZ, sI, sZ, sS]
      refine wpAnyG_one (i := 12) rfl (by kernel_rfl) (by kernel_rfl) (fun K hK => ?_)
      refine wp_load_mid 101 _ rfl gj 0 rfl _ _ hrg Tryz.underlying101 rfl (by rw [List.length_map, hNLl]; exact sizeNonceD) ?_
      refine hK.out _ _ (fun _ => hS) ?_
      clear hK K
      try simp only [Act.put, gA, gS, gZ, sI, sZ, sS]
      refine wpAnyG_one (i := 13) rfl (by kernel_rfl) (by kernel_rfl) (fun K hK => ?_)
      refine wp_stG 101 _ _ rfl _ rfl (k := .u8) (l := NL) rfl hRJ (by rw [hNLl]; exact sizeNonceD) (by rw [hZl, hNLl]) ?_
      refine hK.out _ _ (fun h => absurd (show true = false from h) (by decide)) ?_
      clear hK K
      try simp only [Act.put, gA, gS, gZ, sI, sZ, sS]
      refine wpAnyG_done (by kernel_rfl) ?_ _
      go_wp2_with fail
      refine bodyPost_ret (results_holds (Tryz.results86) _ rfl (hRJ.setRow _) Tryz.underlying101 sizeNonceD hNLl) rfl ⟨by rw [← hNL], ?_⟩
      exact below_setRow hBJ (by omega) _
    · skip
      refine wpx_make _ _ _ rfl _ _ _ _ rfl rfl (run_make4 _) ?_
      have hNV13 := newB V10 [0, 0, 0, 0] 4 rfl (by simp [bE4])
      have hBV13 := hBV10.alloc hBV10.size (.cells (row .u8 [0, 0, 0, 0]) 5)
      have hRV13 := hRV10.alloc (.cells (row .u8 [0, 0, 0, 0]) 5)
      have hN7_V13 := hN7_V10.below ((Below.refl _ _).alloc (Nat.le_refl _) (.cells (row .u8 [0, 0, 0, 0]) 5))
      have hDV13 := hDV10.alloc (.cells (row .u8 [0, 0, 0, 0]) 5)
      replace hS := HS _ hDV13
      refine hK.out _ _ (fun _ => hS) ?_
      clear hK K
      try simp only [Act.put, gA, gS, gZ, sI, sZ, sS]
      obtain ⟨V13, hV13⟩ : ∃ q, V10.alloc (.cells (row .u8 [0, 0, 0, 0]) 5) = q := ⟨_, rfl⟩
      obtain ⟨g13, hg13⟩ : ∃ q, V10.heap.size = q := ⟨_, rfl⟩
      rw [hV13] at hNV13 hBV13 hRV13 hN7_V13 hDV13 ⊢
      rw [hg13] at hNV13 ⊢
      clear hV13 hg13 hBV10 hRV10 hDV10 hN7_V10
      have hN8_V13 := hNV13
      clear hNV13
      refine wpAnyG_one (i := 4) rfl (by kernel_rfl) (by kernel_rfl) (fun K hK => ?_)
      refine wp_buildSlice 41 5 4 _ rfl (row .u8 [f, t, a, 0]) iu _ Tryz.underlying41 hiu huz (by rw [hus]; decide) (by rw [hus]; decide) (by rw [hus]; kernel_rfl) ?_
      have hNV14 := newB V13 [f, t, a, 0] 4 rfl (by simp [bE4])
      have hBV14 := hBV13.alloc hBV13.size (.cells (row .u8 [f, t, a, 0]) 5)
      have hRV14 := hRV13.alloc (.cells (row .u8 [f, t, a, 0]) 5)
      have hN7_V14 := hN7_V13.below ((Below.refl _ _).alloc (Nat.le_refl _) (.cells (row .u8 [f, t, a, 0]) 5))
      have hN8_V14 := hN8_V13.below ((Below.refl _ _).alloc (Nat.le_refl _) (.cells (row .u8 [f, t, a, 0]) 5))
      have hDV14 := hDV13.alloc (.cells (row .u8 [f, t, a, 0]) 5)
      replace hS := HS _ hDV14
      refine hK.out _ _ (fun _ => hS) ?_
      clear hK K
      try simp only [Act.put, gA, gS, gZ, sI, sZ, sS]
      obtain ⟨V14, hV14⟩ : ∃ q, V13.alloc (.cells (row .u8 [f, t, a, 0]) 5) = q := ⟨_, rfl⟩
      obtain ⟨g14, hg14⟩ : ∃ q, V13.heap.size = q := ⟨_, rfl⟩
      rw [hV14] at hNV14 hBV14 hRV14 hN7_V14 hN8_V14 hDV14 ⊢
      rw [hg14] at hNV14 ⊢
      clear hV14 hg14 hBV13 hRV13 hDV13 hN7_V13 hN8_V13
      have hN4_V14 := hNV14
      clear hNV14
      refine wpAnyG_one (i := 9) rfl (by kernel_rfl) (by kernel_rfl) (fun K hK => ?_)
      refine wp_buildSlice 187 41 3 _ rfl #[.slice (some ⟨g14, 0, none⟩) 4 4, .slice (some ⟨g10, 0, none⟩) 4 4, .slice (some ⟨g13, 0, none⟩) 4 4] iw _ Tryz.underlying187 hiw hwz (by rw [hws2]; decide) (by rw [hws2]; decide) (by rw [hws2]; kernel_rfl) ?_
      have hP := partsNew V14 [⟨some ⟨g14, 0, none⟩, 4, 4, [f, t, a, 0]⟩, ⟨some ⟨g10, 0, none⟩, 4, 4, (bE4 s)⟩, ⟨some ⟨g13, 0, none⟩, 4, 4, [0, 0, 0, 0]⟩] (fun p hp => by
        simp only [List.mem_cons, List.not_mem_nil, or_false] at hp
        rcases hp with rfl | rfl | rfl
        · exact hN4_V14
        · exact hN7_V14
        · exact hN8_V14)
      have hBP := hBV14.alloc hBV14.size (.cells #[.slice (some ⟨g14, 0, none⟩) 4 4, .slice (some ⟨g10, 0, none⟩) 4 4, .slice (some ⟨g13, 0, none⟩) 4 4] 41)
      have hRP := hRV14.alloc (.cells #[.slice (some ⟨g14, 0, none⟩) 4 4, .slice (some ⟨g10, 0, none⟩) 4 4, .slice (some ⟨g13, 0, none⟩) 4 4] 41)
      have hDP := hDV14.alloc (.cells #[.slice (some ⟨g14, 0, none⟩) 4 4, .slice (some ⟨g10, 0, none⟩) 4 4, .slice (some ⟨g13, 0, none⟩) 4 4] 41)
      replace hS := HS _ hDP
      refine hK.out _ _ (fun _ => hS) ?_
      clear hK K
      try simp only [Act.put, gA, gS, gZ, sI, sZ, sS]
      refine wpAnyG_one (i := 10) rfl (by kernel_rfl) (by kernel_rfl) (fun K hK => ?_)
      have hj := kjoined_any V14.heap.size 3 [⟨some ⟨g14, 0, none⟩, 4, 4, [f, t, a, 0]⟩, ⟨some ⟨g10, 0, none⟩, 4, 4, (bE4 s)⟩, ⟨some ⟨g13, 0, none⟩, 4, 4, [0, 0, 0, 0]⟩] _ hP rfl (by omega) (by simp [sumN, allZ, bE4])
      rw [show allZ [⟨some ⟨g14, 0, none⟩, 4, 4, [f, t, a, 0]⟩, ⟨some ⟨g10, 0, none⟩, 4, 4, (bE4 s)⟩, ⟨some ⟨g13, 0, none⟩, 4, 4, [0, 0, 0, 0]⟩] = wrapNL f t a s from rfl, hNL] at hj
      refine wpx_call _ _ (by kernel_rfl) (hj.mono ?_)
      rintro e WJ ⟨vj, rfl, hoj, hbj⟩
      refine ⟨_, rfl, ?_⟩
      have hBJ := hBP.trans (hbj.mono hBP.size)
      have hRJ := hRP.below hbj hRP.lt
      obtain ⟨gj, cj, rfl, hgj⟩ := hoj.slice (by rw [hNLl]; omega)
      have hrg := hoj.bytes.2.rangeK
      have hDJ := hDP.congr (hbj.block _ hDP.lt)
      replace hS := HS _ hDJ
      refine hK.out _ _ (fun _ => hS) ?_
      clear hK K
      try simp only [Act.put, gA, gS, gZ, sI, sZ, sS]
      refine wpAnyG_one (i := 11) rfl (by kernel_rfl) (by kernel_rfl) (fun K hK => ?_)
      refine wpx_arr _ _ rfl _ _ _ rfl (run_arrayAk Tryz.underlying101 _ _ _ (by rw [hNLl]; exact Nat.le_refl _) _) ?_
      refine hK.out _ _ (fun _ => hS) ?_
      clear hK K
      try simp only [Act.put, gA, gS, gZ, sI, sZ, sS]
      refine wpAnyG_one (i := 12) rfl (by kernel_rfl) (by kernel_rfl) (fun K hK => ?_)
      refine wp_load_mid 101 _ rfl gj 0 rfl _ _ hrg Tryz.underlying101 rfl (by rw [List.length_map, hNLl]; exact sizeNonceD) ?_
      refine hK.out _ _ (fun _ => hS) ?_
      clear hK K
      try simp only [Act.put, gA, gS, gZ, sI, sZ, sS]
      refine wpAnyG_one (i := 13) rfl (by kernel_rfl) (by kernel_rfl) (fun K hK => ?_)
      refine wp_stG 101 _ _ rfl _ rfl (k := .u8) (l := NL) rfl hRJ (by rw [hNLl]; exact sizeNonceD) (by rw [hZl, hNLl]) ?_
      refine hK.out _ _ (fun h => absurd (show true = false from h) (by decide)) ?_
      clear hK K
      try simp only [Act.put, gA, gS, gZ, sI, sZ, sS]
      refine wpAnyG_done (by kernel_rfl) ?_ _
      go_wp2_with fail
      refine bodyPost_ret (results_holds (Tryz.results86) _ rfl (hRJ.setRow _) Tryz.underlying101 sizeNonceD hNLl) rfl ⟨by rw [← hNL], ?_⟩
      exact below_setRow hBJ (by omega) _
  · skip
    refine wpx_make _ _ _ rfl _ _ _ _ rfl rfl (run_make4 _) ?_
    have hNV15 := newB V0 [0, 0, 0, 0] 4 rfl (by simp [bE4])
    have hBV15 := hBV0.alloc hBV0.size (.cells (row .u8 [0, 0, 0, 0]) 5)
    have hRV15 := hRV0.alloc (.cells (row .u8 [0, 0, 0, 0]) 5)
    have hDV15 := hDV0.alloc (.cells (row .u8 [0, 0, 0, 0]) 5)
    replace hS := HS _ hDV15
    refine hK.out _ _ (fun _ => hS) ?_
    clear hK K
    try simp only [Act.put, gA, gS, gZ, sI, sZ, sS]
    obtain ⟨V15, hV15⟩ : ∃ q, V0.alloc (.cells (row .u8 [0, 0, 0, 0]) 5) = q := ⟨_, rfl⟩
    obtain ⟨g15, hg15⟩ : ∃ q, V0.heap.size = q := ⟨_, rfl⟩
    rw [hV15] at hNV15 hBV15 hRV15 hDV15 ⊢
    rw [hg15] at hNV15 ⊢
    clear hV15 hg15 hBV0 hRV0 hDV0
    have hN8_V15 := hNV15
    clear hNV15
    refine wpAnyG_two (i := 4) (j := 7) rfl rfl (by kernel_rfl) (by kernel_rfl) (by kernel_rfl) (fun K hK => ?_) (fun K hK => ?_)
    · skip
      refine wp_buildSlice 41 5 4 _ rfl (row .u8 [f, t, a, 0]) iu _ Tryz.underlying41 hiu huz (by rw [hus]; decide) (by rw [hus]; decide) (by rw [hus]; kernel_rfl) ?_
      have hNV16 := newB V15 [f, t, a, 0] 4 rfl (by simp [bE4])
      have hBV16 := hBV15.alloc hBV15.size (.cells (row .u8 [f, t, a, 0]) 5)
      have hRV16 := hRV15.alloc (.cells (row .u8 [f, t, a, 0]) 5)
      have hN8_V16 := hN8_V15.below ((Below.refl _ _).alloc (Nat.le_refl _) (.cells (row .u8 [f, t, a, 0]) 5))
      have hDV16 := hDV15.alloc (.cells (row .u8 [f, t, a, 0]) 5)
      replace hS := HS _ hDV16
      refine hK.out _ _ (fun _ => hS) ?_
      clear hK K
      try simp only [Act.put, gA, gS, gZ, sI, sZ, sS]
      obtain ⟨V16, hV16⟩ : ∃ q, V15.alloc (.cells (row .u8 [f, t, a, 0]) 5) = q := ⟨_, rfl⟩
      obtain ⟨g16, hg16⟩ : ∃ q, V15.heap.size = q := ⟨_, rfl⟩
      rw [hV16] at hNV16 hBV16 hRV16 hN8_V16 hDV16 ⊢
      rw [hg16] at hNV16 ⊢
      clear hV16 hg16 hBV15 hRV15 hDV15 hN8_V15
      have hN4_V16 := hNV16
      clear hNV16
      refine wpAnyG_one (i := 7) rfl (by kernel_rfl) (by kernel_rfl) (fun K hK => ?_)
      refine wpx_call _ _ (by kernel_rfl) ((kfour_any s _).mono ?_)
      rintro e wy ⟨rfl, rfl⟩
      refine ⟨_, rfl, ?_⟩
      have hNV17 := newB V16 (bE4 s) 4 rfl (by simp [bE4])
      have hBV17 := hBV16.alloc hBV16.size (.cells (row .u8 (bE4 s)) 5)
      have hRV17 := hRV16.alloc (.cells (row .u8 (bE4 s)) 5)
      have hN8_V17 := hN8_V16.below ((Below.refl _ _).alloc (Nat.le_refl _) (.cells (row .u8 (bE4 s)) 5))
      have hN4_V17 := hN4_V16.below ((Below.refl _ _).alloc (Nat.le_refl _) (.cells (row .u8 (bE4 s)) 5))
      have hDV17 := hDV16.alloc (.cells (row .u8 (bE4 s)) 5)
      replace hS := HS _ hDV17
      refine hK.out _ _ (fun _ => hS) ?_
      clear hK K
      try simp only [Act.put, gA, gS, gZ, sI, sZ, sS]
      obtain ⟨V17, hV17⟩ : ∃ q, V16.alloc (.cells (row .u8 (bE4 s)) 5) = q := ⟨_, rfl⟩
      obtain ⟨g17, hg17⟩ : ∃ q, V16.heap.size = q := ⟨_, rfl⟩
      rw [hV17] at hNV17 hBV17 hRV17 hN8_V17 hN4_V17 hDV17 ⊢
      rw [hg17] at hNV17 ⊢
      clear hV17 hg17 hBV16 hRV16 hDV16 hN8_V16 hN4_V16
      have hN7_V17 := hNV17
      clear hNV17
      refine wpAnyG_one (i := 9) rfl (by kernel_rfl) (by kernel_rfl) (fun K hK => ?_)
      refine wp_buildSlice 187 41 3 _ rfl #[.slice (some ⟨g16, 0, none⟩) 4 4, .slice (some ⟨g17, 0, none⟩) 4 4, .slice (some ⟨g15, 0, none⟩) 4 4] iw _ Tryz.underlying187 hiw hwz (by rw [hws2]; decide) (by rw [hws2]; decide) (by rw [hws2]; kernel_rfl) ?_
      have hP := partsNew V17 [⟨some ⟨g16, 0, none⟩, 4, 4, [f, t, a, 0]⟩, ⟨some ⟨g17, 0, none⟩, 4, 4, (bE4 s)⟩, ⟨some ⟨g15, 0, none⟩, 4, 4, [0, 0, 0, 0]⟩] (fun p hp => by
        simp only [List.mem_cons, List.not_mem_nil, or_false] at hp
        rcases hp with rfl | rfl | rfl
        · exact hN4_V17
        · exact hN7_V17
        · exact hN8_V17)
      have hBP := hBV17.alloc hBV17.size (.cells #[.slice (some ⟨g16, 0, none⟩) 4 4, .slice (some ⟨g17, 0, none⟩) 4 4, .slice (some ⟨g15, 0, none⟩) 4 4] 41)
      have hRP := hRV17.alloc (.cells #[.slice (some ⟨g16, 0, none⟩) 4 4, .slice (some ⟨g17, 0, none⟩) 4 4, .slice (some ⟨g15, 0, none⟩) 4 4] 41)
      have hDP := hDV17.alloc (.cells #[.slice (some ⟨g16, 0, none⟩) 4 4, .slice (some ⟨g17, 0, none⟩) 4 4, .slice (some ⟨g15, 0, none⟩) 4 4] 41)
      replace hS := HS _ hDP
      refine hK.out _ _ (fun _ => hS) ?_
      clear hK K
      try simp only [Act.put, gA, gS, gZ, sI, sZ, sS]
      refine wpAnyG_one (i := 10) rfl (by kernel_rfl) (by kernel_rfl) (fun K hK => ?_)
      have hj := kjoined_any V17.heap.size 3 [⟨some ⟨g16, 0, none⟩, 4, 4, [f, t, a, 0]⟩, ⟨some ⟨g17, 0, none⟩, 4, 4, (bE4 s)⟩, ⟨some ⟨g15, 0, none⟩, 4, 4, [0, 0, 0, 0]⟩] _ hP rfl (by omega) (by simp [sumN, allZ, bE4])
      rw [show allZ [⟨some ⟨g16, 0, none⟩, 4, 4, [f, t, a, 0]⟩, ⟨some ⟨g17, 0, none⟩, 4, 4, (bE4 s)⟩, ⟨some ⟨g15, 0, none⟩, 4, 4, [0, 0, 0, 0]⟩] = wrapNL f t a s from rfl, hNL] at hj
      refine wpx_call _ _ (by kernel_rfl) (hj.mono ?_)
      rintro e WJ ⟨vj, rfl, hoj, hbj⟩
      refine ⟨_, rfl, ?_⟩
      have hBJ := hBP.trans (hbj.mono hBP.size)
      have hRJ := hRP.below hbj hRP.lt
      obtain ⟨gj, cj, rfl, hgj⟩ := hoj.slice (by rw [hNLl]; omega)
      have hrg := hoj.bytes.2.rangeK
      have hDJ := hDP.congr (hbj.block _ hDP.lt)
      replace hS := HS _ hDJ
      refine hK.out _ _ (fun _ => hS) ?_
      clear hK K
      try simp only [Act.put, gA, gS, gZ, sI, sZ, sS]
      refine wpAnyG_one (i := 11) rfl (by kernel_rfl) (by kernel_rfl) (fun K hK => ?_)
      refine wpx_arr _ _ rfl _ _ _ rfl (run_arrayAk Tryz.underlying101 _ _ _ (by rw [hNLl]; exact Nat.le_refl _) _) ?_
      refine hK.out _ _ (fun _ => hS) ?_
      clear hK K
      try simp only [Act.put, gA, gS, gZ, sI, sZ, sS]
      refine wpAnyG_one (i := 12) rfl (by kernel_rfl) (by kernel_rfl) (fun K hK => ?_)
      refine wp_load_mid 101 _ rfl gj 0 rfl _ _ hrg Tryz.underlying101 rfl (by rw [List.length_map, hNLl]; exact sizeNonceD) ?_
      refine hK.out _ _ (fun _ => hS) ?_
      clear hK K
      try simp only [Act.put, gA, gS, gZ, sI, sZ, sS]
      refine wpAnyG_one (i := 13) rfl (by kernel_rfl) (by kernel_rfl) (fun K hK => ?_)
      refine wp_stG 101 _ _ rfl _ rfl (k := .u8) (l := NL) rfl hRJ (by rw [hNLl]; exact sizeNonceD) (by rw [hZl, hNLl]) ?_
      refine hK.out _ _ (fun h => absurd (show true = false from h) (by decide)) ?_
      clear hK K
      try simp only [Act.put, gA, gS, gZ, sI, sZ, sS]
      refine wpAnyG_done (by kernel_rfl) ?_ _
      go_wp2_with fail
      refine bodyPost_ret (results_holds (Tryz.results86) _ rfl (hRJ.setRow _) Tryz.underlying101 sizeNonceD hNLl) rfl ⟨by rw [← hNL], ?_⟩
      exact below_setRow hBJ (by omega) _
    · skip
      refine wpx_call _ _ (by kernel_rfl) ((kfour_any s _).mono ?_)
      rintro e wy ⟨rfl, rfl⟩
      refine ⟨_, rfl, ?_⟩
      have hNV18 := newB V15 (bE4 s) 4 rfl (by simp [bE4])
      have hBV18 := hBV15.alloc hBV15.size (.cells (row .u8 (bE4 s)) 5)
      have hRV18 := hRV15.alloc (.cells (row .u8 (bE4 s)) 5)
      have hN8_V18 := hN8_V15.below ((Below.refl _ _).alloc (Nat.le_refl _) (.cells (row .u8 (bE4 s)) 5))
      have hDV18 := hDV15.alloc (.cells (row .u8 (bE4 s)) 5)
      replace hS := HS _ hDV18
      refine hK.out _ _ (fun _ => hS) ?_
      clear hK K
      try simp only [Act.put, gA, gS, gZ, sI, sZ, sS]
      obtain ⟨V18, hV18⟩ : ∃ q, V15.alloc (.cells (row .u8 (bE4 s)) 5) = q := ⟨_, rfl⟩
      obtain ⟨g18, hg18⟩ : ∃ q, V15.heap.size = q := ⟨_, rfl⟩
      rw [hV18] at hNV18 hBV18 hRV18 hN8_V18 hDV18 ⊢
      rw [hg18] at hNV18 ⊢
      clear hV18 hg18 hBV15 hRV15 hDV15 hN8_V15
      have hN7_V18 := hNV18
      clear hNV18
      refine wpAnyG_one (i := 4) rfl (by kernel_rfl) (by kernel_rfl) (fun K hK => ?_)
      refine wp_buildSlice 41 5 4 _ rfl (row .u8 [f, t, a, 0]) iu _ Tryz.underlying41 hiu huz (by rw [hus]; decide) (by rw [hus]; decide) (by rw [hus]; kernel_rfl) ?_
      have hNV19 := newB V18 [f, t, a, 0] 4 rfl (by simp [bE4])
      have hBV19 := hBV18.alloc hBV18.size (.cells (row .u8 [f, t, a, 0]) 5)
      have hRV19 := hRV18.alloc (.cells (row .u8 [f, t, a, 0]) 5)
      have hN8_V19 := hN8_V18.below ((Below.refl _ _).alloc (Nat.le_refl _) (.cells (row .u8 [f, t, a, 0]) 5))
      have hN7_V19 := hN7_V18.below ((Below.refl _ _).alloc (Nat.le_refl _) (.cells (row .u8 [f, t, a, 0]) 5))
      have hDV19 := hDV18.alloc (.cells (row .u8 [f, t, a, 0]) 5)
      replace hS := HS _ hDV19
      refine hK.out _ _ (fun _ => hS) ?_
      clear hK K
      try simp only [Act.put, gA, gS, gZ, sI, sZ, sS]
      obtain ⟨V19, hV19⟩ : ∃ q, V18.alloc (.cells (row .u8 [f, t, a, 0]) 5) = q := ⟨_, rfl⟩
      obtain ⟨g19, hg19⟩ : ∃ q, V18.heap.size = q := ⟨_, rfl⟩
      rw [hV19] at hNV19 hBV19 hRV19 hN8_V19 hN7_V19 hDV19 ⊢
      rw [hg19] at hNV19 ⊢
      clear hV19 hg19 hBV18 hRV18 hDV18 hN8_V18 hN7_V18
      have hN4_V19 := hNV19
      clear hNV19
      refine wpAnyG_one (i := 9) rfl (by kernel_rfl) (by kernel_rfl) (fun K hK => ?_)
      refine wp_buildSlice 187 41 3 _ rfl #[.slice (some ⟨g19, 0, none⟩) 4 4, .slice (some ⟨g18, 0, none⟩) 4 4, .slice (some ⟨g15, 0, none⟩) 4 4] iw _ Tryz.underlying187 hiw hwz (by rw [hws2]; decide) (by rw [hws2]; decide) (by rw [hws2]; kernel_rfl) ?_
      have hP := partsNew V19 [⟨some ⟨g19, 0, none⟩, 4, 4, [f, t, a, 0]⟩, ⟨some ⟨g18, 0, none⟩, 4, 4, (bE4 s)⟩, ⟨some ⟨g15, 0, none⟩, 4, 4, [0, 0, 0, 0]⟩] (fun p hp => by
        simp only [List.mem_cons, List.not_mem_nil, or_false] at hp
        rcases hp with rfl | rfl | rfl
        · exact hN4_V19
        · exact hN7_V19
        · exact hN8_V19)
      have hBP := hBV19.alloc hBV19.size (.cells #[.slice (some ⟨g19, 0, none⟩) 4 4, .slice (some ⟨g18, 0, none⟩) 4 4, .slice (some ⟨g15, 0, none⟩) 4 4] 41)
      have hRP := hRV19.alloc (.cells #[.slice (some ⟨g19, 0, none⟩) 4 4, .slice (some ⟨g18, 0, none⟩) 4 4, .slice (some ⟨g15, 0, none⟩) 4 4] 41)
      have hDP := hDV19.alloc (.cells #[.slice (some ⟨g19, 0, none⟩) 4 4, .slice (some ⟨g18, 0, none⟩) 4 4, .slice (some ⟨g15, 0, none⟩) 4 4] 41)
      replace hS := HS _ hDP
      refine hK.out _ _ (fun _ => hS) ?_
      clear hK K
      try simp only [Act.put, gA, gS, gZ, sI, sZ, sS]
      refine wpAnyG_one (i := 10) rfl (by kernel_rfl) (by kernel_rfl) (fun K hK => ?_)
      have hj := kjoined_any V19.heap.size 3 [⟨some ⟨g19, 0, none⟩, 4, 4, [f, t, a, 0]⟩, ⟨some ⟨g18, 0, none⟩, 4, 4, (bE4 s)⟩, ⟨some ⟨g15, 0, none⟩, 4, 4, [0, 0, 0, 0]⟩] _ hP rfl (by omega) (by simp [sumN, allZ, bE4])
      rw [show allZ [⟨some ⟨g19, 0, none⟩, 4, 4, [f, t, a, 0]⟩, ⟨some ⟨g18, 0, none⟩, 4, 4, (bE4 s)⟩, ⟨some ⟨g15, 0, none⟩, 4, 4, [0, 0, 0, 0]⟩] = wrapNL f t a s from rfl, hNL] at hj
      refine wpx_call _ _ (by kernel_rfl) (hj.mono ?_)
      rintro e WJ ⟨vj, rfl, hoj, hbj⟩
      refine ⟨_, rfl, ?_⟩
      have hBJ := hBP.trans (hbj.mono hBP.size)
      have hRJ := hRP.below hbj hRP.lt
      obtain ⟨gj, cj, rfl, hgj⟩ := hoj.slice (by rw [hNLl]; omega)
      have hrg := hoj.bytes.2.rangeK
      have hDJ := hDP.congr (hbj.block _ hDP.lt)
      replace hS := HS _ hDJ
      refine hK.out _ _ (fun _ => hS) ?_
      clear hK K
      try simp only [Act.put, gA, gS, gZ, sI, sZ, sS]
      refine wpAnyG_one (i := 11) rfl (by kernel_rfl) (by kernel_rfl) (fun K hK => ?_)
      refine wpx_arr _ _ rfl _ _ _ rfl (run_arrayAk Tryz.underlying101 _ _ _ (by rw [hNLl]; exact Nat.le_refl _) _) ?_
      refine hK.out _ _ (fun _ => hS) ?_
      clear hK K
      try simp only [Act.put, gA, gS, gZ, sI, sZ, sS]
      refine wpAnyG_one (i := 12) rfl (by kernel_rfl) (by kernel_rfl) (fun K hK => ?_)
      refine wp_load_mid 101 _ rfl gj 0 rfl _ _ hrg Tryz.underlying101 rfl (by rw [List.length_map, hNLl]; exact sizeNonceD) ?_
      refine hK.out _ _ (fun _ => hS) ?_
      clear hK K
      try simp only [Act.put, gA, gS, gZ, sI, sZ, sS]
      refine wpAnyG_one (i := 13) rfl (by kernel_rfl) (by kernel_rfl) (fun K hK => ?_)
      refine wp_stG 101 _ _ rfl _ rfl (k := .u8) (l := NL) rfl hRJ (by rw [hNLl]; exact sizeNonceD) (by rw [hZl, hNLl]) ?_
      refine hK.out _ _ (fun h => absurd (show true = false from h) (by decide)) ?_
      clear hK K
      try simp only [Act.put, gA, gS, gZ, sI, sZ, sS]
      refine wpAnyG_done (by kernel_rfl) ?_ _
      go_wp2_with fail
      refine bodyPost_ret (results_holds (Tryz.results86) _ rfl (hRJ.setRow _) Tryz.underlying101 sizeNonceD hNLl) rfl ⟨by rw [← hNL], ?_⟩
      exact below_setRow hBJ (by omega) _
end Go.Proofs.YtfainlfiphdaeaaGreatDoor
namespace Go.Proofs.YtfainlfiphdaeaaGreatDoor
open Go.RowKit
set_option maxRecDepth 20000
set_option linter.unusedSimpArgs false
section
variable (base H : Nat) (own : Int) (seed : List Int) (b : Nat) (M : Int → Int → Option (List Int)) (v : Value) (L : List (Int × Int)) (w : World)
def refuseE (own o : Int) : Int := if 8 ≤ o then 2 else if o = own then 12 else 0
set_option maxHeartbeats 1000000 in
theorem refuse_any (o : Int) (hR : RingAt w base H own seed b M v L) :
    Calls Tryz.prog 84 #[.pointer (some ⟨H, 0, none⟩), .int .u8 o] w fun e w' => e = .returned (.int .i64 (refuseE own o)) ∧ w' = w := by
  have c0 := hR.box.cell 0
  rw [ringC_own] at c0
  by_cases h8 : 8 ≤ o
  · have HE : Veil (refuseE own o = 2) := ⟨if_pos h8⟩
    go_enter Tryz.func84, Tryz.ntmps84
    go_wp2
    go_ret
    exact ⟨by rw [HE.out]; rfl, rfl⟩
  · by_cases ho : o = own
    · have HE : Veil (refuseE own o = 12) := ⟨by unfold refuseE; rw [if_neg h8, if_pos ho]⟩
      subst ho
      go_enter Tryz.func84, Tryz.ntmps84
      go_wp2
      go_ret
      exact ⟨by rw [HE.out]; rfl, rfl⟩
    · have HE : Veil (refuseE own o = 0) := ⟨by unfold refuseE; rw [if_neg h8, if_neg ho]⟩
      have hbe : (o == own) = false := by simpa using ho
      go_enter Tryz.func84, Tryz.ntmps84
      go_wp2
      go_ret
      exact ⟨by rw [HE.out]; rfl, rfl⟩
end
end Go.Proofs.YtfainlfiphdaeaaGreatDoor
namespace Go.Proofs.YtfainlfiphdaeaaGreatDoor
open Go.RowKit
set_option maxRecDepth 20000
set_option linter.unusedSimpArgs false
def minB (a b : Int) : Int := if b < a then b else a
def maxB (a b : Int) : Int := if a < b then b else a
def wPair : List Int := [112, 97, 105, 114]
def pairL (seed : List Int) (a b : Int) : List Int := derL seed (wPair ++ [minB a b, maxB a b])
section
variable (base H : Nat) (own : Int) (seed : List Int) (b : Nat) (M : Int → Int → Option (List Int)) (v : Value) (L : List (Int × Int)) (w : World)
set_option maxHeartbeats 4000000 in
theorem rPair_any (p q : Int) (hR : RingAt w base H own seed b M v L) (hKT : S.KTab w) :
    Calls Tryz.prog 85 #[.pointer (some ⟨H, 0, none⟩), .int .u8 p, .int .u8 q] w fun e w' => e = .returned (.agg (row .u8 (pairL seed p q))) ∧ Below w.heap.size w w' := by
  have hs32 := hR.seed32
  obtain ⟨Z, hZl, hZ⟩ : ∃ Z : List Int, Z.length = 32 ∧ Z = List.replicate 32 0 := ⟨_, rfl, rfl⟩
  have hB : Below w.heap.size w (w.alloc (.cells (row .u8 Z) 23)) := (Below.refl _ _).alloc (Nat.le_refl _) _
  have hr0 := Holds.new w .u8 23 Z
  have hPl : (pairL seed p q).length = 32 := derL_length _ _
  have HD : Veil (∀ W : World, S.KTab W → Calls Tryz.prog 81 #[.agg (row .u8 seed), .string ⟨#[112, 97, 105, 114]⟩, .slice (some ⟨W.heap.size, 0, none⟩) 2 2] (W.alloc (.cells (row .u8 [minB p q, maxB p q]) 5)) fun e w' => e = .returned (.agg (row .u8 (pairL seed p q))) ∧ Below (W.alloc (.cells (row .u8 [minB p q, maxB p q]) 5)).heap.size (W.alloc (.cells (row .u8 [minB p q, maxB p q]) 5)) w') := ⟨fun W hk => derived_any seed ⟨#[112, 97, 105, 114]⟩ _ 2 2 [minB p q, maxB p q] _ hs32 (by decide) (newB W [minB p q, maxB p q] 2 rfl (by simp)) (by omega) (hk.below ((Below.refl _ _).alloc (Nat.le_refl _) _))⟩
  obtain ⟨PL, hPL⟩ : ∃ z, pairL seed p q = z := ⟨_, rfl⟩
  rw [hPL] at HD hPl
  have HPL := Veil.mk hPL
  obtain ⟨mn, hmn⟩ : ∃ z, minB p q = z := ⟨_, rfl⟩
  obtain ⟨mx, hmx⟩ : ∃ z, maxB p q = z := ⟨_, rfl⟩
  rw [hmn, hmx] at HD
  have hmn' : (if q < p then q else p) = mn := hmn
  have hmx' : (if p < q then q else p) = mx := hmx
  clear hPL hmn hmx
  go_enter Tryz.func85, Tryz.ntmps85
  go_upto_region 3 with fail
  refine forget (p := fun y => Code.wp _ _ _ _ y) (fun W => Below w.heap.size w W ∧ RingAt W base H own seed b M v L ∧ Holds W w.heap.size .u8 23 Z) ⟨by rw [hZ] at hB; exact hB, by rw [hZ] at hB; exact hR.far hB, by rw [hZ] at hr0 ⊢; exact hr0⟩ ?_
  clear hB hr0 hZ
  rintro W ⟨hB, hR0, hr0⟩
  have rS := hR0.box.range 1 32
  rw [ringC_seed _ _ _ _ hs32] at rS
  have iK : (Tryz.prog.info? 23).map (·.size) = some (seed.map (Value.int .u8)).length := by rw [List.length_map, hs32]; exact sizeKeyD
  have hd := HD.out W (hKT.below hB)
  have hB2 := hB.alloc hB.size (.cells (row .u8 [mn, mx]) 5)
  have hr2 := hr0.alloc (.cells (row .u8 [mn, mx]) 5)
  clear hR0
  go_wp2_with (first
    | (refine wpList_ldv rfl 23 _ rfl _ _ rfl (seed.map (Value.int .u8)) rS Tryz.underlying23 rfl iK ?_)
    | (go_at_call 81; refine hd.mono ?_; rintro e w1 ⟨rfl, hb1⟩; have hr3 := hr2.below hb1 hr2.lt)
    | (refine wpList_st rfl 23 _ _ rfl _ rfl rfl hr3 (by rw [hPl]; exact sizeKeyD) (by rw [hZl, hPl]) ?_))
  refine bodyPost_ret (results_holds (Tryz.results85) _ rfl (hr3.setRow _) Tryz.underlying23 sizeKeyD hPl) rfl ⟨?_, ?_⟩
  · rw [HPL.out]
  · exact below_setRow (hB2.trans (hb1.mono hB2.size)) (Nat.le_refl _) _
end
end Go.Proofs.YtfainlfiphdaeaaGreatDoor
namespace Go.Proofs.YtfainlfiphdaeaaGreatDoor
open Go.RowKit
set_option maxRecDepth 20000
set_option linter.unusedSimpArgs false
def wz : Wp := ⟨0, 0, 0, List.replicate 48 0⟩
theorem wz_built (w : World) : (Instr.build 73 #[]).run Tryz.prog w = .ok (.agg wz.cells.toArray) w := by kernel_rfl
theorem wz_info : (Tryz.prog.info? 73).map (·.zero) = some (some (.agg wz.cells.toArray)) := by kernel_rfl
theorem sizeWrapK : (Tryz.prog.info? 73).map (·.size) = some 51 := by kernel_rfl
theorem wp_cells_length (e : Wp) (h : e.data.length = 48) : e.cells.length = 51 := by simp [Wp.cells, dotC, h]
theorem wp_cells_one (e : Wp) : ∀ u ∈ e.cells, u.oneCell' = true := by
  intro u hu
  unfold Wp.cells dotC at hu
  simp only [List.mem_append, List.mem_cons, List.not_mem_nil, or_false, List.mem_map] at hu
  rcases hu with (rfl | rfl | rfl) | ⟨_, _, rfl⟩ <;> rfl
theorem wrap_to (t a s : Int) (w : World) : (Instr.build 73 #[(0, .int .u8 t), (1, .agg (dotC a s).toArray)]).run Tryz.prog w = .ok (.agg (⟨t, a, s, List.replicate 48 0⟩ : Wp).cells.toArray) w := by
  refine run_build w _ _ _ ?_
  rw [built_of wz_info Tryz.underlying73 (by kernel_rfl) (places := [(0, 1), (1, 2), (3, 48)])]
  rw [fill_cons _ _ [.int .u8 t] 0 0 1 _ _ rfl rfl rfl (by decide), show wz.cells.take 0 ++ [.int .u8 t] ++ wz.cells.drop (0 + 1) = (⟨t, 0, 0, List.replicate 48 0⟩ : Wp).cells from rfl]
  rw [fill_cons _ _ (dotC a s) 1 1 2 _ _ rfl rfl rfl (Nat.le_of_ble_eq_true rfl), Instr.fill]
  rfl
def wrapOf (seed : List Int) (own t a s : Int) (k : List Int) : Wp := ⟨t, a, s, sealL (pairL seed own t) (wrapNL own t a s) [] k⟩
section
variable (base H : Nat) (own : Int) (seed : List Int) (b : Nat) (M : Int → Int → Option (List Int)) (v : Value) (L : List (Int × Int)) (w : World)
end
end Go.Proofs.YtfainlfiphdaeaaGreatDoor
namespace Go.Proofs.YtfainlfiphdaeaaGreatDoor
open Go.RowKit
set_option maxRecDepth 20000
set_option linter.unusedSimpArgs false
section
variable (base H : Nat) (own : Int) (seed : List Int) (b : Nat) (M : Int → Int → Option (List Int)) (v : Value) (L : List (Int × Int)) (w : World)
set_option maxHeartbeats 4000000 in
theorem wrap_ok (t a s : Int) (k : List Int) (ho : okD a s) (hR : RingAt w base H own seed b M v L) (hE : refuseE own t = 0) (hm : M a s = some k) (hKT : S.KTab w) :
    Calls Tryz.prog 33 #[.pointer (some ⟨H, 0, none⟩), .int .u8 t, .agg (dotC a s).toArray] w fun e w' => e = .returned (.tuple #[.agg (wrapOf seed own t a s k).cells.toArray, .int .i64 0]) ∧ Below w.heap.size w w' := by
  obtain ⟨Z, hZl, hZ1, hZ, hZb⟩ : ∃ Z : List Value, Z.length = 51 ∧ (∀ u ∈ Z, u.oneCell' = true) ∧ Z = wz.cells ∧ ∀ wx, (Instr.build 73 #[]).run Tryz.prog wx = .ok (.agg Z.toArray) wx := ⟨_, rfl, wp_cells_one wz, rfl, wz_built⟩
  have hB : Below w.heap.size w ((w.alloc (.cells (dotC a s).toArray 26)).alloc (.cells Z.toArray 73)) := ((Below.refl _ _).alloc (Nat.le_refl _) _).alloc (by simp) _
  have hr0 := CellsAt.new (w.alloc (.cells (dotC a s).toArray 26)) 73 Z
  rw [World.size_alloc] at hr0
  have hd0 := (CellsAt.new w 26 (dotC a s)).alloc (.cells Z.toArray 73)
  have HZ := Veil.mk hZ
  have HZb := Veil.mk hZb
  have hKl := keyAt_length base H own seed b M v L w hR a s
  have HK : Veil (∀ W, Below w.heap.size w W → Calls Tryz.prog 28 #[.pointer (some ⟨H, 0, none⟩), .agg (dotC a s).toArray] W fun e w' => e = .returned (.tuple #[.agg (row .u8 (keyAt M a s)), .bool true]) ∧ Below W.heap.size W w') := ⟨fun W hb => by
    have := rKey_any base H own seed b M v L W a s ho (hR.far hb)
    rw [hm] at this
    exact this⟩
  obtain ⟨KA, hKA⟩ : ∃ q, keyAt M a s = q := ⟨_, rfl⟩
  have HKA : Veil (KA = k) := ⟨by rw [← hKA]; unfold keyAt; rw [hm]; rfl⟩
  rw [hKA] at HK hKl
  clear hKA
  go_enter Tryz.func33, Tryz.ntmps33
  go_upto_region 1 with fail
  refine forget (p := fun y => Code.wp _ _ _ _ y) (fun W => Below w.heap.size w W ∧ CellsAt W (w.heap.size + 1) 73 Z ∧ CellsAt W w.heap.size 26 (dotC a s)) ⟨by rw [hZ] at hB; exact hB, by rw [hZ] at hr0 ⊢; exact hr0, by rw [hZ] at hd0; exact hd0⟩ ?_
  clear hB hr0 hZ hZb hd0
  rintro W ⟨hB, hr0, hd0⟩
  have hf := refuse_any base H own seed b M v L W t (hR.far hB)
  rw [hE] at hf
  have hk := HK.out W hB
  have rD := hd0.range 0 2
  rw [show ((dotC a s).drop 0).take 2 = dotC a s from rfl] at rD
  have hR0 := hR.far hB
  have HIN : Veil (∀ g, ringP H b v g → g < w.heap.size) := ⟨fun g hg => (hR.inside g hg).1⟩
  clear hE hR HK
  have hm0 := hm
  clear hm hm0
  go_upto_region 7 with (first
    | (go_at_call 84; refine hf.mono ?_; rintro e w1 ⟨rfl, rfl⟩)
    | (refine wpList_ldv rfl 26 _ rfl _ _ rfl (dotC a s) rD Tryz.underlying26 rfl sizeDotK ?_)
    | (go_at_call 28; refine hk.mono ?_; rintro e w2 ⟨rfl, hb2⟩; have hA1 := Holds.new w2 .u8 23 (List.replicate 32 0); have hr1 := (hr0.congr (hb2.block _ hr0.lt)).alloc (.cells (row .u8 (List.replicate 32 0)) 23); have hd1 := (hd0.congr (hb2.block _ hd0.lt)).alloc (.cells (row .u8 (List.replicate 32 0)) 23))
    | (refine wpList_st rfl 23 _ _ rfl _ rfl rfl hA1 (by rw [hKl]; exact sizeKeyD) (by rw [hKl]; rfl) ?_))
  have hB2 := hB.trans (hb2.mono hB.size)
  have hlt := hr0.lt
  have hsz := hb2.size
  have hne : w.heap.size + 1 ≠ w2.heap.size := by omega
  have hR2 := hR0.far (hb2.trans ((below_setRow ((Below.refl _ _).alloc (Nat.le_refl _) (.cells (row .u8 (List.replicate 32 0)) 23)) (Nat.le_refl _) (row .u8 KA)).mono hsz))
  refine forget (p := fun y => Code.wp _ _ _ _ y) (fun V => Below w.heap.size w V ∧ RingAt V base H own seed b M v L ∧ CellsAt V (w.heap.size + 1) 73 Z ∧ CellsAt V w.heap.size 26 (dotC a s) ∧ Holds V w2.heap.size .u8 23 KA) ⟨below_setRow (hB2.alloc hB2.size _) hB2.size _, hR2, hr1.congr (setRow_other _ _ _ _ hne), hd1.congr (setRow_other _ _ _ _ (by omega)), hA1.setRow _⟩ ?_
  clear hA1 hr1 hr0 hd0 hf hk rD hB hb2 hB2 hR2 hd1 hR0
  obtain ⟨G, hG⟩ : ∃ q, w2.heap.size = q := ⟨_, rfl⟩
  rw [hG] at hne hsz ⊢
  clear hG
  have hG2 : w.heap.size + 1 < G := by omega
  clear hlt hsz hne
  rintro V ⟨hB, hR0, hr0, hd0, hk0⟩
  have rD := hd0.range 0 2
  rw [show ((dotC a s).drop 0).take 2 = dotC a s from rfl] at rD
  have HWT : Veil (∀ wx, (Instr.build 73 #[(0, .int .u8 t), (1, .agg (dotC a s).toArray)]).run Tryz.prog wx = .ok (.agg (⟨t, a, s, List.replicate 48 0⟩ : Wp).cells.toArray) wx) := ⟨wrap_to t a s⟩
  have hw1 := CellsAt.new V 73 wz.cells
  obtain ⟨WC, hWC⟩ : ∃ q, (⟨t, a, s, List.replicate 48 0⟩ : Wp).cells = q := ⟨_, rfl⟩
  have hWCl : WC.length = 51 := by rw [← hWC]; rfl
  have hWC1 : ∀ u ∈ WC, u.oneCell' = true := by rw [← hWC]; exact wp_cells_one _
  have HWC := Veil.mk hWC
  rw [hWC] at HWT
  clear hWC
  go_upto_region 8 with (first
    | (refine wpList_ldv rfl 26 _ rfl _ _ rfl (dotC a s) rD Tryz.underlying26 rfl sizeDotK ?_)
    | (refine wpList_bldx rfl 73 _ rfl #[(0, .int .u8 t), (1, .agg (dotC a s).toArray)] (by first | rfl | kernel_rfl) _ (HWT.out _) ?_)
    | (refine wpList_stv rfl 73 _ _ rfl _ rfl rfl hw1 (by rw [hWCl]; exact sizeWrapK) (by rw [hWCl]; rfl) hWC1 ?_))
  have hb3 : Below V.heap.size V ((V.alloc (.cells wz.cells.toArray 73)).setRow V.heap.size WC.toArray) := below_setRow ((Below.refl _ _).alloc (Nat.le_refl _) _) (Nat.le_refl _) _
  have hkl := hk0.lt
  refine forget (p := fun y => Code.wp _ _ _ _ y) (fun V' => Below w.heap.size w V' ∧ RingAt V' base H own seed b M v L ∧ CellsAt V' (w.heap.size + 1) 73 Z ∧ CellsAt V' w.heap.size 26 (dotC a s) ∧ Holds V' G .u8 23 KA ∧ CellsAt V' V.heap.size 73 WC) ⟨hB.trans (hb3.mono hB.size), hR0.far hb3, hr0.congr (hb3.block _ hr0.lt), hd0.congr (hb3.block _ hd0.lt), hk0.below hb3 hk0.lt, hw1.setRow _⟩ ?_
  clear hb3 hw1 HWT rD hB hR0 hr0 hd0 hk0
  obtain ⟨GW, hGW⟩ : ∃ q, V.heap.size = q := ⟨_, rfl⟩
  rw [hGW] at hkl ⊢
  clear hGW
  clear V
  rintro V ⟨hB, hR0, hr0, hd0, hk0, hw0⟩
  have hH : H ≠ GW ∧ (∀ g, ringP H b v g → g < w.heap.size) := ⟨fun e => by have := (HIN.out H (.inl rfl)); omega, HIN.out⟩
  have uD : Tryz.prog.underlying 26 = _ := Tryz.underlying26
  have iD : (Tryz.prog.info? 26).map (·.size) = some (dotC a s).length := sizeDotK
  have HT : ∀ W' : World, RingAt W' base H own seed b M v L → CellsAt W' w.heap.size 26 (dotC a s) → (fun w' : World => w'.cell? ⟨H, 0, none⟩ = some (.int .u8 own) ∧ w'.rangeAt w.heap.size 0 (dotC a s)) W' := fun W' h1 h2 => ⟨by have := h1.box.cell 0; rw [ringC_own] at this; exact this, h2.range 0 2⟩
  have hPl : (pairL seed own t).length = 32 := derL_length _ _
  have hNl : (wrapNL own t a s).length = 12 := rfl
  have hSl : (sealL (pairL seed own t) (wrapNL own t a s) [] KA).length = 48 := by rw [sealL_length, hKl]
  have HSE : Veil (wrapOf seed own t a s k = ⟨t, a, s, sealL (pairL seed own t) (wrapNL own t a s) [] KA⟩) := ⟨by unfold wrapOf; rw [HKA.out]⟩
  have HPAIR : ∀ W, RingAt W base H own seed b M v L → Below w.heap.size w W → Calls Tryz.prog 85 #[.pointer (some ⟨H, 0, none⟩), .int .u8 own, .int .u8 t] W fun e w' => e = .returned (.agg (row .u8 (pairL seed own t))) ∧ Below W.heap.size W w' := fun W h1 h2 => rPair_any base H own seed b M v L W own t h1 (hKT.below h2)
  have HNON : ∀ W, Calls Tryz.prog 86 #[.int .u8 own, .int .u8 t, .agg (dotC a s).toArray] W fun e w' => e = .returned (.agg (row .u8 (wrapNL own t a s))) ∧ Below W.heap.size W w' := fun W => wnonce_any own t a s W
  have HSEAL : ∀ W, Holds W G .u8 23 KA → Calls Tryz.prog 53 #[.agg (row .u8 (pairL seed own t)), .agg (row .u8 (wrapNL own t a s)), .slice none 0 0, .slice (some ⟨G, 0, none⟩) 32 32] W fun e w' => ∃ v, e = .returned v ∧ OwnB w' W.heap.size v (sealL (pairL seed own t) (wrapNL own t a s) [] KA) ∧ Below W.heap.size W w' := fun W h => seal_any _ _ none 0 0 [] _ 32 32 KA W hPl hNl (bytes_nil W) (h.bytes hKl.symm (by omega)) (by omega) (by omega)
  obtain ⟨PL, hPL⟩ : ∃ q, pairL seed own t = q := ⟨_, rfl⟩
  obtain ⟨NL, hNL⟩ : ∃ q, wrapNL own t a s = q := ⟨_, rfl⟩
  rw [hPL] at HPAIR HSEAL HSE hSl
  rw [hNL] at HNON HSEAL HSE hSl
  obtain ⟨SE, hSE⟩ : ∃ q, sealL PL NL [] KA = q := ⟨_, rfl⟩
  rw [hSE] at HSEAL HSE hSl
  clear hPL hNL hSE hPl hNl
  have HSE' := HSE
  obtain ⟨V0, hV0⟩ : ∃ q, V.drew = q := ⟨_, rfl⟩
  have hB0 : Below w.heap.size w V0 := by rw [← hV0]; exact hB.drew
  have hR1 : RingAt V0 base H own seed b M v L := by rw [← hV0]; exact hR0.congr fun _ _ => rfl
  have hr1 : CellsAt V0 (w.heap.size + 1) 73 Z := by rw [← hV0]; exact hr0
  have hd1 : CellsAt V0 w.heap.size 26 (dotC a s) := by rw [← hV0]; exact hd0
  have hk1 : Holds V0 G .u8 23 KA := by rw [← hV0]; exact hk0
  have hw1 : CellsAt V0 GW 73 WC := by rw [← hV0]; exact hw0
  refine wp_region_gateT (fun w' => w'.cell? ⟨H, 0, none⟩ = some (.int .u8 own) ∧ w'.rangeAt w.heap.size 0 (dotC a s)) (fun _ => True) 18 (by kernel_rfl) ?_
  rw [hV0]
  clear hV0 hB hR0 hr0 hd0 hk0 hw0
  have hT := HT V0 hR1 hd1
  have hS : (fun _ : World => True) V0 := trivial
  refine wpAnyT_held (i := 0) (v := ?_) rfl (by kernel_rfl) (by kernel_rfl) (by kernel_rfl) (fun _ _ _ h => h) (by kernel_rfl) hT (fun _ => hS) (by kernel_rfl) ?_ ?_
  rotate_left
  · intro wx hSw; go_split_ands; go_simp; try with_reducible rfl
  simp only [Act.put, gA, gS, gZ, sI, sZ, sS]
  refine wpAnyT_held (i := 1) (v := ?_) rfl (by kernel_rfl) (by kernel_rfl) (by kernel_rfl) (fun _ _ _ h => h) (by kernel_rfl) hT (fun _ => hS) (by kernel_rfl) ?_ ?_
  rotate_left
  · intro wx hSw; go_split_ands; go_simp; try with_reducible rfl
  simp only [Act.put, gA, gS, gZ, sI, sZ, sS]
  refine wpAnyT_held (i := 2) (v := ?_) rfl (by kernel_rfl) (by kernel_rfl) (by kernel_rfl) (fun _ _ _ h => h) (by kernel_rfl) hT (fun _ => hS) (by kernel_rfl) ?_ ?_
  rotate_left
  · intro wx hSw; go_split_ands; go_simp; try with_reducible rfl
  simp only [Act.put, gA, gS, gZ, sI, sZ, sS]
  refine wpAnyT_held (i := 3) (v := ?_) rfl (by kernel_rfl) (by kernel_rfl) (by kernel_rfl) (fun _ _ _ h => h) (by kernel_rfl) hT (fun _ => hS) (by kernel_rfl) ?_ ?_
  rotate_left
  · intro wx hSw; go_split_ands; go_simp; try with_reducible rfl
  simp only [Act.put, gA, gS, gZ, sI, sZ, sS]
  refine wpAnyT_held (i := 4) (v := ?_) rfl (by kernel_rfl) (by kernel_rfl) (by kernel_rfl) (fun _ _ _ h => h) (by kernel_rfl) hT (fun _ => hS) (by kernel_rfl) ?_ ?_
  rotate_left
  · intro wx hSw; go_split_ands; go_simp; try with_reducible rfl
  simp only [Act.put, gA, gS, gZ, sI, sZ, sS]
  refine wpAnyT_held (i := 5) (v := ?_) rfl (by kernel_rfl) (by kernel_rfl) (by kernel_rfl) (fun _ _ _ h => h) (by kernel_rfl) hT (fun _ => hS) (by kernel_rfl) ?_ ?_
  rotate_left
  · intro wx hSw; go_split_ands; go_simp; try with_reducible rfl
  simp only [Act.put, gA, gS, gZ, sI, sZ, sS]
  refine wpAnyT_held (i := 6) (v := ?_) rfl (by kernel_rfl) (by kernel_rfl) (by kernel_rfl) (fun _ _ _ h => h) (by kernel_rfl) hT (fun _ => hS) (by kernel_rfl) ?_ ?_
  rotate_left
  · intro wx hSw; go_split_ands; go_simp; try with_reducible rfl
  simp only [Act.put, gA, gS, gZ, sI, sZ, sS]
  refine wpAnyT_held (i := 7) (v := ?_) rfl (by kernel_rfl) (by kernel_rfl) (by kernel_rfl) (fun _ _ _ h => h) (by kernel_rfl) hT (fun _ => hS) (by kernel_rfl) ?_ ?_
  rotate_left
  · intro wx hSw; go_split_ands; go_simp; try with_reducible rfl
  simp only [Act.put, gA, gS, gZ, sI, sZ, sS]
  refine wpAnyT_held (i := 9) (v := ?_) rfl (by kernel_rfl) (by kernel_rfl) (by kernel_rfl) (fun _ _ _ h => h) (by kernel_rfl) hT (fun _ => hS) (by kernel_rfl) ?_ ?_
  rotate_left
  · intro wx hSw; go_split_ands; go_simp; try with_reducible rfl
  simp only [Act.put, gA, gS, gZ, sI, sZ, sS]
  refine wpAnyT_held (i := 10) (v := ?_) rfl (by kernel_rfl) (by kernel_rfl) (by kernel_rfl) (fun _ _ _ h => h) (by kernel_rfl) hT (fun _ => hS) (by kernel_rfl) ?_ ?_
  rotate_left
  · intro wx hSw; go_split_ands; go_simp; try with_reducible rfl
  simp only [Act.put, gA, gS, gZ, sI, sZ, sS]
  refine wpAnyT_held (i := 11) (v := ?_) rfl (by kernel_rfl) (by kernel_rfl) (by kernel_rfl) (fun _ _ _ h => h) (by kernel_rfl) hT (fun _ => hS) (by kernel_rfl) ?_ ?_
  rotate_left
  · intro wx hSw; go_split_ands; go_simp; try with_reducible rfl
  simp only [Act.put, gA, gS, gZ, sI, sZ, sS]
  refine wpAnyT_held (i := 12) (v := ?_) rfl (by kernel_rfl) (by kernel_rfl) (by kernel_rfl) (fun _ _ _ h => h) (by kernel_rfl) hT (fun _ => hS) (by kernel_rfl) ?_ ?_
  rotate_left
  · intro wx hSw; go_split_ands; go_simp; try with_reducible rfl
  simp only [Act.put, gA, gS, gZ, sI, sZ, sS]
  refine wpAnyT_held (i := 13) (v := ?_) rfl (by kernel_rfl) (by kernel_rfl) (by kernel_rfl) (fun _ _ _ h => h) (by kernel_rfl) hT (fun _ => hS) (by kernel_rfl) ?_ ?_
  rotate_left
  · intro wx hSw; go_split_ands; go_simp; try with_reducible rfl
  simp only [Act.put, gA, gS, gZ, sI, sZ, sS]
  refine wpAnyT_load (i := 14) (dst := some 45) (ty := 26) (x := .tmp 5) (b := w.heap.size) (o := (0)) (cs := (dotC a s)) (by kernel_rfl) (by kernel_rfl) (by kernel_rfl) (by kernel_rfl) (by kernel_rfl) (fun _ _ _ h => h) (by kernel_rfl) hT (fun _ => hS) (by kernel_rfl) (fun _ h => h.2) uD rfl iD ?_
  simp only [Act.put, gA, gS, gZ, sI, sZ, sS]
  refine wpAnyT_held (i := 16) (v := ?_) rfl (by kernel_rfl) (by kernel_rfl) (by kernel_rfl) (fun _ _ _ h => h) (by kernel_rfl) hT (fun _ => hS) (by kernel_rfl) ?_ ?_
  rotate_left
  · intro wx hSw; go_split_ands; go_simp; try with_reducible rfl
  simp only [Act.put, gA, gS, gZ, sI, sZ, sS]
  refine wpAnyT_one (i := 8) rfl (by kernel_rfl) (by kernel_rfl) (fun K hK => ?_)
  refine wpx_call _ _ (by kernel_rfl) ((HPAIR V0 hR1 hB0).mono ?_)
  rintro e V1 ⟨rfl, hb1⟩
  refine ⟨_, rfl, ?_⟩
  have hB1 := hB0.trans (hb1.mono hB0.size)
  have hR2 := hR1.far hb1
  have hr2 := hr1.congr (hb1.block _ hr1.lt)
  have hd2 := hd1.congr (hb1.block _ hd1.lt)
  have hk2 := hk1.below hb1 hk1.lt
  have hw2 := hw1.congr (hb1.block _ hw1.lt)
  replace hT := HT V1 hR2 hd2
  clear hR1 hr1 hd1 hk1 hw1 hb1 hB0
  refine hK.out _ _ hT (fun _ => hS) ?_
  clear hK K
  try simp only [Act.put, gA, gS, gZ, sI, sZ, sS]
  refine wpAnyT_one (i := 15) rfl (by kernel_rfl) (by kernel_rfl) (fun K hK => ?_)
  refine wpx_call _ _ (by kernel_rfl) ((HNON V1).mono ?_)
  rintro e V2 ⟨rfl, hb1⟩
  refine ⟨_, rfl, ?_⟩
  have hB2 := hB1.trans (hb1.mono hB1.size)
  have hR1 := hR2.far hb1
  have hr1 := hr2.congr (hb1.block _ hr2.lt)
  have hd1 := hd2.congr (hb1.block _ hd2.lt)
  have hk1 := hk2.below hb1 hk2.lt
  have hw1 := hw2.congr (hb1.block _ hw2.lt)
  replace hT := HT V2 hR1 hd1
  clear hR2 hr2 hd2 hk2 hw2 hb1 hB1
  refine hK.out _ _ hT (fun _ => hS) ?_
  clear hK K
  try simp only [Act.put, gA, gS, gZ, sI, sZ, sS]
  refine wpAnyT_one (i := 17) rfl (by kernel_rfl) (by kernel_rfl) (fun K hK => ?_)
  refine wpx_call _ _ (by kernel_rfl) ((HSEAL V2 hk1).mono ?_)
  rintro e V3 ⟨vs, rfl, hos, hb1⟩
  refine ⟨_, rfl, ?_⟩
  have hB3 := hB2.trans (hb1.mono hB2.size)
  have hR2 := hR1.far hb1
  have hr2 := hr1.congr (hb1.block _ hr1.lt)
  have hd2 := hd1.congr (hb1.block _ hd1.lt)
  have hw2 := hw1.congr (hb1.block _ hw1.lt)
  obtain ⟨gs, cs, rfl, hgs⟩ := hos.slice (by omega)
  have hrg := hos.bytes.2.rangeK
  rw [hSl]
  replace hT := HT V3 hR2 hd2
  clear hR1 hr1 hd1 hk1 hw1 hb1 hB2 HSEAL HNON HPAIR hos
  refine hK.out _ _ hT (fun _ => hS) ?_
  clear hK K
  try simp only [Act.put, gA, gS, gZ, sI, sZ, sS]
  refine wpAnyT_one (i := 18) rfl (by kernel_rfl) (by kernel_rfl) (fun K hK => ?_)
  have hcp := run_copy_row (P := Tryz.prog) V3 41 41 3 5 GW 3 48 48 ⟨gs, 0, none⟩ 48 cs WC.toArray 73 (SE.map (Value.int .u8)) Tryz.underlying41 size1u8 hw2 (by simp [hSl]) (fun j u hu => by rw [Addr.add_mid']; exact hrg j u hu) (by simp [hSl, hWCl]) (fun u hu => by simp only [List.mem_map] at hu; obtain ⟨_, _, rfl⟩ := hu; rfl)
  have hWE : (WC.toArray.toList.take 3 ++ SE.map (Value.int .u8) ++ WC.toArray.toList.drop (3 + (SE.map (Value.int .u8)).length)) = (⟨t, a, s, SE⟩ : Wp).cells := by
    rw [← HWC.out]
    simp [Wp.cells, dotC, hSl]
  rw [hWE] at hcp
  refine wpx_copy _ _ _ _ rfl _ _ _ _ rfl rfl hcp ?_
  have hB4 := below_setRow (g := GW) hB3 (by omega) (⟨t, a, s, SE⟩ : Wp).cells.toArray
  have hR3 := hR2.congr (w' := V3.setRow GW (⟨t, a, s, SE⟩ : Wp).cells.toArray) fun g hg => setRow_other _ _ _ _ (by have := hH.2 g hg; omega)
  have hr3 := hr2.congr (w' := V3.setRow GW (⟨t, a, s, SE⟩ : Wp).cells.toArray) (setRow_other _ _ _ _ (by omega))
  have hd3 := hd2.congr (w' := V3.setRow GW (⟨t, a, s, SE⟩ : Wp).cells.toArray) (setRow_other _ _ _ _ (by omega))
  have hw3 := hw2.setRow (⟨t, a, s, SE⟩ : Wp).cells
  replace hT := HT _ hR3 hd3
  refine hK.out _ _ hT (fun h => absurd (show true = false from h) (by decide)) ?_
  clear hK K
  try simp only [Act.put, gA, gS, gZ, sI, sZ, sS]
  refine wpAnyT_done (by kernel_rfl) ?_ _
  have hWl := wp_cells_length ⟨t, a, s, SE⟩ hSl
  have hW1 := wp_cells_one ⟨t, a, s, SE⟩
  refine forget (p := fun y => Exit.then _ _ _ _ y) (fun V' => Below w.heap.size w V' ∧ CellsAt V' (w.heap.size + 1) 73 Z ∧ CellsAt V' GW 73 (⟨t, a, s, SE⟩ : Wp).cells) ⟨hB4, hr3, hw3⟩ ?_
  obtain ⟨WE, hWE2⟩ : ∃ q, (⟨t, a, s, SE⟩ : Wp).cells = q := ⟨_, rfl⟩
  have HWE := Veil.mk hWE2
  rw [hWE2] at hWl hW1 ⊢
  clear hWE2 hB4 hR3 hr3 hd3 hw3 hT hcp hWE hB3 hR2 hr2 hd2 hw2 hrg HT
  rintro V' ⟨hB, hr, hw⟩
  have rW := hw.range 0 51
  rw [List.drop_zero, List.take_of_length_le (by omega)] at rW
  go_wp2_with (first
    | (refine wpList_ldv rfl 73 _ rfl _ _ rfl WE rW Tryz.underlying73 rfl (by rw [hWl]; exact sizeWrapK) ?_)
    | (refine wpList_stv rfl 73 _ _ rfl _ rfl rfl hr (by rw [hWl]; exact sizeWrapK) (by rw [hZl, hWl]) hW1 ?_))
  refine bodyPost_ret (results_ct (Tryz.results33) _ rfl rfl (hr.setRow WE) Tryz.underlying73 rfl (by rw [hWl]; exact sizeWrapK)) rfl ⟨?_, ?_⟩
  · rw [HSE'.out, HWE.out]; rfl
  · exact below_setRow hB (by omega) _
end
end Go.Proofs.YtfainlfiphdaeaaGreatDoor
namespace Go.Proofs.YtfainlfiphdaeaaGreatDoor
open Go.RowKit
set_option maxRecDepth 20000
set_option linter.unusedSimpArgs false
theorem wp_dot (e : Wp) : (e.cells.drop 1).take 2 = dotC e.ea e.es := rfl
theorem wp_too (e : Wp) : e.cells[0]? = some (.int .u8 e.too) := rfl
theorem wp_data (e : Wp) (h : e.data.length = 48) : (e.cells.drop 3).take 48 = e.data.map (Value.int .u8) := by
  show (e.data.map (Value.int .u8)).take 48 = _
  rw [List.take_of_length_le (by simp [h])]
section
variable (base H : Nat) (own : Int) (seed : List Int) (b : Nat) (M : Int → Int → Option (List Int)) (v : Value) (L : List (Int × Int)) (w : World)
def openedL (seed : List Int) (f own : Int) (E : Wp) : List Int := xorL (pairL seed f own) (wrapNL f own E.ea E.es) 1 (E.data.take (48 - 16))
set_option maxHeartbeats 4000000 in
theorem unw_own (f : Int) (E : Wp) (hR : RingAt w base H own seed b M v L) (hE : refuseE own f = 0) (ht : E.too ≠ own) :
    Calls Tryz.prog 34 #[.pointer (some ⟨H, 0, none⟩), .int .u8 f, .agg E.cells.toArray] w fun e w' => e = .returned (.int .i64 12) ∧ Below w.heap.size w w' := by
  have hB : Below w.heap.size w (w.alloc (.cells E.cells.toArray 73)) := (Below.refl _ _).alloc (Nat.le_refl _) _
  have hw0 := CellsAt.new w 73 E.cells
  have HIN : Veil (∀ g, ringP H b v g → g < w.heap.size) := ⟨fun g hg => (hR.inside g hg).1⟩
  go_enter Tryz.func34, Tryz.ntmps34
  go_upto_region 1 with fail
  refine forget (p := fun y => Code.wp _ _ _ _ y) (fun W => Below w.heap.size w W ∧ RingAt W base H own seed b M v L ∧ CellsAt W w.heap.size 73 E.cells) ⟨hB, hR.far hB, hw0⟩ ?_
  clear hB hw0
  rintro W ⟨hB, hR0, hw0⟩
  have hf := refuse_any base H own seed b M v L W f hR0
  rw [hE] at hf
  have c0 := hR0.box.cell 0
  rw [ringC_own] at c0
  have cT := hw0.cell 0
  rw [wp_too] at cT
  go_upto_region 4 with (go_at_call 84; refine hf.mono ?_; rintro e w1 ⟨rfl, rfl⟩)
  obtain ⟨tt, htt⟩ : ∃ q, E.too = q := ⟨_, rfl⟩
  rw [htt] at ht cT
  have hne : (tt == own) = false := by simpa using ht
  clear htt hE hf
  go_quiet ((fail))
  go_wp2
  go_ret
  exact ⟨rfl, below_drewN hB _⟩
set_option maxHeartbeats 4000000 in
theorem unw_ok (f : Int) (E : Wp) (hR : RingAt w base H own seed b M v L) (ho : okD E.ea E.es) (hd48 : E.data.length = 48) (hdB : ∀ x ∈ E.data, isB x) (hE : refuseE own f = 0) (ht : E.too = own) (hm : (M E.ea E.es).isSome = false) (hKT : S.KTab w) (htag : tagL (pairL seed f own) (wrapNL f own E.ea E.es) [] (E.data.take (48 - 16)) = E.data.drop (48 - 16)) (hl : L.length < 16) (hbase : base ≤ w.heap.size) :
    Calls Tryz.prog 34 #[.pointer (some ⟨H, 0, none⟩), .int .u8 f, .agg E.cells.toArray] w fun e w' => e = .returned (.int .i64 0) ∧ ∃ v', RingAt w' base H own seed b (putK M E.ea E.es (openedL seed f own E)) v' (L ++ [(E.ea, E.es)]) ∧ Turn (ringP H b v) w w' ∧ (v'.ownBlock = v.ownBlock ∨ ∃ g, v'.ownBlock = some g ∧ w.heap.size ≤ g) := by
  have hB : Below w.heap.size w (w.alloc (.cells E.cells.toArray 73)) := (Below.refl _ _).alloc (Nat.le_refl _) _
  have hw0 := CellsAt.new w 73 E.cells
  have HIN : Veil (∀ g, ringP H b v g → g < w.heap.size) := ⟨fun g hg => (hR.inside g hg).1⟩
  go_enter Tryz.func34, Tryz.ntmps34
  go_upto_region 1 with fail
  refine forget (p := fun y => Code.wp _ _ _ _ y) (fun W => Below w.heap.size w W ∧ RingAt W base H own seed b M v L ∧ CellsAt W w.heap.size 73 E.cells) ⟨hB, hR.far hB, hw0⟩ ?_
  clear hB hw0
  rintro W ⟨hB, hR0, hw0⟩
  have hf := refuse_any base H own seed b M v L W f hR0
  rw [hE] at hf
  have c0 := hR0.box.cell 0
  rw [ringC_own] at c0
  have cT := hw0.cell 0
  rw [wp_too] at cT
  go_upto_region 4 with (go_at_call 84; refine hf.mono ?_; rintro e w1 ⟨rfl, rfl⟩)
  rw [ht] at cT
  clear hE hf
  go_quiet ((fail))
  refine forget (p := fun y => Exit.then _ _ _ _ y) (fun V => Below w.heap.size w V ∧ RingAt V base H own seed b M v L ∧ CellsAt V w.heap.size 73 E.cells) ⟨below_drewN hB _, hR0.far (below_drewN (Below.refl _ _) _), hw0.congr ((below_drewN (Below.refl (w1.heap.size) w1) nq).block _ hw0.lt)⟩ ?_
  clear hB hR0 hw0 c0 cT
  clear w1
  rintro W ⟨hB, hR0, hw0⟩
  have hh := rHas_any base H own seed b M v L W E.ea E.es ho hR0
  have rD := hw0.range 1 2
  rw [wp_dot] at rD
  rw [hm] at hh
  go_upto_region 8 with (first
    | (refine wpList_ldv rfl 26 _ rfl _ _ rfl (dotC E.ea E.es) rD Tryz.underlying26 rfl sizeDotK ?_)
    | (go_at_call 29; refine hh.mono ?_; rintro e w2 ⟨rfl, hb2⟩))
  refine forget (p := fun y => Code.wp _ _ _ _ y) (fun V => Below w.heap.size w V ∧ RingAt V base H own seed b M v L ∧ CellsAt V w.heap.size 73 E.cells) ⟨hB.trans (hb2.mono hB.size), hR0.far hb2, hw0.congr (hb2.block _ hw0.lt)⟩ ?_
  clear hB hR0 hw0 hh rD hb2
  clear w2
  rintro V ⟨hB, hR0, hw0⟩
  have uD : Tryz.prog.underlying 26 = _ := Tryz.underlying26
  have iD : (Tryz.prog.info? 26).map (·.size) = some (dotC E.ea E.es).length := sizeDotK
  have HT : ∀ W' : World, RingAt W' base H own seed b M v L → CellsAt W' w.heap.size 73 E.cells → (fun w' : World => w'.cell? ⟨H, 0, none⟩ = some (.int .u8 own) ∧ w'.rangeAt w.heap.size 1 (dotC E.ea E.es)) W' := fun W' h1 h2 => ⟨by have := h1.box.cell 0; rw [ringC_own] at this; exact this, h2.range 1 2⟩
  have hPl : (pairL seed f own).length = 32 := derL_length _ _
  have hNl : (wrapNL f own E.ea E.es).length = 12 := rfl
  have HPAIR : ∀ W, RingAt W base H own seed b M v L → Below w.heap.size w W → Calls Tryz.prog 85 #[.pointer (some ⟨H, 0, none⟩), .int .u8 f, .int .u8 own] W fun e w' => e = .returned (.agg (row .u8 (pairL seed f own))) ∧ Below W.heap.size W w' := fun W h1 h2 => rPair_any base H own seed b M v L W f own h1 (hKT.below h2)
  have HNON : ∀ W, Calls Tryz.prog 86 #[.int .u8 f, .int .u8 own, .agg (dotC E.ea E.es).toArray] W fun e w' => e = .returned (.agg (row .u8 (wrapNL f own E.ea E.es))) ∧ Below W.heap.size W w' := fun W => wnonce_any f own E.ea E.es W
  have HBY : ∀ W' : World, CellsAt W' w.heap.size 73 E.cells → Bytes W' (some ⟨w.heap.size, 3, none⟩) 48 48 E.data := fun W' h => by
    have hr := h.range 3 48
    rw [wp_data E hd48] at hr
    exact ⟨hd48.symm, by omega, by omega, (fun e => by cases e), .inr ⟨_, _, rfl, fun j hj => by
      have := hr j (.int .u8 (E.data[j]?.getD 0)) (by rw [List.getElem?_map, List.getElem?_eq_getElem (by omega)]; rfl)
      exact this⟩⟩
  have HOPEN : ∀ W', CellsAt W' w.heap.size 73 E.cells → Calls Tryz.prog 68 #[.agg (row .u8 (pairL seed f own)), .agg (row .u8 (wrapNL f own E.ea E.es)), .slice none 0 0, .slice (some ⟨w.heap.size, 3, none⟩) 48 48] W' fun e w' => ∃ g, e = .returned (.tuple #[.slice (some ⟨g, 0, none⟩) 32 32, .int .i64 0]) ∧ W'.heap.size ≤ g ∧ Holds w' g .u8 5 (openedL seed f own E) ∧ Below W'.heap.size W' w' := fun W' h => open_ok _ _ none 0 0 [] _ 48 48 E.data W' hPl hNl (bytes_nil W') (HBY W' h) (by omega) (by omega) (by omega) (fun _ h => by cases h) hdB htag
  have hOl : (openedL seed f own E).length = 32 := by unfold openedL; rw [xorL_length, List.length_take]; omega
  obtain ⟨PL, hPL⟩ : ∃ q, pairL seed f own = q := ⟨_, rfl⟩
  obtain ⟨NL, hNL⟩ : ∃ q, wrapNL f own E.ea E.es = q := ⟨_, rfl⟩
  rw [hPL] at HPAIR HOPEN
  rw [hNL] at HNON HOPEN
  obtain ⟨OL, hOL⟩ : ∃ q, openedL seed f own E = q := ⟨_, rfl⟩
  rw [hOL] at HOPEN hOl
  have HOL := Veil.mk hOL
  clear hOL
  clear hPl hNl
  obtain ⟨V0, hV0⟩ : ∃ q, V.drew = q := ⟨_, rfl⟩
  have hB0 : Below w.heap.size w V0 := by rw [← hV0]; exact hB.drew
  have hR1 : RingAt V0 base H own seed b M v L := by rw [← hV0]; exact hR0.congr fun _ _ => rfl
  have hw1 : CellsAt V0 w.heap.size 73 E.cells := by rw [← hV0]; exact hw0
  refine wp_region_gateT (fun w' => w'.cell? ⟨H, 0, none⟩ = some (.int .u8 own) ∧ w'.rangeAt w.heap.size 1 (dotC E.ea E.es)) (fun _ => True) 17 (by kernel_rfl) ?_
  rw [hV0]
  clear hV0 hB hR0 hw0
  have hT := HT V0 hR1 hw1
  have hS : (fun _ : World => True) V0 := trivial
  refine wpAnyT_held (i := 0) (v := ?_) rfl (by kernel_rfl) (by kernel_rfl) (by kernel_rfl) (fun _ _ _ h => h) (by kernel_rfl) hT (fun _ => hS) (by kernel_rfl) ?_ ?_
  rotate_left
  · intro wx hSw; go_split_ands; go_simp; try with_reducible rfl
  simp only [Act.put, gA, gS, gZ, sI, sZ, sS]
  refine wpAnyT_held (i := 1) (v := ?_) rfl (by kernel_rfl) (by kernel_rfl) (by kernel_rfl) (fun _ _ _ h => h) (by kernel_rfl) hT (fun _ => hS) (by kernel_rfl) ?_ ?_
  rotate_left
  · intro wx hSw; go_split_ands; go_simp; try with_reducible rfl
  simp only [Act.put, gA, gS, gZ, sI, sZ, sS]
  refine wpAnyT_held (i := 2) (v := ?_) rfl (by kernel_rfl) (by kernel_rfl) (by kernel_rfl) (fun _ _ _ h => h) (by kernel_rfl) hT (fun _ => hS) (by kernel_rfl) ?_ ?_
  rotate_left
  · intro wx hSw; go_split_ands; go_simp; try with_reducible rfl
  simp only [Act.put, gA, gS, gZ, sI, sZ, sS]
  refine wpAnyT_held (i := 3) (v := ?_) rfl (by kernel_rfl) (by kernel_rfl) (by kernel_rfl) (fun _ _ _ h => h) (by kernel_rfl) hT (fun _ => hS) (by kernel_rfl) ?_ ?_
  rotate_left
  · intro wx hSw; go_split_ands; go_simp; try with_reducible rfl
  simp only [Act.put, gA, gS, gZ, sI, sZ, sS]
  refine wpAnyT_held (i := 4) (v := ?_) rfl (by kernel_rfl) (by kernel_rfl) (by kernel_rfl) (fun _ _ _ h => h) (by kernel_rfl) hT (fun _ => hS) (by kernel_rfl) ?_ ?_
  rotate_left
  · intro wx hSw; go_split_ands; go_simp; try with_reducible rfl
  simp only [Act.put, gA, gS, gZ, sI, sZ, sS]
  refine wpAnyT_held (i := 5) (v := ?_) rfl (by kernel_rfl) (by kernel_rfl) (by kernel_rfl) (fun _ _ _ h => h) (by kernel_rfl) hT (fun _ => hS) (by kernel_rfl) ?_ ?_
  rotate_left
  · intro wx hSw; go_split_ands; go_simp; try with_reducible rfl
  simp only [Act.put, gA, gS, gZ, sI, sZ, sS]
  refine wpAnyT_held (i := 7) (v := ?_) rfl (by kernel_rfl) (by kernel_rfl) (by kernel_rfl) (fun _ _ _ h => h) (by kernel_rfl) hT (fun _ => hS) (by kernel_rfl) ?_ ?_
  rotate_left
  · intro wx hSw; go_split_ands; go_simp; try with_reducible rfl
  simp only [Act.put, gA, gS, gZ, sI, sZ, sS]
  refine wpAnyT_held (i := 8) (v := ?_) rfl (by kernel_rfl) (by kernel_rfl) (by kernel_rfl) (fun _ _ _ h => h) (by kernel_rfl) hT (fun _ => hS) (by kernel_rfl) ?_ ?_
  rotate_left
  · intro wx hSw; go_split_ands; go_simp; try with_reducible rfl
  simp only [Act.put, gA, gS, gZ, sI, sZ, sS]
  refine wpAnyT_held (i := 9) (v := ?_) rfl (by kernel_rfl) (by kernel_rfl) (by kernel_rfl) (fun _ _ _ h => h) (by kernel_rfl) hT (fun _ => hS) (by kernel_rfl) ?_ ?_
  rotate_left
  · intro wx hSw; go_split_ands; go_simp; try with_reducible rfl
  simp only [Act.put, gA, gS, gZ, sI, sZ, sS]
  refine wpAnyT_held (i := 10) (v := ?_) rfl (by kernel_rfl) (by kernel_rfl) (by kernel_rfl) (fun _ _ _ h => h) (by kernel_rfl) hT (fun _ => hS) (by kernel_rfl) ?_ ?_
  rotate_left
  · intro wx hSw; go_split_ands; go_simp; try with_reducible rfl
  simp only [Act.put, gA, gS, gZ, sI, sZ, sS]
  refine wpAnyT_held (i := 11) (v := ?_) rfl (by kernel_rfl) (by kernel_rfl) (by kernel_rfl) (fun _ _ _ h => h) (by kernel_rfl) hT (fun _ => hS) (by kernel_rfl) ?_ ?_
  rotate_left
  · intro wx hSw; go_split_ands; go_simp; try with_reducible rfl
  simp only [Act.put, gA, gS, gZ, sI, sZ, sS]
  refine wpAnyT_held (i := 12) (v := ?_) rfl (by kernel_rfl) (by kernel_rfl) (by kernel_rfl) (fun _ _ _ h => h) (by kernel_rfl) hT (fun _ => hS) (by kernel_rfl) ?_ ?_
  rotate_left
  · intro wx hSw; go_split_ands; go_simp; try with_reducible rfl
  simp only [Act.put, gA, gS, gZ, sI, sZ, sS]
  refine wpAnyT_load (i := 13) (dst := some 41) (ty := 26) (x := .tmp 40) (b := w.heap.size) (o := (1)) (cs := (dotC E.ea E.es)) (by kernel_rfl) (by kernel_rfl) (by kernel_rfl) (by kernel_rfl) (by kernel_rfl) (fun _ _ _ h => h) (by kernel_rfl) hT (fun _ => hS) (by kernel_rfl) (fun _ h => h.2) uD rfl iD ?_
  simp only [Act.put, gA, gS, gZ, sI, sZ, sS]
  refine wpAnyT_held (i := 15) (v := ?_) rfl (by kernel_rfl) (by kernel_rfl) (by kernel_rfl) (fun _ _ _ h => h) (by kernel_rfl) hT (fun _ => hS) (by kernel_rfl) ?_ ?_
  rotate_left
  · intro wx hSw; go_split_ands; go_simp; try with_reducible rfl
  simp only [Act.put, gA, gS, gZ, sI, sZ, sS]
  refine wpAnyT_held (i := 16) (v := ?_) rfl (by kernel_rfl) (by kernel_rfl) (by kernel_rfl) (fun _ _ _ h => h) (by kernel_rfl) hT (fun _ => hS) (by kernel_rfl) ?_ ?_
  rotate_left
  · intro wx hSw; go_split_ands; go_simp; try with_reducible rfl
  simp only [Act.put, gA, gS, gZ, sI, sZ, sS]
  refine wpAnyT_one (i := 6) rfl (by kernel_rfl) (by kernel_rfl) (fun K hK => ?_)
  refine wpx_call _ _ (by kernel_rfl) ((HPAIR V0 hR1 hB0).mono ?_)
  rintro e V1 ⟨rfl, hb1⟩
  refine ⟨_, rfl, ?_⟩
  have hB1 := hB0.trans (hb1.mono hB0.size)
  have hR2 := hR1.far hb1
  have hw2 := hw1.congr (hb1.block _ hw1.lt)
  replace hT := HT V1 hR2 hw2
  clear hR1 hw1 hb1 hB0
  refine hK.out _ _ hT (fun _ => hS) ?_
  clear hK K
  try simp only [Act.put, gA, gS, gZ, sI, sZ, sS]
  refine wpAnyT_one (i := 14) rfl (by kernel_rfl) (by kernel_rfl) (fun K hK => ?_)
  refine wpx_call _ _ (by kernel_rfl) ((HNON V1).mono ?_)
  rintro e V2 ⟨rfl, hb1⟩
  refine ⟨_, rfl, ?_⟩
  have hB2 := hB1.trans (hb1.mono hB1.size)
  have hR1 := hR2.far hb1
  have hw1 := hw2.congr (hb1.block _ hw2.lt)
  replace hT := HT V2 hR1 hw1
  clear hR2 hw2 hb1 hB1
  refine hK.out _ _ hT (fun _ => hS) ?_
  clear hK K
  try simp only [Act.put, gA, gS, gZ, sI, sZ, sS]
  refine wpAnyT_one (i := 17) rfl (by kernel_rfl) (by kernel_rfl) (fun K hK => ?_)
  refine wpx_call _ _ (by kernel_rfl) ((HOPEN V2 hw1).mono ?_)
  rintro e V3 ⟨g3, rfl, hg3, hh3, hb1⟩
  refine ⟨_, rfl, ?_⟩
  have hB3 := hB2.trans (hb1.mono hB2.size)
  have hR2 := hR1.far hb1
  have hw2 := hw1.congr (hb1.block _ hw1.lt)
  replace hT := HT V3 hR2 hw2
  clear hR1 hw1 hb1 HOPEN HNON HPAIR HBY
  refine hK.out _ _ hT (fun h => absurd (show true = false from h) (by decide)) ?_
  clear hK K
  try simp only [Act.put, gA, gS, gZ, sI, sZ, sS]
  refine wpAnyT_held (i := 18) (v := ?_) rfl (by kernel_rfl) (by kernel_rfl) (by kernel_rfl) (fun _ _ _ h => h) (by kernel_rfl) hT (fun h => absurd (show true = false from h) (by decide)) (by kernel_rfl) ?_ ?_
  rotate_left
  · intro wx hSw; go_split_ands; go_simp; try with_reducible rfl
  simp only [Act.put, gA, gS, gZ, sI, sZ, sS]
  refine wpAnyT_held (i := 19) (v := ?_) rfl (by kernel_rfl) (by kernel_rfl) (by kernel_rfl) (fun _ _ _ h => h) (by kernel_rfl) hT (fun h => absurd (show true = false from h) (by decide)) (by kernel_rfl) ?_ ?_
  rotate_left
  · intro wx hSw; go_split_ands; go_simp; try with_reducible rfl
  simp only [Act.put, gA, gS, gZ, sI, sZ, sS]
  refine wpAnyT_held (i := 20) (v := ?_) rfl (by kernel_rfl) (by kernel_rfl) (by kernel_rfl) (fun _ _ _ h => h) (by kernel_rfl) hT (fun h => absurd (show true = false from h) (by decide)) (by kernel_rfl) ?_ ?_
  rotate_left
  · intro wx hSw; go_split_ands; go_simp; try with_reducible rfl
  simp only [Act.put, gA, gS, gZ, sI, sZ, sS]
  refine wpAnyT_held (i := 21) (v := ?_) rfl (by kernel_rfl) (by kernel_rfl) (by kernel_rfl) (fun _ _ _ h => h) (by kernel_rfl) hT (fun h => absurd (show true = false from h) (by decide)) (by kernel_rfl) ?_ ?_
  rotate_left
  · intro wx hSw; go_split_ands; go_simp; try with_reducible rfl
  simp only [Act.put, gA, gS, gZ, sI, sZ, sS]
  refine wpAnyT_held (i := 22) (v := ?_) rfl (by kernel_rfl) (by kernel_rfl) (by kernel_rfl) (fun _ _ _ h => h) (by kernel_rfl) hT (fun h => absurd (show true = false from h) (by decide)) (by kernel_rfl) ?_ ?_
  rotate_left
  · intro wx hSw; go_split_ands; go_simp; try with_reducible rfl
  simp only [Act.put, gA, gS, gZ, sI, sZ, sS]
  refine wpAnyT_done (by kernel_rfl) ?_ _
  have hra : ∀ wx, (Instr.arrayAt 23 (.slice (some ⟨g3, 0, none⟩) 32 32)).run Tryz.prog wx = .ok (.pointer (some ⟨g3, 0, none⟩)) wx := fun wx => run_arrayAk Tryz.underlying23 _ _ _ (by omega) wx
  go_upto_region 11 with fail
  have uK : Tryz.prog.underlying 23 = _ := Tryz.underlying23
  have iK : (Tryz.prog.info? 23).map (·.size) = some (OL.map (Value.int .u8)).length := by rw [List.length_map, hOl]; exact sizeKeyD
  have hr3 := hh3.cellsAt.range 0 32
  rw [List.drop_zero, List.take_of_length_le (by simp [hOl])] at hr3
  refine wp_region_gate (fun w' => w'.rangeAt w.heap.size 1 (dotC E.ea E.es) ∧ w'.rangeAt g3 0 (OL.map (Value.int .u8))) 6 (by kernel_rfl) ?_
  have hS : (fun w' : World => w'.rangeAt w.heap.size 1 (dotC E.ea E.es) ∧ w'.rangeAt g3 0 (OL.map (Value.int .u8))) V3.drew := ⟨hT.2, hr3⟩
  refine wpAnyG_any (i := 0) (v := ?_) rfl (by kernel_rfl) (by kernel_rfl) (by kernel_rfl) (fun _ _ _ h => h) (by kernel_rfl) (fun _ => hS) (by kernel_rfl) ?_ ?_
  rotate_left
  · intro _; go_simp; try with_reducible rfl
  simp only [Act.put, gA, gS, gZ, sI, sZ, sS]
  refine wpAnyG_any (i := 1) (v := ?_) rfl (by kernel_rfl) (by kernel_rfl) (by kernel_rfl) (fun _ _ _ h => h) (by kernel_rfl) (fun _ => hS) (by kernel_rfl) ?_ ?_
  rotate_left
  · intro _; go_simp; try with_reducible rfl
  simp only [Act.put, gA, gS, gZ, sI, sZ, sS]
  refine wpAnyG_load (i := 2) (dst := some 53) (ty := 26) (x := .tmp 52) (b := w.heap.size) (o := (1)) (cs := (dotC E.ea E.es)) (by kernel_rfl) (by kernel_rfl) (by kernel_rfl) (by kernel_rfl) (by kernel_rfl) (fun _ _ _ h => h) (by kernel_rfl) (by kernel_rfl) (by kernel_rfl) hS (by kernel_rfl) (fun _ h => h.1) uD rfl iD ?_
  simp only [Act.put, gA, gS, gZ, sI, sZ, sS]
  refine wpAnyG_any (i := 3) (v := ?_) rfl (by kernel_rfl) (by kernel_rfl) (by kernel_rfl) (fun _ _ _ h => h) (by kernel_rfl) (fun _ => hS) (by kernel_rfl) ?_ ?_
  rotate_left
  · intro _; go_simp; try with_reducible rfl
  simp only [Act.put, gA, gS, gZ, sI, sZ, sS]
  refine wpAnyG_any (i := 4) (v := ?_) rfl (by kernel_rfl) (by kernel_rfl) (by kernel_rfl) (fun _ _ _ h => h) (by kernel_rfl) (fun _ => hS) (by kernel_rfl) ?_ ?_
  rotate_left
  · intro _; go_simp; try with_reducible rfl
  simp only [Act.put, gA, gS, gZ, sI, sZ, sS]
  refine wpAnyG_load (i := 5) (dst := some 56) (ty := 23) (x := .tmp 55) (b := g3) (o := (0)) (cs := (OL.map (Value.int .u8))) (by kernel_rfl) (by kernel_rfl) (by kernel_rfl) (by kernel_rfl) (by kernel_rfl) (fun _ _ _ h => h) (by kernel_rfl) (by kernel_rfl) (by kernel_rfl) hS (by kernel_rfl) (fun _ h => h.2) uK rfl iK ?_
  simp only [Act.put, gA, gS, gZ, sI, sZ, sS]
  refine wpAnyG_one (i := 6) rfl (by kernel_rfl) (by kernel_rfl) (fun K hK => ?_)
  have hadd := add_ok base H own seed b M v L V3.drew E.ea E.es OL ho hOl (hR2.congr fun _ _ => rfl) hm hl (Nat.le_trans hbase hB3.size)
  refine wpx_call _ _ (by kernel_rfl) (hadd.mono ?_)
  rintro e V4 ⟨rfl, v4, hR4, hT4, hn4⟩
  refine ⟨_, rfl, ?_⟩
  refine hK.out _ _ (fun h => absurd (show true = false from h) (by decide)) ?_
  clear hK K
  try simp only [Act.put, gA, gS, gZ, sI, sZ, sS]
  refine wpAnyG_any (i := 7) (v := ?_) rfl (by kernel_rfl) (by kernel_rfl) (by kernel_rfl) (fun _ _ _ h => h) (by kernel_rfl) (fun h => absurd (show true = false from h) (by decide)) (by kernel_rfl) ?_ ?_
  rotate_left
  · intro _; go_simp; try with_reducible rfl
  simp only [Act.put, gA, gS, gZ, sI, sZ, sS]
  refine wpAnyG_done (by kernel_rfl) ?_ _
  go_wp2
  go_ret
  refine ⟨rfl, v4, by rw [HOL.out]; exact hR4, (Turn.of_below hB3.drew).trans hT4, hn4.imp id fun ⟨g, h1, h2⟩ => ⟨g, h1, Nat.le_trans hB3.size h2⟩⟩
end
end Go.Proofs.YtfainlfiphdaeaaGreatDoor
namespace Go.Proofs.YtfainlfiphdaeaaGreatDoor
open Go.RowKit
set_option maxRecDepth 20000
set_option linter.unusedSimpArgs false
theorem joinK_in (s : List Int) : ∀ k, ∀ v ∈ S.joinK s k, isB v
  | 0, v, h => by cases h
  | k + 1, v, h => by
    rw [S.joinK, List.mem_append] at h
    rcases h with h | h
    · exact joinK_in s k v h
    · simp only [S.bytes4, List.mem_cons, List.not_mem_nil, or_false] at h
      unfold isB
      rcases h with rfl | rfl | rfl | rfl <;> omega
theorem tK_in (k b : List Int) : ∀ i, ∀ v ∈ S.tK k b i, isB v
  | 0, v, h => by cases h
  | i + 1, v, h => joinK_in _ 8 v h
theorem outK_in (k b : List Int) : ∀ i, ∀ v ∈ S.outK k b i, isB v
  | 0, v, h => by cases h
  | i + 1, v, h => by
    rw [S.outK, List.mem_append] at h
    rcases h with h | h
    · exact outK_in k b i v h
    · exact tK_in k b (i + 1) v h
theorem derL_in (k b : List Int) : ∀ v ∈ derL k b, isB v := fun v h => outK_in k b _ v (List.mem_of_mem_take h)
theorem wrapOf_data (seed : List Int) (own t a s : Int) (k : List Int) (hk : k.length = 32) (hkB : ∀ v ∈ k, isB v) :
    (wrapOf seed own t a s k).data.length = 48 ∧ (∀ x ∈ (wrapOf seed own t a s k).data, isB x) ∧
    tagL (pairL seed own t) (wrapNL own t a s) [] ((wrapOf seed own t a s k).data.take (48 - 16)) = (wrapOf seed own t a s k).data.drop (48 - 16) ∧ openedL seed own t (wrapOf seed own t a s k) = k := by
  refine ⟨?_, ?_, ?_, ?_⟩
  · show (sealL _ _ _ _).length = 48
    rw [sealL_length, hk]
  · exact sealL_in _ _ _ _ (fun _ h => by cases h) hkB
  · show tagL _ _ [] ((sealL _ _ _ _).take _) = (sealL _ _ _ _).drop _
    rw [seal_take _ _ _ _ _ (by omega), seal_drop _ _ _ _ _ (by omega)]
  · show xorL _ _ 1 ((sealL _ _ _ _).take _) = _
    rw [seal_take _ _ _ _ _ (by omega)]
    exact xor_twice _ _ 1 k hkB
end Go.Proofs.YtfainlfiphdaeaaGreatDoor
namespace Go.Proofs.YtfainlfiphdaeaaGreatDoor
open Go.RowKit
set_option maxRecDepth 20000
set_option linter.unusedSimpArgs false
def evH (A : Nat) : Ev := ⟨0, 1, [0, 0, 0, 0, 0, 0, 0, 0], 3, 0, 0, false, 0, (A : Int), 2⟩
theorem evH_right (A : Nat) (h : A < 8) : rightB (evH A) = true := by
  have e4 : (A : Int) < 8 := by omega
  unfold rightB rightDotB rightKB noTextB evH
  simp [pastTo, e4]
theorem evH_in (A : Nat) (h : A < 8) : (evH A).In :=
  ⟨show in8 0 from ⟨by decide, by decide⟩, show in32 1 from ⟨by decide, by decide⟩, rfl, fun x hx => by
    have : x ∈ ([0, 0, 0, 0, 0, 0, 0, 0] : List Int) := hx
    simp only [List.mem_cons, List.not_mem_nil, or_false, or_self] at this
    rw [this]; exact ⟨by decide, by decide⟩, show in8 3 from ⟨by decide, by decide⟩, show in8 0 from ⟨by decide, by decide⟩, show in32 0 from ⟨by decide, by decide⟩, show in8 0 from ⟨by decide, by decide⟩, ⟨by show (0 : Int) ≤ (A : Int); omega, by show (A : Int) ≤ 255; omega⟩, show in8 2 from ⟨by decide, by decide⟩⟩
theorem fill_wpH (cs : List Value) (base : Array Value) (hb : base.size = 51) (hc : cs.length = 51) (pl : Nat → Option (Nat × Nat)) (hp : pl 0 = some (0, 51)) : Instr.fill pl base [(0, .agg cs.toArray)] = some cs.toArray := by
  have e := fill_cons pl base.toList cs 0 0 51 (.agg cs.toArray) [] hp rfl hc (by simpa using Nat.le_of_eq hb.symm)
  rw [Array.toArray_toList] at e
  rw [e, Instr.fill]
  simp [hb]
theorem infoWpH : (Tryz.prog.info? 73).map (fun i => (i.zero, i.size, i.bytes)) = some (some (.agg wz.cells.toArray), 51, 60) := by kernel_rfl
theorem bs_wrap (cs : List Value) (hc : cs.length = 51) (wx : World) : (Instr.buildSlice 27 1 #[(0, .agg cs.toArray)]).run Tryz.prog wx = .ok (.slice (some ⟨wx.heap.size, 0, none⟩) 1 1) (wx.alloc (.cells cs.toArray 73)) := by
  obtain ⟨i0, hi, hz0, hz1', hz2⟩ := info_parts infoWpH
  exact run_buildSlice wx 27 73 1 _ cs.toArray i0 _ Tryz.underlying27 hi hz0 (by rw [hz1']; decide) (by rw [hz1']; decide) (fill_wpH cs _ (by simp [hz1']) hc _ (by simp [hz1']))
theorem wpList_bsH {P : Program} {ops : Array Oper} {rest : List Oper} {o : Oper} {a : Act} {w w' : World} {Q : Exit → Act → World → Prop} (hgd : o.guard = none) (t : TypeId) (m : Nat) (parts : Array (Nat × Operand)) (ho : o.op = .buildSlice t m parts) (vs : Array (Nat × Value)) (hv : (parts.map fun (i, x) => (i, a.eval x)) = vs) (v : Value)
    (hrun : (Instr.buildSlice t m vs).run P w = .ok v w') (h : wpList P ops Q rest (a.put o.dst v) w') : wpList P ops Q (o :: rest) a w :=
  wpList_plain hgd fun _ hK => by
    have e : (Instr.buildSlice t m (parts.map fun (i, x) => (i, a.eval x))).run P w = .ok v w' := by rw [hv]; exact hrun
    unfold Oper.wp execOp
    simp only [ho, Sem.run_bind, e, Result.andThen_ok]
    exact hK _ _ h
theorem wraps_one (W : World) (g : Nat) (e : Wp) (he : e.data.length = 48) (h : CellsAt W g 73 e.cells) : WrapsAt W (some ⟨g, 0, none⟩) 1 1 [e] :=
  ⟨rfl, Nat.le_refl _, by decide, (fun h => by cases h), (fun x hx => by rw [List.mem_singleton.1 hx]; exact he), .inr ⟨g, 0, rfl, fun j hj => by
    obtain rfl : j = 0 := by simp at hj; exact hj
    exact h.wholeM⟩⟩
structure SealedO (W : World) (base : Nat) (seed : List Int) (own : Int) (k : List Int) (n : Int) (lw : Nat) (ws : List Wp) (E : Ev) (ea es : Int) (F : Fr) : Prop where
  own_ : FrOwn W base F lw ws 144 (sbodyL k F ws E)
  zero : sealE n lw E own (some k) = 0
  a : F.author = own
  n_ : F.number = n
  ea_ : F.ea = ea
  es_ : F.es = es
  m : F.mac = ftagL seed F ws (sbodyL k F ws E)
  E_ : E.In
  In : F.In
  w_ : ∀ e ∈ ws, e.In
theorem SealedO.keep {W V : World} {base base' : Nat} {seed : List Int} {own : Int} {k : List Int} {n : Int} {lw : Nat} {ws : List Wp} {E : Ev} {ea es : Int} {F : Fr} (h : SealedO W base seed own k n lw ws E ea es F) (hsz : W.heap.size ≤ V.heap.size) (hbb : base' ≤ base) (hk : ∀ j, base ≤ j → j < W.heap.size → V.heap[j]? = W.heap[j]?) : SealedO V base' seed own k n lw ws E ea es F := by
  obtain ⟨xw, cw, xb, cb, hF⟩ := h.own_.at_
  exact ⟨⟨xw, cw, xb, cb, fun V' hV => hF V' (fun j h1 h2 => (hV j (by omega) (by omega)).trans (hk j h1 h2))⟩, h.zero, h.a, h.n_, h.ea_, h.es_, h.m, h.E_, h.In, h.w_⟩
theorem SealedO.below {W V : World} {base : Nat} {seed : List Int} {own : Int} {k : List Int} {n : Int} {lw : Nat} {ws : List Wp} {E : Ev} {ea es : Int} {F : Fr} (h : SealedO W base seed own k n lw ws E ea es F) (hb : Below W.heap.size W V) : SealedO V base seed own k n lw ws E ea es F := h.keep hb.size (Nat.le_refl _) (fun j _ h2 => hb.block j h2)
theorem SealedO.open {V : World} {base0 : Nat} {seed : List Int} {own : Int} {k : List Int} {n : Int} {lw : Nat} {ws : List Wp} {E : Ev} {ea es : Int} {F : Fr} (h : SealedO V base0 seed own k n lw ws E ea es F) (base HS : Nat) (o : Int) (bS : Nat) (M : Int → Int → Option (List Int)) (v : Value) (L : List (Int × Int)) (p : Option (List Int)) (hR : RingAt V base HS o seed bS M v L) (hM : M ea es = p) (hp : p = none ∨ p = some k) (hKT : S.KTab V) (hBT : BTab V) :
    Calls Tryz.prog 21 #[.pointer (some ⟨HS, 0, none⟩), .agg F.cells.toArray] V fun e w' => e = .returned (.tuple #[.agg (if p = none then evZ else E).cells.toArray, .int .i64 (if p = none then 9 else 0)]) ∧ Below V.heap.size V w' := by
  obtain ⟨yw, dw, yb, db, hqq⟩ := h.own_.at_
  have hq := hqq V (fun _ _ _ => rfl)
  have hl : ws.length ≤ 64 := by have := hq.hw.len_eq; have := (seal_zero h.zero).2.1; omega
  obtain ⟨o1, o2, o3⟩ := sealed_opens (ws := ws) (seed := seed) h.E_ h.zero h.a h.n_ h.m
  refine (Open_anyF base HS o seed bS M v L V F yw lw dw ws yb 144 db _ hR hKT hBT hq h.In h.w_ (sbodyL_in h.In h.w_ hl h.E_)).mono ?_
  have hMF : M F.ea F.es = p := by rw [h.ea_, h.es_]; exact hM
  rintro e w' ⟨ho, hb⟩
  unfold openOut at ho
  rw [hMF] at ho
  rcases hp with rfl | rfl
  · have h9 : openE seed none F lw ws 144 (sbodyL k F ws E) = 9 := by unfold openE; rw [if_pos o1]
    rw [h9] at ho
    rcases ho with ho | ho
    · exact ⟨ho.2, hb⟩
    · exact absurd ho.1 (by decide)
  · have h9 : openE seed (some k) F lw ws 144 (sbodyL k F ws E) = 0 := by unfold openE; rw [if_pos o1]; exact o2
    rw [h9] at ho
    rcases ho with ho | ho
    · exact absurd rfl ho.1
    · obtain ⟨_, k', hk, he⟩ := ho
      obtain rfl := Option.some.inj hk
      rw [o3] at he
      exact ⟨he, hb⟩
theorem SealedO.cells {W : World} {base : Nat} {seed : List Int} {own : Int} {k : List Int} {n : Int} {lw : Nat} {ws : List Wp} {E : Ev} {ea es : Int} {F : Fr} (h : SealedO W base seed own k n lw ws E ea es F) : F.cells.length = 70 ∧ (∀ v ∈ F.cells, v.oneCell' = true) := by
  obtain ⟨xw, cw, xb, cb, hqq⟩ := h.own_.at_
  have hF := hqq W (fun _ _ _ => rfl)
  refine ⟨(fr_parts F hF.prev hF.mac).1, fun v hv => ?_⟩
  simp only [Fr.cells, dotC, List.mem_append, List.mem_cons, List.not_mem_nil, or_false, List.mem_map, hF.wraps, hF.body_] at hv
  rcases hv with ((((rfl | rfl) | rfl | rfl) | ⟨x, _, rfl⟩) | rfl | rfl) | ⟨x, _, rfl⟩ <;> rfl
theorem hseal_any (base H : Nat) (seed : List Int) (b : Nat) (v : Value) (W : World) (k : List Int) (A : Nat) (hA : A < 8) (g : Nat) (X : Wp) (hX : X.data.length = 48) (hXi : X.In) (hg : CellsAt W g 73 X.cells)
    (hR : RingAt W base H 0 seed b (newM 0 seed) v (newD 0)) (hKT : S.KTab W) (hBT : BTab W) (hM : newM 0 seed 0 0 = some k) :
    Calls Tryz.prog 17 #[.pointer (some ⟨H, 0, none⟩), .int .u32 1, .agg (row .u8 (List.replicate 32 0)), .agg (dotC 0 0).toArray, .slice (some ⟨g, 0, none⟩) 1 1, .agg (evH A).cells.toArray] W fun e w' => ∃ F : Fr, e = .returned (.tuple #[.agg F.cells.toArray, .int .i64 0]) ∧ SealedO w' W.heap.size seed 0 k 1 1 [X] (evH A) 0 0 F ∧ F.cells.length = 70 ∧ (∀ v ∈ F.cells, v.oneCell' = true) ∧ Below W.heap.size W w' := by
  refine (Seal_any base H 0 seed b (newM 0 seed) v (newD 0) W 1 (some ⟨g, 0, none⟩) 1 1 [X] 0 0 (List.replicate 32 0) (evH A) hR hKT hBT (wraps_one W g X hX hg) rfl (evH_in A hA) ⟨⟨by omega, by omega⟩, by omega, by omega⟩ ⟨by omega, by omega⟩).mono ?_
  have h0 : sealE 1 1 (evH A) 0 (newM 0 seed 0 0) = 0 := by rw [hM]; exact seal_of (by decide) (by omega) (evH_right A hA) rfl rfl (by omega)
  rintro e w' ⟨hs | hs, hb'⟩
  · exact absurd h0 hs.1
  · obtain ⟨_, F, k', hk, he, hf, fa, fn, fea, fes, fp, fm⟩ := hs
    rw [hM] at hk h0
    obtain rfl := Option.some.inj hk
    have hIn : F.In := ⟨by rw [fa]; exact ⟨by decide, by decide⟩, by rw [fn]; exact ⟨by decide, by decide⟩, by rw [fea]; exact ⟨by decide, by decide⟩, by rw [fes]; exact ⟨by decide, by decide⟩, fun x hx => by rw [fp] at hx; rw [(List.mem_replicate.1 hx).2]; exact ⟨by decide, by decide⟩, fun x hx => by rw [fm] at hx; exact ftagL_in _ _ _ _ x hx⟩
    have hS : SealedO w' W.heap.size seed 0 k 1 1 [X] (evH A) 0 0 F := ⟨hf, h0, fa, fn, fea, fes, fm, evH_in A hA, hIn, fun e he => by rw [List.mem_singleton.1 he]; exact hXi⟩
    exact ⟨F, he, hS, hS.cells.1, hS.cells.2, hb'⟩
end Go.Proofs.YtfainlfiphdaeaaGreatDoor
namespace Go.Proofs.YtfainlfiphdaeaaGreatDoor
open Go.RowKit
set_option maxRecDepth 20000
set_option linter.unusedSimpArgs false
theorem evZ_built9 (wx : World) : (Instr.build 33 #[]).run Tryz.prog wx = .ok (.agg evZ.cells.toArray) wx := run_build wx _ _ _ (by kernel_rfl)
set_option maxHeartbeats 32000000 in
theorem topHanded_walk (seed : List Int) (hs : seed.length = 32) (x y : Nat) (hx : x ≤ 255) (hy : y ≤ 255) (w : World) (hKT : S.KTab w) (hBT : BTab w) :
    Calls Tryz.prog 12 #[.agg (row .u8 seed), .int .u8 (x : Int), .int .u8 (y : Int)] w fun e w' => e = .returned (.bool true) ∧ Below w.heap.size w w' := by
  have hA := CellsAt.new w 23 (seed.map (Value.int .u8))
  have hb0 : Below w.heap.size w (w.alloc (.cells (seed.map (Value.int .u8)).toArray 23)) := (Below.refl _ _).alloc (Nat.le_refl _) _
  obtain ⟨k, hk⟩ : ∃ k, newM 0 seed 0 0 = some k := ⟨epochL seed, by unfold newM; rw [if_pos rfl]; unfold putK; simp⟩
  have hkE : k = epochL seed := by
    unfold newM at hk; rw [if_pos rfl] at hk; unfold putK at hk; simpa using hk.symm
  have hk32 : k.length = 32 := by rw [hkE]; exact derL_length _ _
  have hkB : ∀ v ∈ k, isB v := by rw [hkE]; exact derL_in _ _
  obtain ⟨xa, hxa⟩ : ∃ q : Nat, x % 7 = q := ⟨_, rfl⟩
  obtain ⟨ya, hya⟩ : ∃ q : Nat, y % 7 = q := ⟨_, rfl⟩
  obtain ⟨A, hAe⟩ : ∃ q : Nat, xa + 1 = q := ⟨_, rfl⟩
  obtain ⟨B, hBe⟩ : ∃ q : Nat, ya + 1 = q := ⟨_, rfl⟩
  have hremx : (x : Int).tmod 7 = (xa : Int) := by rw [Int.tmod_eq_emod_of_nonneg (by omega), ← hxa]; rfl
  have hremy : (y : Int).tmod 7 = (ya : Int) := by rw [Int.tmod_eq_emod_of_nonneg (by omega), ← hya]; rfl
  have wA : IntKind.u8.wrap ((xa : Int) + 1) = (A : Int) := by rw [IntKind.wrap_u8]; omega
  have wB : IntKind.u8.wrap ((ya : Int) + 1) = (B : Int) := by rw [IntKind.wrap_u8]; omega
  have hA8 : A < 8 := by omega
  have hB8 : B < 8 := by omega
  have hA1 : 1 ≤ A := by omega
  have hB1 : 1 ≤ B := by omega
  have hx0 : (0 : Int) ≤ (x : Int) := by omega
  have hy0 : (0 : Int) ≤ (y : Int) := by omega
  have hNA : newM (A : Int) seed = fun _ _ => none := by unfold newM; rw [if_neg (by omega)]
  have hNB : newM (B : Int) seed = fun _ _ => none := by unfold newM; rw [if_neg (by omega)]
  have hDA : newD (A : Int) = [] := by unfold newD; rw [if_neg (by omega)]
  have hDB : newD (B : Int) = [] := by unfold newD; rw [if_neg (by omega)]
  have HNW : Veil (∀ (o : Nat) W, o < 8 → Below w.heap.size w W → Calls Tryz.prog 27 #[.int .u8 (o : Int), .agg (seed.map (Value.int .u8)).toArray] W fun e w' => ∃ H b v, e = .returned (.pointer (some ⟨H, 0, none⟩)) ∧ RingAt w' W.heap.size H (o : Int) seed b (newM (o : Int) seed) v (newD (o : Int)) ∧ Below W.heap.size W w') := ⟨fun o W ho hb => new_any (o : Int) seed W (by omega) hs (hKT.below hb)⟩
  obtain ⟨X, hX⟩ : ∃ X, wrapOf seed 0 (A : Int) 0 0 k = X := ⟨_, rfl⟩
  obtain ⟨hd48, hdB, hdT, hdO⟩ := wrapOf_data seed 0 (A : Int) 0 0 k hk32 hkB
  rw [hX] at hd48 hdB hdT hdO
  have hXt : X.too = (A : Int) := by rw [← hX]; rfl
  have hXe : X.ea = 0 ∧ X.es = 0 := by rw [← hX]; exact ⟨rfl, rfl⟩
  have hXi : X.In := ⟨by rw [hXt]; exact ⟨by omega, by omega⟩, by rw [hXe.1]; exact ⟨by decide, by decide⟩, by rw [hXe.2]; exact ⟨by decide, by decide⟩, hdB⟩
  have HWR : Veil (∀ W base H b v, Below w.heap.size w W → RingAt W base H 0 seed b (newM 0 seed) v (newD 0) → Calls Tryz.prog 33 #[.pointer (some ⟨H, 0, none⟩), .int .u8 (A : Int), .agg (dotC 0 0).toArray] W fun e w' => e = .returned (.tuple #[.agg X.cells.toArray, .int .i64 0]) ∧ Below W.heap.size W w') := ⟨fun W base H b v hb hR => by
    have := wrap_ok base H 0 seed b (newM 0 seed) v (newD 0) W (A : Int) 0 0 k okZ hR (by unfold refuseE; rw [if_neg (by omega), if_neg (by omega)]) hk (hKT.below hb)
    rw [hX] at this
    exact this⟩
  have HSL : Veil (∀ W base H b v g, Below w.heap.size w W → CellsAt W g 73 X.cells → RingAt W base H 0 seed b (newM 0 seed) v (newD 0) → Calls Tryz.prog 17 #[.pointer (some ⟨H, 0, none⟩), .int .u32 1, .agg (row .u8 (List.replicate 32 0)), .agg (dotC 0 0).toArray, .slice (some ⟨g, 0, none⟩) 1 1, .agg (evH A).cells.toArray] W fun e w' => ∃ F : Fr, e = .returned (.tuple #[.agg F.cells.toArray, .int .i64 0]) ∧ SealedO w' W.heap.size seed 0 k 1 1 [X] (evH A) 0 0 F ∧ F.cells.length = 70 ∧ (∀ v ∈ F.cells, v.oneCell' = true) ∧ Below W.heap.size W w') := ⟨fun W base H b v g hb hg hR => hseal_any base H seed b v W k A hA8 g X hd48 hXi hg hR (hKT.below hb) (hBT.below hb) hk⟩
  have HUN : Veil (∀ W base H b v (o : Nat), o = A → Below w.heap.size w W → base ≤ W.heap.size → RingAt W base H (o : Int) seed b (fun _ _ => none) v [] → Calls Tryz.prog 34 #[.pointer (some ⟨H, 0, none⟩), .int .u8 0, .agg X.cells.toArray] W fun e w' => e = .returned (.int .i64 0) ∧ (∃ v' L, RingAt w' base H (o : Int) seed b (putK (fun _ _ => none) 0 0 k) v' L) ∧ Turn (ringP H b v) W w') := ⟨fun W base H b v o ho hb hbase hR => by
    subst ho
    refine (unw_ok base H (o : Int) seed b (fun _ _ => none) v [] W 0 X hR (by rw [hXe.1, hXe.2]; exact okZ) hd48 hdB (by unfold refuseE; rw [if_neg (by omega), if_neg (by omega)]) hXt rfl (hKT.below hb) (by rw [hXe.1, hXe.2]; exact hdT) (by decide) hbase).mono ?_
    rintro e w' ⟨he, v', hR', hT, -⟩
    rw [hXe.1, hXe.2, hdO] at hR'
    exact ⟨he, ⟨v', _, hR'⟩, hT⟩⟩
  have HUO : Veil (∀ W base H b v, A ≠ B → Below w.heap.size w W → RingAt W base H (B : Int) seed b (fun _ _ => none) v [] → Calls Tryz.prog 34 #[.pointer (some ⟨H, 0, none⟩), .int .u8 0, .agg X.cells.toArray] W fun e w' => e = .returned (.int .i64 12) ∧ Below W.heap.size W w') := ⟨fun W base H b v hne hb hR => unw_own base H (B : Int) seed b (fun _ _ => none) v [] W 0 X hR (by unfold refuseE; rw [if_neg (by omega), if_neg (by omega)]) (by rw [hXt]; omega)⟩
  have HOS : Veil (∀ W base H b v L base0 F, Below w.heap.size w W → SealedO W base0 seed 0 k 1 1 [X] (evH A) 0 0 F → RingAt W base H (A : Int) seed b (putK (fun _ _ => none) 0 0 k) v L → Calls Tryz.prog 21 #[.pointer (some ⟨H, 0, none⟩), .agg F.cells.toArray] W fun e w' => e = .returned (.tuple #[.agg (evH A).cells.toArray, .int .i64 0]) ∧ Below W.heap.size W w') := ⟨fun W base H b v L base0 F hb hF hR => by
    have := hF.open base H (A : Int) b _ v L (some k) hR (by unfold putK; simp) (.inr rfl) (hKT.below hb) (hBT.below hb)
    simpa using this⟩
  have HOT : Veil (∀ W base H b v L base0 F, Below w.heap.size w W → SealedO W base0 seed 0 k 1 1 [X] (evH A) 0 0 F → RingAt W base H (B : Int) seed b (fun _ _ => none) v L → Calls Tryz.prog 21 #[.pointer (some ⟨H, 0, none⟩), .agg F.cells.toArray] W fun e w' => e = .returned (.tuple #[.agg evZ.cells.toArray, .int .i64 9]) ∧ Below W.heap.size W w') := ⟨fun W base H b v L base0 F hb hF hR => by
    have := hF.open base H (B : Int) b _ v L none hR rfl (.inl rfl) (hKT.below hb) (hBT.below hb)
    simpa using this⟩
  have HB0 : Veil (∀ wx, (Instr.build 26 #[]).run Tryz.prog wx = .ok (.agg (dotC 0 0).toArray) wx) := ⟨fun wx => run_build wx _ _ _ (by kernel_rfl)⟩
  have HB1 : Veil (∀ wx, (Instr.build 26 #[(1, .int .u32 1)]).run Tryz.prog wx = .ok (.agg (dotC 0 1).toArray) wx) := ⟨fun wx => run_build wx _ _ _ (by kernel_rfl)⟩
  have HB2 : Veil (∀ wx, (Instr.build 33 #[(0, .agg (dotC 0 1).toArray), (2, .int .u8 3), (6, .int .u8 (A : Int)), (7, .int .u8 2)]).run Tryz.prog wx = .ok (.agg (evH A).cells.toArray) wx) := ⟨fun wx => run_build wx _ _ _ (by kernel_rfl)⟩
  have HB3 : Veil (∀ wx, (Instr.build 23 #[]).run Tryz.prog wx = .ok (.agg (row .u8 (List.replicate 32 0))) wx) := ⟨fun wx => run_build wx _ _ _ (by kernel_rfl)⟩
  obtain ⟨hX51, -, -, -, hX1⟩ := wp_parts X hd48
  have HBS : Veil (∀ wx, (Instr.buildSlice 27 1 #[(0, .agg X.cells.toArray)]).run Tryz.prog wx = .ok (.slice (some ⟨wx.heap.size, 0, none⟩) 1 1) (wx.alloc (.cells X.cells.toArray 73))) := ⟨fun wx => bs_wrap X.cells hX51 wx⟩
  have hEE : ∀ wx, (binOp BinOp.eql 33 (.agg (evH A).cells.toArray) (.agg (evH A).cells.toArray)).run Tryz.prog wx = .ok (.bool true) wx := fun wx => event_same5 (evH A) rfl wx
  have hZZ : ∀ wx, (binOp BinOp.eql 33 (.agg evZ.cells.toArray) (.agg evZ.cells.toArray)).run Tryz.prog wx = .ok (.bool true) wx := fun wx => event_same5 evZ rfl wx
  have HEE := Veil.mk hEE
  have HZZ := Veil.mk hZZ
  clear hEE hZZ
  have HBE := Veil.mk evZ_built9
  have iE : (Tryz.prog.info? 33).map (·.size) = some (evH A).cells.length := sizeEvZ (evH A) rfl
  have h1E := ev_one (evH A)
  have hE17 : (evH A).cells.length = 17 := rfl
  have iX : (Tryz.prog.info? 73).map (·.size) = some X.cells.length := by rw [hX51]; exact sizeWrapK
  have iS : (Tryz.prog.info? 23).map (·.size) = some (seed.map (Value.int .u8)).length := by rw [List.length_map, hs]; exact sizeKeyD
  have uK := Tryz.underlying23
  have uF := Tryz.underlying43
  have uE := Tryz.underlying33
  have uW := Tryz.underlying73
  have hr1 : (row .u8 seed) = (seed.map (Value.int .u8)).toArray := rfl
  rw [hr1]
  clear hr1 hk hkE hk32 hkB hd48 hdB hdT hdO hXt hXe hXi hKT hBT hs hxa hya hAe hBe hx hy hX
  generalize row .u8 (List.replicate 32 0) = PZ at HB3 HSL
  generalize hSV : seed.map (Value.int .u8) = SV at hA hb0 HNW iS ⊢
  clear hSV
  generalize hXC : X.cells = XC at HWR HSL HUN HUO HBS iX hX51 hX1
  clear hXC
  have HEH : Veil (∀ F : Fr, True) := ⟨fun _ => trivial⟩
  clear HEH
  generalize hEC : (evH A).cells = EC at HSL HB2 HEE iE h1E hE17 HOS
  clear hEC
  obtain ⟨EZ, hEZ⟩ : ∃ q, evZ.cells = q := ⟨_, rfl⟩
  have hz17 : EZ.length = 17 := by rw [← hEZ]; rfl
  have hzE : ∀ wx, (zeroValue 33).run Tryz.prog wx = .ok (.agg EZ.toArray) wx := fun wx => by rw [← hEZ]; kernel_rfl
  have hz1 : ¬ EZ.toArray = #[] := by rw [← hEZ]; decide
  have iZ : (Tryz.prog.info? 33).map (·.size) = some EZ.length := by rw [← hEZ]; exact sizeEvZ evZ rfl
  have h1Z : ∀ v ∈ EZ, v.oneCell' = true := by rw [← hEZ]; exact ev_one evZ
  rw [hEZ] at HZZ HBE HOT
  clear hEZ
  obtain ⟨Z, hzv, hzv1, hZ⟩ : ∃ Z : List Value, (∀ wx, (zeroValue 43).run Tryz.prog wx = .ok (.agg Z.toArray) wx) ∧ ¬ Z.toArray = #[] ∧ Z.length = 70 := ⟨frZ1.cells, fun wx => by kernel_rfl, by decide, rfl⟩
  obtain ⟨WZ, hzW, hzW1, hWZ⟩ : ∃ Z : List Value, (∀ wx, (zeroValue 73).run Tryz.prog wx = .ok (.agg Z.toArray) wx) ∧ ¬ Z.toArray = #[] ∧ Z.length = 51 := ⟨wz.cells, fun wx => by kernel_rfl, by decide, rfl⟩
  have HZE := Veil.mk (And.intro hzE hz1)
  have HZF := Veil.mk (And.intro hzv hzv1)
  have HZW := Veil.mk (And.intro hzW hzW1)
  clear hzE hz1 hzv hzv1 hzW hzW1
  go_enter Tryz.func12, Tryz.ntmps12
  go_upto_region 2 with fail
  refine forget (p := fun y => Code.wp _ _ _ _ y) (fun W => Below w.heap.size w W ∧ CellsAt W w.heap.size 23 SV) ⟨hb0, hA⟩ ?_
  clear hb0 hA hremx hremy wA wB hx0 hy0
  rintro W ⟨hb, hA⟩
  refine wp_region_gateT (fun w' => w'.rangeAt w.heap.size 0 SV) (fun _ => True) 99 (by kernel_rfl) ?_
  have hT : (fun w' : World => w'.rangeAt w.heap.size 0 SV) W.drew := (show CellsAt W.drew w.heap.size 23 SV from hA).wholeM
  have hS := trivial
  refine wpAnyT_load (i := 0) (dst := some 27) (ty := 23) (x := .tmp 3) (b := w.heap.size) (o := (0)) (cs := SV) (by kernel_rfl) (by kernel_rfl) (by kernel_rfl) (by kernel_rfl) (by kernel_rfl) (fun _ _ _ h => h) (by kernel_rfl) hT (fun _ => hS) (by kernel_rfl) (fun _ h => h) uK rfl iS ?_
  simp only [Act.put, gA, gS, gZ, sI, sZ, sS]
  refine wpAnyT_held (i := 2) (v := ?_) rfl (by kernel_rfl) (by kernel_rfl) (by kernel_rfl) (fun _ _ _ h => h) (by kernel_rfl) hT (fun _ => hS) (by kernel_rfl) ?_ ?_
  rotate_left
  · intro wx hSw; go_split_ands; go_simp; try with_reducible rfl
  simp only [Act.put, gA, gS, gZ, sI, sZ, sS]
  refine wpAnyT_load (i := 3) (dst := some 30) (ty := 23) (x := .tmp 3) (b := w.heap.size) (o := (0)) (cs := SV) (by kernel_rfl) (by kernel_rfl) (by kernel_rfl) (by kernel_rfl) (by kernel_rfl) (fun _ _ _ h => h) (by kernel_rfl) hT (fun _ => hS) (by kernel_rfl) (fun _ h => h) uK rfl iS ?_
  simp only [Act.put, gA, gS, gZ, sI, sZ, sS]
  refine wpAnyT_held (i := 5) (v := ?_) rfl (by kernel_rfl) (by kernel_rfl) (by kernel_rfl) (fun _ _ _ h => h) (by kernel_rfl) hT (fun _ => hS) (by kernel_rfl) ?_ ?_
  rotate_left
  · intro wx hSw; go_split_ands; go_simp; try with_reducible rfl
  simp only [Act.put, gA, gS, gZ, sI, sZ, sS]
  refine wpAnyT_load (i := 6) (dst := some 33) (ty := 23) (x := .tmp 3) (b := w.heap.size) (o := (0)) (cs := SV) (by kernel_rfl) (by kernel_rfl) (by kernel_rfl) (by kernel_rfl) (by kernel_rfl) (fun _ _ _ h => h) (by kernel_rfl) hT (fun _ => hS) (by kernel_rfl) (fun _ h => h) uK rfl iS ?_
  simp only [Act.put, gA, gS, gZ, sI, sZ, sS]
  refine wpAnyT_one (i := 1) rfl (by kernel_rfl) (by kernel_rfl) (fun K hK => ?_)
  have hbd : Below w.heap.size w W.drew := hb.drew
  refine wpx_call _ _ (by kernel_rfl) ((HNW.out 0 W.drew (by omega) hbd).mono ?_)
  rintro e w1 ⟨H1, b1, v1, rfl, hR1, hb1⟩
  refine ⟨_, rfl, ?_⟩
  have hB1' := hbd.trans (hb1.mono hbd.size)
  have hA1' : CellsAt w1 w.heap.size 23 SV := (show CellsAt W.drew w.heap.size 23 SV from hA).farM hb1
  replace hT := hA1'.wholeM
  refine hK.out _ _ hT (fun _ => hS) ?_
  clear hK K
  try simp only [Act.put, gA, gS, gZ, sI, sZ, sS]
  refine wpAnyT_one (i := 4) rfl (by kernel_rfl) (by kernel_rfl) (fun K hK => ?_)
  refine wpx_call _ _ (by kernel_rfl) ((HNW.out A w1 hA8 hB1').mono ?_)
  rintro e w2 ⟨H2, b2, v2, rfl, hR2, hb2⟩
  refine ⟨_, rfl, ?_⟩
  have hB2' := hB1'.trans (hb2.mono hB1'.size)
  replace hT := (hA1'.farM hb2).wholeM
  refine hK.out _ _ hT (fun _ => hS) ?_
  clear hK K
  try simp only [Act.put, gA, gS, gZ, sI, sZ, sS]
  refine wpAnyT_one (i := 7) rfl (by kernel_rfl) (by kernel_rfl) (fun K hK => ?_)
  refine wpx_call _ _ (by kernel_rfl) ((HNW.out B w2 hB8 hB2').mono ?_)
  rintro e w3 ⟨H3, b3, v3, rfl, hR3, hb3⟩
  refine ⟨_, rfl, ?_⟩
  have hB3' := hB2'.trans (hb3.mono hB2'.size)
  replace hT := ((hA1'.farM hb2).farM hb3).wholeM
  refine hK.out _ _ hT (fun _ => hS) ?_
  clear hK K
  try simp only [Act.put, gA, gS, gZ, sI, sZ, sS]
  refine wpAnyT_held (i := 8) (v := ?_) rfl (by kernel_rfl) (by kernel_rfl) (by kernel_rfl) (fun _ _ _ h => h) (by kernel_rfl) hT (fun _ => hS) (by kernel_rfl) ?_ ?_
  rotate_left
  · intro wx hSw; go_split_ands; go_simp; try with_reducible rfl
  simp only [Act.put, gA, gS, gZ, sI, sZ, sS]
  refine wpAnyT_held (i := 9) (v := ?_) rfl (by kernel_rfl) (by kernel_rfl) (by kernel_rfl) (fun _ _ _ h => h) (by kernel_rfl) hT (fun _ => hS) (by kernel_rfl) ?_ ?_
  rotate_left
  · intro wx hSw; go_split_ands; go_simp; try with_reducible rfl
  simp only [Act.put, gA, gS, gZ, sI, sZ, sS]
  refine wpAnyT_held (i := 10) (v := ?_) rfl (by kernel_rfl) (by kernel_rfl) (by kernel_rfl) (fun _ _ _ h => h) (by kernel_rfl) hT (fun _ => hS) (by kernel_rfl) ?_ ?_
  rotate_left
  · intro wx hSw; go_split_ands; go_simp; try with_reducible rfl
  simp only [Act.put, gA, gS, gZ, sI, sZ, sS]
  refine wpAnyT_done (by kernel_rfl) ?_ _
  have HP2 : Veil (∀ g, ringP H2 b2 v2 g → w1.heap.size ≤ g ∧ g < w2.heap.size) := ⟨fun g hg => ⟨(hR2.inside g hg).2, (hR2.inside g hg).1⟩⟩
  have HP3 : Veil (∀ g, ringP H3 b3 v3 g → w2.heap.size ≤ g ∧ g < w3.heap.size) := ⟨fun g hg => ⟨(hR3.inside g hg).2, (hR3.inside g hg).1⟩⟩
  have hs23 := hb3.size
  have hs12 := hb2.size
  have hs01 := hB1'.size
  rw [hNA, hDA] at hR2
  rw [hNB, hDB] at hR3
  refine forget (p := fun y => Exit.then _ _ _ _ y) (fun V => V.heap.size = w3.heap.size ∧ Below w.heap.size w V ∧ RingAt V W.drew.heap.size H1 0 seed b1 (newM 0 seed) v1 (newD 0) ∧ RingAt V w1.heap.size H2 (A : Int) seed b2 (fun _ _ => none) v2 [] ∧ RingAt V w2.heap.size H3 (B : Int) seed b3 (fun _ _ => none) v3 []) ⟨rfl, hB3', (hR1.far hb2).far hb3, hR2.far hb3, hR3⟩ ?_
  clear hT hS hB3' hB2' hB1' hbd hR1 hR2 hR3 hb1 hb2 hb3 hA1' HNW hNA hNB hDA hDB hb hA
  obtain ⟨s1, hs1⟩ : ∃ q, W.drew.heap.size = q := ⟨_, rfl⟩
  obtain ⟨s2, hs2⟩ : ∃ q, w1.heap.size = q := ⟨_, rfl⟩
  obtain ⟨s3, hs3⟩ : ∃ q, w2.heap.size = q := ⟨_, rfl⟩
  obtain ⟨D, hD⟩ : ∃ q, w3.heap.size = q := ⟨_, rfl⟩
  rw [hs2, hs3] at HP2 hs12
  rw [hs3, hD] at HP3 hs23
  rw [hs2] at hs01
  rw [hs1, hs2, hs3, hD]
  clear hs1 hs2 hs3 hD
  clear w3 w2 w1 W
  rintro W ⟨hWD, hb, hR1, hR2, hR3⟩
  have HRR : Veil (∀ V, Below W.heap.size W V → Below w.heap.size w V ∧ RingAt V s1 H1 0 seed b1 (newM 0 seed) v1 (newD 0) ∧ RingAt V s2 H2 (A : Int) seed b2 (fun _ _ => none) v2 [] ∧ RingAt V s3 H3 (B : Int) seed b3 (fun _ _ => none) v3 []) := ⟨fun V h => ⟨hb.trans (h.mono hb.size), hR1.far h, hR2.far h, hR3.far h⟩⟩
  clear hb hR1 hR2 hR3
  have HWD := Veil.mk hWD
  clear hWD
  -- the event
  obtain ⟨hzE, hz1⟩ := HZE.out
  have hE1 := CellsAt.new W 33 EZ
  have hbE : Below W.heap.size W ((W.alloc (.cells EZ.toArray 33)).setRow W.heap.size EC.toArray) := below_setRow ((Below.refl _ _).alloc (Nat.le_refl _) _) (Nat.le_refl _) _
  go_upto_region 4 with (first
    | (refine wpList_bldx rfl 26 _ rfl #[(1, .int .u32 1)] (by first | rfl | kernel_rfl) _ (HB1.out _) ?_)
    | (refine wpList_bldx rfl 33 _ rfl #[(0, .agg (dotC 0 1).toArray), (2, .int .u8 3), (6, .int .u8 (A : Int)), (7, .int .u8 2)] (by first | rfl | kernel_rfl) _ (HB2.out _) ?_)
    | (refine wpList_stv rfl 33 _ _ rfl _ rfl rfl hE1 iE (by rw [hz17, hE17]) h1E ?_))
  refine forget (p := fun y => Code.wp _ _ _ _ y) (fun V => Below W.heap.size W V ∧ CellsAt V W.heap.size 33 EC) ⟨hbE, hE1.setRow EC⟩ ?_
  clear hbE hE1 hzE hz1
  obtain ⟨GE, hGE⟩ : ∃ q, W.heap.size = q := ⟨_, rfl⟩
  have hDE : D ≤ GE := by rw [← hGE, HWD.out]; exact Nat.le_refl _
  rintro V ⟨hV, hE⟩
  rw [hGE] at hE ⊢
  clear hGE
  -- the wrap
  obtain ⟨hbV, hR1, -, -⟩ := HRR.out V hV
  have hwr := HWR.out V s1 H1 b1 v1 hbV hR1
  obtain ⟨hzW, hzW1⟩ := HZW.out
  clear hbV hR1
  go_upto_region 5 with (first
    | (refine wpList_bldx rfl 26 #[] rfl #[] (by first | rfl | kernel_rfl) _ (HB0.out _) ?_)
    | (go_at_call 33; refine hwr.mono ?_; rintro e w2 ⟨rfl, hb2⟩; have hG2 := CellsAt.new w2 73 WZ; clear hwr)
    | (refine wpList_stv rfl 73 _ _ rfl _ rfl rfl hG2 iX (by rw [hWZ, hX51]) hX1 ?_))
  have hb3 : Below w2.heap.size w2 ((w2.alloc (.cells WZ.toArray 73)).setRow w2.heap.size XC.toArray) := below_setRow ((Below.refl _ _).alloc (Nat.le_refl _) _) (Nat.le_refl _) _
  have hb23 := hb2.trans (hb3.mono hb2.size)
  have hVs := hV.size
  have h2s := hb2.size
  refine forget (p := fun y => Code.wp _ _ _ _ y) (fun U => Below W.heap.size W U ∧ CellsAt U GE 33 EC ∧ CellsAt U w2.heap.size 73 XC) ⟨hV.trans (hb23.mono hV.size), hE.farM hb23, hG2.setRow _⟩ ?_
  obtain ⟨GW, hGW⟩ : ∃ q, w2.heap.size = q := ⟨_, rfl⟩
  have hDW : D ≤ GW := by have := HWD.out; omega
  rw [hGW]
  clear hGW hb3 hb23 hG2 hb2 hV hE hVs h2s hzW hzW1 HZW HWR
  clear w2 V
  rintro V ⟨hV, hE, hX⟩
  -- the frame
  obtain ⟨hbV, hR1, -, -⟩ := HRR.out V hV
  have hVa : Below V.heap.size V (V.alloc (.cells XC.toArray 73)) := (Below.refl _ _).alloc (Nat.le_refl _) _
  have hsl := HSL.out (V.alloc (.cells XC.toArray 73)) s1 H1 b1 v1 V.heap.size (hbV.trans (hVa.mono hbV.size)) (CellsAt.new V 73 XC) (hR1.far hVa)
  have rX := hX.wholeM
  have rE := (hE.farM hVa).wholeM
  obtain ⟨hzv, hzv1⟩ := HZF.out
  have hVs := hV.size
  clear hbV hR1
  go_upto_region 6 with (first
    | (refine wpList_bldx rfl 23 #[] rfl #[] (by first | rfl | kernel_rfl) _ (HB3.out _) ?_)
    | (refine wpList_bldx rfl 26 #[] rfl #[] (by first | rfl | kernel_rfl) _ (HB0.out _) ?_)
    | (refine wpList_ldv rfl 73 _ rfl _ _ rfl XC rX uW rfl iX ?_)
    | (refine wpList_bsH rfl 27 1 _ rfl #[(0, .agg XC.toArray)] (by first | rfl | kernel_rfl) _ (HBS.out _) ?_)
    | (refine wpList_ldv rfl 33 _ rfl _ _ rfl EC rE uE rfl iE ?_)
    | (go_at_call 17; refine hsl.mono ?_; rintro e w2 ⟨F, rfl, hF, hFl, h1F, hb2⟩; have hG2 := CellsAt.new w2 43 Z; have iF : (Tryz.prog.info? 43).map (·.size) = some F.cells.length := (by rw [hFl]; exact sizeFrame); have HF := Veil.mk hF; clear hsl hF)
    | (refine wpList_stv rfl 43 _ _ rfl _ rfl rfl hG2 iF (by rw [hZ, hFl]) h1F ?_))
  have hb3 : Below w2.heap.size w2 ((w2.alloc (.cells Z.toArray 43)).setRow w2.heap.size F.cells.toArray) := below_setRow ((Below.refl _ _).alloc (Nat.le_refl _) _) (Nat.le_refl _) _
  have hb12 := hVa.trans (hb2.mono hVa.size)
  have hb23 := hb12.trans (hb3.mono hb12.size)
  have h2s := hb12.size
  refine forget (p := fun y => Code.wp _ _ _ _ y) (fun U => Below W.heap.size W U ∧ CellsAt U GE 33 EC ∧ CellsAt U GW 73 XC ∧ CellsAt U w2.heap.size 43 F.cells ∧ SealedO U D seed 0 k 1 1 [X] (evH A) 0 0 F) ⟨hV.trans (hb23.mono hV.size), hE.farM hb23, hX.farM hb23, hG2.setRow _, (HF.out.below hb3).keep (Nat.le_refl _) (by have := HWD.out; rw [World.size_alloc]; omega) (fun _ _ _ => rfl)⟩ ?_
  obtain ⟨GF, hGF⟩ : ∃ q, w2.heap.size = q := ⟨_, rfl⟩
  have hDF : D ≤ GF := by have := HWD.out; omega
  rw [hGF]
  clear hGF hb3 hb23 hb12 hG2 hb2 hV hE hX hVs h2s hzv hzv1 HZF HSL HF rX rE hVa HBS h1F hFl
  obtain ⟨GS, hGS⟩ : ∃ q, V.heap.size = q := ⟨_, rfl⟩
  rw [hGS]
  clear hGS
  clear w2 V
  rintro V ⟨hV, hE, hX, hG, hF⟩
  -- unwrapped
  obtain ⟨hbV, -, hR2, hR3⟩ := HRR.out V hV
  have hVs := hV.size
  have hVD : D ≤ V.heap.size := by have := HWD.out; omega
  have hun := HUN.out V s2 H2 b2 v2 A rfl hbV (by omega) hR2
  have rX := hX.wholeM
  clear hR2
  go_upto_region 8 with (first
    | (refine wpList_ldgv (by kernel_rfl) 73 _ rfl _ _ rfl XC rX uW rfl iX ?_)
    | (go_at_call 34; refine hun.mono ?_; rintro e w2 ⟨rfl, ⟨v2', L2, hR2⟩, hT2⟩; clear hun))
  have HK : Veil (∀ j, s3 ≤ j → j < V.heap.size → w2.heap[j]? = V.heap[j]?) := ⟨fun j h1 h2 => hT2.block j h2 (fun hp => by have := HP2.out j hp; omega)⟩
  have hsz2 := hT2.size
  have hb2 : Below w.heap.size w w2 := hbV.trans (hT2.below hbV.size (fun j hp => by have := HP2.out j hp; omega))
  refine forget (p := fun y => Code.wp _ _ _ _ y) (fun U => Below w.heap.size w U ∧ D ≤ U.heap.size ∧ RingAt U s2 H2 (A : Int) seed b2 (putK (fun _ _ => none) 0 0 k) v2' L2 ∧ RingAt U s3 H3 (B : Int) seed b3 (fun _ _ => none) v3 [] ∧ CellsAt U GE 33 EC ∧ CellsAt U GW 73 XC ∧ CellsAt U GF 43 F.cells ∧ SealedO U D seed 0 k 1 1 [X] (evH A) 0 0 F) ⟨hb2, by omega, hR2, hR3.congr (fun g hg => HK.out g (HP3.out g hg).1 (by have := (HP3.out g hg).2; omega)), hE.congr (HK.out GE (by omega) hE.lt), hX.congr (HK.out GW (by omega) hX.lt), hG.congr (HK.out GF (by omega) hG.lt), hF.keep hsz2 (Nat.le_refl _) (fun j h1 h2 => HK.out j (by omega) h2)⟩ ?_
  clear hb2 hR2 hR3 hT2 HK hsz2 hE hX hG hF hVs hVD hbV hV rX HRR HP2
  clear w2 V
  rintro V ⟨hb, hVD, hR2, hR3, hE, hX, hG, hF⟩
  have HST : Veil (∀ U, Below V.heap.size V U → Below w.heap.size w U ∧ RingAt U s3 H3 (B : Int) seed b3 (fun _ _ => none) v3 [] ∧ CellsAt U GE 33 EC ∧ CellsAt U GW 73 XC ∧ CellsAt U GF 43 F.cells ∧ SealedO U D seed 0 k 1 1 [X] (evH A) 0 0 F) := ⟨fun U h => ⟨hb.trans (h.mono hb.size), hR3.far h, hE.farM h, hX.farM h, hG.farM h, hF.below h⟩⟩
  have hos := HOS.out V s2 H2 b2 v2' L2 D F hb hF hR2
  have rG := hG.wholeM
  obtain ⟨hzE, hz1⟩ := HZE.out
  clear hb hR2 hR3 hE hX hF hG HOS
  generalize hFC : F.cells = FC at HST hos rG iF
  have HFC := Veil.mk hFC
  clear hFC
  go_upto_region 9 with (first
    | (refine wpList_ldv rfl 43 _ rfl _ _ rfl FC rG uF rfl iF ?_)
    | (go_at_call 21; refine hos.mono ?_; rintro e w4 ⟨rfl, hb4⟩; have hE1 := CellsAt.new w4 33 EZ; clear hos)
    | (refine wpList_stv rfl 33 _ _ rfl _ rfl rfl hE1 iE (by rw [hz17, hE17]) h1E ?_))
  have hb5 : Below w4.heap.size w4 ((w4.alloc (.cells EZ.toArray 33)).setRow w4.heap.size EC.toArray) := below_setRow ((Below.refl _ _).alloc (Nat.le_refl _) _) (Nat.le_refl _) _
  have hb45 := hb4.trans (hb5.mono hb4.size)
  refine forget (p := fun y => Code.wp _ _ _ _ y) (fun U => Below V.heap.size V U ∧ CellsAt U w4.heap.size 33 EC) ⟨hb45, hE1.setRow _⟩ ?_
  obtain ⟨GV, hGV⟩ : ∃ q, w4.heap.size = q := ⟨_, rfl⟩
  rw [hGV]
  clear hGV hb45 hb5 hb4 hE1 rG
  clear w4
  rintro U ⟨hU, hGV⟩
  obtain ⟨hbU, hR3, -, -, hG, hF⟩ := HST.out U hU
  have hot := HOT.out U s3 H3 b3 v3 [] D F hbU hF hR3
  rw [HFC.out] at hot
  have rG := hG.wholeM
  clear hbU hR3 hG hF HOT
  go_upto_region 10 with (first
    | (refine wpList_ldv rfl 43 _ rfl _ _ rfl FC rG uF rfl iF ?_)
    | (go_at_call 21; refine hot.mono ?_; rintro e w4 ⟨rfl, hb4⟩; have hE1 := CellsAt.new w4 33 EZ; clear hot)
    | (refine wpList_stv rfl 33 _ _ rfl _ rfl rfl hE1 iZ rfl h1Z ?_))
  have hb5 : Below w4.heap.size w4 ((w4.alloc (.cells EZ.toArray 33)).setRow w4.heap.size EZ.toArray) := below_setRow ((Below.refl _ _).alloc (Nat.le_refl _) _) (Nat.le_refl _) _
  have hb45 := hb4.trans (hb5.mono hb4.size)
  refine forget (p := fun y => Code.wp _ _ _ _ y) (fun U' => Below V.heap.size V U' ∧ CellsAt U' GV 33 EC ∧ CellsAt U' w4.heap.size 33 EZ) ⟨hU.trans (hb45.mono hU.size), hGV.farM hb45, hE1.setRow _⟩ ?_
  obtain ⟨GU, hGU⟩ : ∃ q, w4.heap.size = q := ⟨_, rfl⟩
  rw [hGU]
  clear hGU hb45 hb5 hb4 hE1 rG hU hGV hzE hz1 HZE
  clear w4 U
  rintro U ⟨hU, hGV, hGU⟩
  obtain ⟨hbU, hR3, hE, hX, -, -⟩ := HST.out U hU
  have rV := hGV.wholeM
  have rE := hE.wholeM
  have rX := hX.wholeM
  have rU := hGU.wholeM
  have hUs := hU.size
  have heqE := HEE.out
  by_cases hAB : A = B
  · subst hAB
    have hun := HUN.out U s3 H3 b3 v3 A rfl hbU (by omega) hR3
    have hs3w : w.heap.size ≤ s3 := by omega
    have HB' : Veil (∀ w6, Turn (ringP H3 b3 v3) U w6 → Below w.heap.size w w6) := ⟨fun w6 hT => hbU.trans (hT.below hbU.size (fun j hp => by have := HP3.out j hp; omega))⟩
    clear hbU hR3 hE hX hGV hGU HUO
    go_wp2_with (first
      | (refine wpList_ldgv (by kernel_rfl) 33 (.tmp 17) rfl GV 0 rfl EC rV uE rfl iE ?_; clear rV)
      | (refine wpList_ldgv (by kernel_rfl) 33 (.tmp 12) rfl GE 0 rfl EC rE uE rfl iE ?_; clear rE)
      | (refine wpList_ldgv (by kernel_rfl) 73 (.tmp 13) rfl GW 0 rfl XC rX uW rfl iX ?_)
      | (go_at_call 34; refine hun.mono ?_; rintro e w6 ⟨rfl, -, hT6⟩; clear hun))
    go_ret
    exact ⟨rfl, HB'.out w6 hT6⟩
  · have hABi : ((A : Int) == (B : Int)) = false := by simp; omega
    have hun := HUO.out U s3 H3 b3 v3 hAB hbU hR3
    have HB' : Veil (∀ w6, Below U.heap.size U w6 → Below w.heap.size w w6) := ⟨fun w6 hT => hbU.trans (hT.mono hbU.size)⟩
    have heqZ := HZZ.out
    clear hbU hR3 hE hX hGV hGU HUN hAB
    go_wp2_with (first
      | (refine wpList_ldgv (by kernel_rfl) 33 (.tmp 17) rfl GV 0 rfl EC rV uE rfl iE ?_; clear rV)
      | (refine wpList_ldgv (by kernel_rfl) 33 (.tmp 12) rfl GE 0 rfl EC rE uE rfl iE ?_; clear rE)
      | (refine wpList_ldgv (by kernel_rfl) 33 (.tmp 19) rfl GU 0 rfl EZ rU uE rfl iZ ?_; clear rU)
      | (refine wpList_bldgT (by kernel_rfl) 33 #[] rfl #[] (by first | rfl | kernel_rfl) _ (HBE.out _) ?_)
      | (refine wpList_ldgv (by kernel_rfl) 73 (.tmp 13) rfl GW 0 rfl XC rX uW rfl iX ?_)
      | (go_at_call 34; refine hun.mono ?_; rintro e w6 ⟨rfl, hT6⟩; clear hun))
    go_ret
    exact ⟨rfl, HB'.out w6 hT6⟩
theorem topHanded_walkI (seed : List Int) (hs : seed.length = 32) (n m : Int) (hn : 0 ≤ n ∧ n ≤ 255) (hm : 0 ≤ m ∧ m ≤ 255) (w : World) (hKT : S.KTab w) (hBT : BTab w) :
    Calls Tryz.prog 12 #[.agg (row .u8 seed), .int .u8 n, .int .u8 m] w fun e w' => e = .returned (.bool true) ∧ Below w.heap.size w w' := by
  obtain ⟨x, rfl⟩ := Int.eq_ofNat_of_zero_le hn.1
  obtain ⟨y, rfl⟩ := Int.eq_ofNat_of_zero_le hm.1
  exact topHanded_walk seed hs x y (by have := hn.2; omega) (by have := hm.2; omega) w hKT hBT
end Go.Proofs.YtfainlfiphdaeaaGreatDoor
