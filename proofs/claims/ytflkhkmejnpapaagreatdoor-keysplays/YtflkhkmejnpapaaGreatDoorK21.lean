/- Ky3 -/
import Derived.Test.YtflkhkmejnpapaaGreatDoorK20
namespace Go.Proofs.YtflkhkmejnpapaaGreatDoor
open Go.RowKit
set_option maxRecDepth 20000
set_option linter.unusedSimpArgs false
theorem sizeNonceD : (Tryz.prog.info? 78).map (·.size) = some 12 := by kernel_rfl
theorem run_make4 (w : World) : (Instr.makeSlice 74 (.int .i64 4) (.int .i64 4)).run Tryz.prog w = .ok (.slice (some ⟨w.heap.size, 0, none⟩) 4 4) (w.alloc (.cells (row .u8 [0, 0, 0, 0]) 5)) := by kernel_rfl
theorem newB (w : World) (l : List Int) (n : Nat) (hn : n = l.length) (hl : l.length ≤ 4000000) : Bytes (w.alloc (.cells (row .u8 l) 5)) (some ⟨w.heap.size, 0, none⟩) n n l := (Holds.new w .u8 5 l).bytes hn hl
def wrapNL (f t a s : Int) : List Int := [f, t, a, 0] ++ (bE4 s ++ [0, 0, 0, 0])
set_option maxHeartbeats 4000000 in
theorem wnonce_any (f t a s : Int) (w : World) :
    Calls Tryz.prog 38 #[.int .u8 f, .int .u8 t, .agg (dotC a s).toArray] w fun e w' => e = .returned (.agg (row .u8 (wrapNL f t a s))) ∧ Below w.heap.size w w' := by
 obtain ⟨iw, hiw, hwz, hws2, hwb⟩ := info_parts infoSl
 obtain ⟨iu, hiu, huz, hus, hub⟩ := info_parts infoU8
 obtain ⟨Z, hZl, hZ⟩ : ∃ Z : List Int, Z.length = 12 ∧ Z = List.replicate 12 0 := ⟨_, rfl, rfl⟩
 have hd0 := (CellsAt.new w 33 (dotC a s)).alloc (.cells (row .u8 Z) 78)
 have hr0 := Holds.new (w.alloc (.cells (dotC a s).toArray 33)) .u8 78 Z
 rw [World.size_alloc] at hr0
 have hB : Below w.heap.size w ((w.alloc (.cells (dotC a s).toArray 33)).alloc (.cells (row .u8 Z) 78)) := ((Below.refl _ _).alloc (Nat.le_refl _) _).alloc (by simp) _
 go_enter Tryz.func38, Tryz.ntmps38
 go_upto_region 1 with fail
 refine forget (p := fun y => Code.wp _ _ _ _ y) (fun W => Below w.heap.size w W ∧ Holds W (w.heap.size + 1) .u8 78 Z ∧ CellsAt W w.heap.size 33 (dotC a s)) ⟨by rw [hZ] at hB; exact hB, by rw [hZ] at hr0 ⊢; exact hr0, by rw [hZ] at hd0; exact hd0⟩ ?_
 clear hB hr0 hZ hd0
 rintro W ⟨hBW, hRW, hDW⟩
 obtain ⟨V0, hV0⟩ : ∃ q, W.drew = q := ⟨_, rfl⟩
 have hBV0 : Below w.heap.size w V0 := by rw [← hV0]; exact hBW.drew
 have hRV0 : Holds V0 (w.heap.size + 1) .u8 78 Z := by rw [← hV0]; exact hRW.drew
 have hDV0 : CellsAt V0 w.heap.size 33 (dotC a s) := by rw [← hV0]; exact hDW
 refine wp_region_gate (fun w' => w'.cell? ⟨w.heap.size, 0, none⟩ = some (.int .u8 a) ∧ w'.cell? ⟨w.heap.size, 1, none⟩ = some (.int .u32 s)) 13 (by kernel_rfl) ?_
 rw [hV0]
 clear hV0 hBW hRW hDW W
 have HS : ∀ W' : World, CellsAt W' w.heap.size 33 (dotC a s) → (fun w' : World => w'.cell? ⟨w.heap.size, 0, none⟩ = some (.int .u8 a) ∧ w'.cell? ⟨w.heap.size, 1, none⟩ = some (.int .u32 s)) W' := fun W' h => ⟨h.cell 0, h.cell 1⟩
 have hS := HS V0 hDV0
 have hNLl : (wrapNL f t a s).length = 12 := rfl
 obtain ⟨NL, hNL⟩ : ∃ q, wrapNL f t a s = q := ⟨_, rfl⟩
 rw [hNL] at hNLl
 refine gaA 0 _ hS ?_
 simp only [Act.put, gA, gS, gZ, sI, sZ, sS]
 refine gaA 1 _ hS ?_
 simp only [Act.put, gA, gS, gZ, sI, sZ, sS]
 refine gaA 2 _ hS ?_
 simp only [Act.put, gA, gS, gZ, sI, sZ, sS]
 refine grA 3 _ hS ?_
 simp only [Act.put, gA, gS, gZ, sI, sZ, sS]
 refine gaA 5 _ hS ?_
 simp only [Act.put, gA, gS, gZ, sI, sZ, sS]
 refine grA 6 _ hS ?_
 simp only [Act.put, gA, gS, gZ, sI, sZ, sS]
 refine wpAnyG_three (i := 4) (j := 7) (l := 8) rfl rfl rfl (by kernel_rfl) (by kernel_rfl) (by kernel_rfl) (by kernel_rfl) (fun K hK => ?_) (fun K hK => ?_) (fun K hK => ?_)
 · skip
   refine wp_buildSlice 74 5 4 _ rfl (row .u8 [f, t, a, 0]) iu _ Tryz.underlying74 hiu huz (by rw [hus]; decide) (by rw [hus]; decide) (by rw [hus]; kernel_rfl) ?_
   have hNV5 := newB V0 [f, t, a, 0] 4 rfl (by simp [bE4])
   have hBV5 := hBV0.alloc hBV0.size (.cells (row .u8 [f, t, a, 0]) 5)
   have hRV5 := hRV0.alloc (.cells (row .u8 [f, t, a, 0]) 5)
   have hDV5 := hDV0.alloc (.cells (row .u8 [f, t, a, 0]) 5)
   replace hS := HS _ hDV5
   refine hK.out _ _ (fun _ => hS) ?_
   clear hK K
   try simp only [Act.put, gA, gS, gZ, sI, sZ, sS]
   obtain ⟨V5, hV5⟩ : ∃ q, V0.alloc (.cells (row .u8 [f, t, a, 0]) 5) = q := ⟨_, rfl⟩
   obtain ⟨g5, hg5⟩ : ∃ q, V0.heap.size = q := ⟨_, rfl⟩
   rw [hV5] at hNV5 hBV5 hRV5 hDV5 ⊢
   rw [hg5] at hNV5 ⊢
   clear hV5 hg5 hBV0 hRV0 hDV0
   have hN4_V5 := hNV5
   clear hNV5
   refine wpAnyG_two (i := 7) (j := 8) rfl rfl (by kernel_rfl) (by kernel_rfl) (by kernel_rfl) (fun K hK => ?_) (fun K hK => ?_)
   · skip
     refine wpx_call _ _ (by kernel_rfl) ((kfour_any s _).mono ?_)
     rintro e wy ⟨rfl, rfl⟩
     refine ⟨_, rfl, ?_⟩
     have hNV6 := newB V5 (bE4 s) 4 rfl (by simp [bE4])
     have hBV6 := hBV5.alloc hBV5.size (.cells (row .u8 (bE4 s)) 5)
     have hRV6 := hRV5.alloc (.cells (row .u8 (bE4 s)) 5)
     have hN4_V6 := hN4_V5.below ((Below.refl _ _).alloc (Nat.le_refl _) (.cells (row .u8 (bE4 s)) 5))
     have hDV6 := hDV5.alloc (.cells (row .u8 (bE4 s)) 5)
     replace hS := HS _ hDV6
     refine hK.out _ _ (fun _ => hS) ?_
     clear hK K
     try simp only [Act.put, gA, gS, gZ, sI, sZ, sS]
     obtain ⟨V6, hV6⟩ : ∃ q, V5.alloc (.cells (row .u8 (bE4 s)) 5) = q := ⟨_, rfl⟩
     obtain ⟨g6, hg6⟩ : ∃ q, V5.heap.size = q := ⟨_, rfl⟩
     rw [hV6] at hNV6 hBV6 hRV6 hN4_V6 hDV6 ⊢
     rw [hg6] at hNV6 ⊢
     clear hV6 hg6 hBV5 hRV5 hDV5 hN4_V5
     have hN7_V6 := hNV6
     clear hNV6
     refine wpAnyG_one (i := 8) rfl (by kernel_rfl) (by kernel_rfl) (fun K hK => ?_)
     refine wpx_make _ _ _ rfl _ _ _ _ rfl rfl (run_make4 _) ?_
     have hNV7 := newB V6 [0, 0, 0, 0] 4 rfl (by simp [bE4])
     have hBV7 := hBV6.alloc hBV6.size (.cells (row .u8 [0, 0, 0, 0]) 5)
     have hRV7 := hRV6.alloc (.cells (row .u8 [0, 0, 0, 0]) 5)
     have hN4_V7 := hN4_V6.below ((Below.refl _ _).alloc (Nat.le_refl _) (.cells (row .u8 [0, 0, 0, 0]) 5))
     have hN7_V7 := hN7_V6.below ((Below.refl _ _).alloc (Nat.le_refl _) (.cells (row .u8 [0, 0, 0, 0]) 5))
     have hDV7 := hDV6.alloc (.cells (row .u8 [0, 0, 0, 0]) 5)
     replace hS := HS _ hDV7
     refine hK.out _ _ (fun _ => hS) ?_
     clear hK K
     try simp only [Act.put, gA, gS, gZ, sI, sZ, sS]
     obtain ⟨V7, hV7⟩ : ∃ q, V6.alloc (.cells (row .u8 [0, 0, 0, 0]) 5) = q := ⟨_, rfl⟩
     obtain ⟨g7, hg7⟩ : ∃ q, V6.heap.size = q := ⟨_, rfl⟩
     rw [hV7] at hNV7 hBV7 hRV7 hN4_V7 hN7_V7 hDV7 ⊢
     rw [hg7] at hNV7 ⊢
     clear hV7 hg7 hBV6 hRV6 hDV6 hN4_V6 hN7_V6
     have hN8_V7 := hNV7
     clear hNV7
     refine wpAnyG_one (i := 9) rfl (by kernel_rfl) (by kernel_rfl) (fun K hK => ?_)
     refine wp_buildSlice 96 74 3 _ rfl #[.slice (some ⟨g5, 0, none⟩) 4 4, .slice (some ⟨g6, 0, none⟩) 4 4, .slice (some ⟨g7, 0, none⟩) 4 4] iw _ Tryz.underlying96 hiw hwz (by rw [hws2]; decide) (by rw [hws2]; decide) (by rw [hws2]; kernel_rfl) ?_
     have hP := partsNew V7 [⟨some ⟨g5, 0, none⟩, 4, 4, [f, t, a, 0]⟩, ⟨some ⟨g6, 0, none⟩, 4, 4, (bE4 s)⟩, ⟨some ⟨g7, 0, none⟩, 4, 4, [0, 0, 0, 0]⟩] (fun p hp => by
      simp only [List.mem_cons, List.not_mem_nil, or_false] at hp
      rcases hp with rfl | rfl | rfl
      · exact hN4_V7
      · exact hN7_V7
      · exact hN8_V7)
     have hBP := hBV7.alloc hBV7.size (.cells #[.slice (some ⟨g5, 0, none⟩) 4 4, .slice (some ⟨g6, 0, none⟩) 4 4, .slice (some ⟨g7, 0, none⟩) 4 4] 74)
     have hRP := hRV7.alloc (.cells #[.slice (some ⟨g5, 0, none⟩) 4 4, .slice (some ⟨g6, 0, none⟩) 4 4, .slice (some ⟨g7, 0, none⟩) 4 4] 74)
     have hDP := hDV7.alloc (.cells #[.slice (some ⟨g5, 0, none⟩) 4 4, .slice (some ⟨g6, 0, none⟩) 4 4, .slice (some ⟨g7, 0, none⟩) 4 4] 74)
     replace hS := HS _ hDP
     refine hK.out _ _ (fun _ => hS) ?_
     clear hK K
     try simp only [Act.put, gA, gS, gZ, sI, sZ, sS]
     refine wpAnyG_one (i := 10) rfl (by kernel_rfl) (by kernel_rfl) (fun K hK => ?_)
     have hj := kjoined_any V7.heap.size 3 [⟨some ⟨g5, 0, none⟩, 4, 4, [f, t, a, 0]⟩, ⟨some ⟨g6, 0, none⟩, 4, 4, (bE4 s)⟩, ⟨some ⟨g7, 0, none⟩, 4, 4, [0, 0, 0, 0]⟩] _ hP rfl (by omega) (by simp [sumN, allZ, bE4])
     rw [show allZ [⟨some ⟨g5, 0, none⟩, 4, 4, [f, t, a, 0]⟩, ⟨some ⟨g6, 0, none⟩, 4, 4, (bE4 s)⟩, ⟨some ⟨g7, 0, none⟩, 4, 4, [0, 0, 0, 0]⟩] = wrapNL f t a s from rfl, hNL] at hj
     refine wpx_call _ _ (by kernel_rfl) (hj.mono ?_)
     rintro e WJ ⟨vj, rfl, hoj, hbj⟩
     refine ⟨_, rfl, ?_⟩
     have hBJ := hBP.trans (hbj.mono hBP.size)
     have hRJ := hRP.below hbj hRP.lt
     obtain ⟨gj, cj, rfl, hgj⟩ := hoj.slice (by rw [hNLl]; omega)
     have hrg := hoj.bytes.2.rangeK
     have hDJ := hDP.congr (hbj.block _ hDP.lt)
     replace hS := HS _ hDJ
     refine hK.out _ _ (fun _ => hS) ?_
     clear hK K
     try simp only [Act.put, gA, gS, gZ, sI, sZ, sS]
     refine wpAnyG_one (i := 11) rfl (by kernel_rfl) (by kernel_rfl) (fun K hK => ?_)
     refine wpx_arr _ _ rfl _ _ _ rfl (run_arrayAk Tryz.underlying78 _ _ _ (by rw [hNLl]; exact Nat.le_refl _) _) ?_
     refine hK.out _ _ (fun _ => hS) ?_
     clear hK K
     try simp only [Act.put, gA, gS, gZ, sI, sZ, sS]
     refine wpAnyG_one (i := 12) rfl (by kernel_rfl) (by kernel_rfl) (fun K hK => ?_)
     refine wp_load_mid 78 _ rfl gj 0 rfl _ _ hrg Tryz.underlying78 rfl (by rw [List.length_map, hNLl]; exact sizeNonceD) ?_
     refine hK.out _ _ (fun _ => hS) ?_
     clear hK K
     try simp only [Act.put, gA, gS, gZ, sI, sZ, sS]
     refine wpAnyG_one (i := 13) rfl (by kernel_rfl) (by kernel_rfl) (fun K hK => ?_)
     refine wp_stG 78 _ _ rfl _ rfl (k := .u8) (l := NL) rfl hRJ (by rw [hNLl]; exact sizeNonceD) (by rw [hZl, hNLl]) ?_
     refine hK.out _ _ (fun h => absurd (show true = false from h) (by decide)) ?_
     clear hK K
     try simp only [Act.put, gA, gS, gZ, sI, sZ, sS]
     refine wpAnyG_done (by kernel_rfl) ?_ _
     go_wp2_with fail
     refine bodyPost_ret (results_holds (Tryz.results38) _ rfl (hRJ.setRow _) Tryz.underlying78 sizeNonceD hNLl) rfl ⟨by rw [← hNL], ?_⟩
     exact below_setRow hBJ (by omega) _
   · skip
     refine wpx_make _ _ _ rfl _ _ _ _ rfl rfl (run_make4 _) ?_
     have hNV8 := newB V5 [0, 0, 0, 0] 4 rfl (by simp [bE4])
     have hBV8 := hBV5.alloc hBV5.size (.cells (row .u8 [0, 0, 0, 0]) 5)
     have hRV8 := hRV5.alloc (.cells (row .u8 [0, 0, 0, 0]) 5)
     have hN4_V8 := hN4_V5.below ((Below.refl _ _).alloc (Nat.le_refl _) (.cells (row .u8 [0, 0, 0, 0]) 5))
     have hDV8 := hDV5.alloc (.cells (row .u8 [0, 0, 0, 0]) 5)
     replace hS := HS _ hDV8
     refine hK.out _ _ (fun _ => hS) ?_
     clear hK K
     try simp only [Act.put, gA, gS, gZ, sI, sZ, sS]
     obtain ⟨V8, hV8⟩ : ∃ q, V5.alloc (.cells (row .u8 [0, 0, 0, 0]) 5) = q := ⟨_, rfl⟩
     obtain ⟨g8, hg8⟩ : ∃ q, V5.heap.size = q := ⟨_, rfl⟩
     rw [hV8] at hNV8 hBV8 hRV8 hN4_V8 hDV8 ⊢
     rw [hg8] at hNV8 ⊢
     clear hV8 hg8 hBV5 hRV5 hDV5 hN4_V5
     have hN8_V8 := hNV8
     clear hNV8
     refine wpAnyG_one (i := 7) rfl (by kernel_rfl) (by kernel_rfl) (fun K hK => ?_)
     refine wpx_call _ _ (by kernel_rfl) ((kfour_any s _).mono ?_)
     rintro e wy ⟨rfl, rfl⟩
     refine ⟨_, rfl, ?_⟩
     have hNV9 := newB V8 (bE4 s) 4 rfl (by simp [bE4])
     have hBV9 := hBV8.alloc hBV8.size (.cells (row .u8 (bE4 s)) 5)
     have hRV9 := hRV8.alloc (.cells (row .u8 (bE4 s)) 5)
     have hN4_V9 := hN4_V8.below ((Below.refl _ _).alloc (Nat.le_refl _) (.cells (row .u8 (bE4 s)) 5))
     have hN8_V9 := hN8_V8.below ((Below.refl _ _).alloc (Nat.le_refl _) (.cells (row .u8 (bE4 s)) 5))
     have hDV9 := hDV8.alloc (.cells (row .u8 (bE4 s)) 5)
     replace hS := HS _ hDV9
     refine hK.out _ _ (fun _ => hS) ?_
     clear hK K
     try simp only [Act.put, gA, gS, gZ, sI, sZ, sS]
     obtain ⟨V9, hV9⟩ : ∃ q, V8.alloc (.cells (row .u8 (bE4 s)) 5) = q := ⟨_, rfl⟩
     obtain ⟨g9, hg9⟩ : ∃ q, V8.heap.size = q := ⟨_, rfl⟩
     rw [hV9] at hNV9 hBV9 hRV9 hN4_V9 hN8_V9 hDV9 ⊢
     rw [hg9] at hNV9 ⊢
     clear hV9 hg9 hBV8 hRV8 hDV8 hN4_V8 hN8_V8
     have hN7_V9 := hNV9
     clear hNV9
     refine wpAnyG_one (i := 9) rfl (by kernel_rfl) (by kernel_rfl) (fun K hK => ?_)
     refine wp_buildSlice 96 74 3 _ rfl #[.slice (some ⟨g5, 0, none⟩) 4 4, .slice (some ⟨g9, 0, none⟩) 4 4, .slice (some ⟨g8, 0, none⟩) 4 4] iw _ Tryz.underlying96 hiw hwz (by rw [hws2]; decide) (by rw [hws2]; decide) (by rw [hws2]; kernel_rfl) ?_
     have hP := partsNew V9 [⟨some ⟨g5, 0, none⟩, 4, 4, [f, t, a, 0]⟩, ⟨some ⟨g9, 0, none⟩, 4, 4, (bE4 s)⟩, ⟨some ⟨g8, 0, none⟩, 4, 4, [0, 0, 0, 0]⟩] (fun p hp => by
      simp only [List.mem_cons, List.not_mem_nil, or_false] at hp
      rcases hp with rfl | rfl | rfl
      · exact hN4_V9
      · exact hN7_V9
      · exact hN8_V9)
     have hBP := hBV9.alloc hBV9.size (.cells #[.slice (some ⟨g5, 0, none⟩) 4 4, .slice (some ⟨g9, 0, none⟩) 4 4, .slice (some ⟨g8, 0, none⟩) 4 4] 74)
     have hRP := hRV9.alloc (.cells #[.slice (some ⟨g5, 0, none⟩) 4 4, .slice (some ⟨g9, 0, none⟩) 4 4, .slice (some ⟨g8, 0, none⟩) 4 4] 74)
     have hDP := hDV9.alloc (.cells #[.slice (some ⟨g5, 0, none⟩) 4 4, .slice (some ⟨g9, 0, none⟩) 4 4, .slice (some ⟨g8, 0, none⟩) 4 4] 74)
     replace hS := HS _ hDP
     refine hK.out _ _ (fun _ => hS) ?_
     clear hK K
     try simp only [Act.put, gA, gS, gZ, sI, sZ, sS]
     refine wpAnyG_one (i := 10) rfl (by kernel_rfl) (by kernel_rfl) (fun K hK => ?_)
     have hj := kjoined_any V9.heap.size 3 [⟨some ⟨g5, 0, none⟩, 4, 4, [f, t, a, 0]⟩, ⟨some ⟨g9, 0, none⟩, 4, 4, (bE4 s)⟩, ⟨some ⟨g8, 0, none⟩, 4, 4, [0, 0, 0, 0]⟩] _ hP rfl (by omega) (by simp [sumN, allZ, bE4])
     rw [show allZ [⟨some ⟨g5, 0, none⟩, 4, 4, [f, t, a, 0]⟩, ⟨some ⟨g9, 0, none⟩, 4, 4, (bE4 s)⟩, ⟨some ⟨g8, 0, none⟩, 4, 4, [0, 0, 0, 0]⟩] = wrapNL f t a s from rfl, hNL] at hj
     refine wpx_call _ _ (by kernel_rfl) (hj.mono ?_)
     rintro e WJ ⟨vj, rfl, hoj, hbj⟩
     refine ⟨_, rfl, ?_⟩
     have hBJ := hBP.trans (hbj.mono hBP.size)
     have hRJ := hRP.below hbj hRP.lt
     obtain ⟨gj, cj, rfl, hgj⟩ := hoj.slice (by rw [hNLl]; omega)
     have hrg := hoj.bytes.2.rangeK
     have hDJ := hDP.congr (hbj.block _ hDP.lt)
     replace hS := HS _ hDJ
     refine hK.out _ _ (fun _ => hS) ?_
     clear hK K
     try simp only [Act.put, gA, gS, gZ, sI, sZ, sS]
     refine wpAnyG_one (i := 11) rfl (by kernel_rfl) (by kernel_rfl) (fun K hK => ?_)
     refine wpx_arr _ _ rfl _ _ _ rfl (run_arrayAk Tryz.underlying78 _ _ _ (by rw [hNLl]; exact Nat.le_refl _) _) ?_
     refine hK.out _ _ (fun _ => hS) ?_
     clear hK K
     try simp only [Act.put, gA, gS, gZ, sI, sZ, sS]
     refine wpAnyG_one (i := 12) rfl (by kernel_rfl) (by kernel_rfl) (fun K hK => ?_)
     refine wp_load_mid 78 _ rfl gj 0 rfl _ _ hrg Tryz.underlying78 rfl (by rw [List.length_map, hNLl]; exact sizeNonceD) ?_
     refine hK.out _ _ (fun _ => hS) ?_
     clear hK K
     try simp only [Act.put, gA, gS, gZ, sI, sZ, sS]
     refine wpAnyG_one (i := 13) rfl (by kernel_rfl) (by kernel_rfl) (fun K hK => ?_)
     refine wp_stG 78 _ _ rfl _ rfl (k := .u8) (l := NL) rfl hRJ (by rw [hNLl]; exact sizeNonceD) (by rw [hZl, hNLl]) ?_
     refine hK.out _ _ (fun h => absurd (show true = false from h) (by decide)) ?_
     clear hK K
     try simp only [Act.put, gA, gS, gZ, sI, sZ, sS]
     refine wpAnyG_done (by kernel_rfl) ?_ _
     go_wp2_with fail
     refine bodyPost_ret (results_holds (Tryz.results38) _ rfl (hRJ.setRow _) Tryz.underlying78 sizeNonceD hNLl) rfl ⟨by rw [← hNL], ?_⟩
     exact below_setRow hBJ (by omega) _
 · skip
   refine wpx_call _ _ (by kernel_rfl) ((kfour_any s _).mono ?_)
   rintro e wy ⟨rfl, rfl⟩
   refine ⟨_, rfl, ?_⟩
   have hNV10 := newB V0 (bE4 s) 4 rfl (by simp [bE4])
   have hBV10 := hBV0.alloc hBV0.size (.cells (row .u8 (bE4 s)) 5)
   have hRV10 := hRV0.alloc (.cells (row .u8 (bE4 s)) 5)
   have hDV10 := hDV0.alloc (.cells (row .u8 (bE4 s)) 5)
   replace hS := HS _ hDV10
   refine hK.out _ _ (fun _ => hS) ?_
   clear hK K
   try simp only [Act.put, gA, gS, gZ, sI, sZ, sS]
   obtain ⟨V10, hV10⟩ : ∃ q, V0.alloc (.cells (row .u8 (bE4 s)) 5) = q := ⟨_, rfl⟩
   obtain ⟨g10, hg10⟩ : ∃ q, V0.heap.size = q := ⟨_, rfl⟩
   rw [hV10] at hNV10 hBV10 hRV10 hDV10 ⊢
   rw [hg10] at hNV10 ⊢
   clear hV10 hg10 hBV0 hRV0 hDV0
   have hN7_V10 := hNV10
   clear hNV10
   refine wpAnyG_two (i := 4) (j := 8) rfl rfl (by kernel_rfl) (by kernel_rfl) (by kernel_rfl) (fun K hK => ?_) (fun K hK => ?_)
   · skip
     refine wp_buildSlice 74 5 4 _ rfl (row .u8 [f, t, a, 0]) iu _ Tryz.underlying74 hiu huz (by rw [hus]; decide) (by rw [hus]; decide) (by rw [hus]; kernel_rfl) ?_
     have hNV11 := newB V10 [f, t, a, 0] 4 rfl (by simp [bE4])
     have hBV11 := hBV10.alloc hBV10.size (.cells (row .u8 [f, t, a, 0]) 5)
     have hRV11 := hRV10.alloc (.cells (row .u8 [f, t, a, 0]) 5)
     have hN7_V11 := hN7_V10.below ((Below.refl _ _).alloc (Nat.le_refl _) (.cells (row .u8 [f, t, a, 0]) 5))
     have hDV11 := hDV10.alloc (.cells (row .u8 [f, t, a, 0]) 5)
     replace hS := HS _ hDV11
     refine hK.out _ _ (fun _ => hS) ?_
     clear hK K
     try simp only [Act.put, gA, gS, gZ, sI, sZ, sS]
     obtain ⟨V11, hV11⟩ : ∃ q, V10.alloc (.cells (row .u8 [f, t, a, 0]) 5) = q := ⟨_, rfl⟩
     obtain ⟨g11, hg11⟩ : ∃ q, V10.heap.size = q := ⟨_, rfl⟩
     rw [hV11] at hNV11 hBV11 hRV11 hN7_V11 hDV11 ⊢
     rw [hg11] at hNV11 ⊢
     clear hV11 hg11 hBV10 hRV10 hDV10 hN7_V10
     have hN4_V11 := hNV11
     clear hNV11
     refine wpAnyG_one (i := 8) rfl (by kernel_rfl) (by kernel_rfl) (fun K hK => ?_)
     refine wpx_make _ _ _ rfl _ _ _ _ rfl rfl (run_make4 _) ?_
     have hNV12 := newB V11 [0, 0, 0, 0] 4 rfl (by simp [bE4])
     have hBV12 := hBV11.alloc hBV11.size (.cells (row .u8 [0, 0, 0, 0]) 5)
     have hRV12 := hRV11.alloc (.cells (row .u8 [0, 0, 0, 0]) 5)
     have hN7_V12 := hN7_V11.below ((Below.refl _ _).alloc (Nat.le_refl _) (.cells (row .u8 [0, 0, 0, 0]) 5))
     have hN4_V12 := hN4_V11.below ((Below.refl _ _).alloc (Nat.le_refl _) (.cells (row .u8 [0, 0, 0, 0]) 5))
     have hDV12 := hDV11.alloc (.cells (row .u8 [0, 0, 0, 0]) 5)
     replace hS := HS _ hDV12
     refine hK.out _ _ (fun _ => hS) ?_
     clear hK K
     try simp only [Act.put, gA, gS, gZ, sI, sZ, sS]
     obtain ⟨V12, hV12⟩ : ∃ q, V11.alloc (.cells (row .u8 [0, 0, 0, 0]) 5) = q := ⟨_, rfl⟩
     obtain ⟨g12, hg12⟩ : ∃ q, V11.heap.size = q := ⟨_, rfl⟩
     rw [hV12] at hNV12 hBV12 hRV12 hN7_V12 hN4_V12 hDV12 ⊢
     rw [hg12] at hNV12 ⊢
     clear hV12 hg12 hBV11 hRV11 hDV11 hN7_V11 hN4_V11
     have hN8_V12 := hNV12
     clear hNV12
     refine wpAnyG_one (i := 9) rfl (by kernel_rfl) (by kernel_rfl) (fun K hK => ?_)
     refine wp_buildSlice 96 74 3 _ rfl #[.slice (some ⟨g11, 0, none⟩) 4 4, .slice (some ⟨g10, 0, none⟩) 4 4, .slice (some ⟨g12, 0, none⟩) 4 4] iw _ Tryz.underlying96 hiw hwz (by rw [hws2]; decide) (by rw [hws2]; decide) (by rw [hws2]; kernel_rfl) ?_
     have hP := partsNew V12 [⟨some ⟨g11, 0, none⟩, 4, 4, [f, t, a, 0]⟩, ⟨some ⟨g10, 0, none⟩, 4, 4, (bE4 s)⟩, ⟨some ⟨g12, 0, none⟩, 4, 4, [0, 0, 0, 0]⟩] (fun p hp => by
      simp only [List.mem_cons, List.not_mem_nil, or_false] at hp
      rcases hp with rfl | rfl | rfl
      · exact hN4_V12
      · exact hN7_V12
      · exact hN8_V12)
     have hBP := hBV12.alloc hBV12.size (.cells #[.slice (some ⟨g11, 0, none⟩) 4 4, .slice (some ⟨g10, 0, none⟩) 4 4, .slice (some ⟨g12, 0, none⟩) 4 4] 74)
     have hRP := hRV12.alloc (.cells #[.slice (some ⟨g11, 0, none⟩) 4 4, .slice (some ⟨g10, 0, none⟩) 4 4, .slice (some ⟨g12, 0, none⟩) 4 4] 74)
     have hDP := hDV12.alloc (.cells #[.slice (some ⟨g11, 0, none⟩) 4 4, .slice (some ⟨g10, 0, none⟩) 4 4, .slice (some ⟨g12, 0, none⟩) 4 4] 74)
     replace hS := HS _ hDP
     refine hK.out _ _ (fun _ => hS) ?_
     clear hK K
     try simp only [Act.put, gA, gS, gZ, sI, sZ, sS]
     refine wpAnyG_one (i := 10) rfl (by kernel_rfl) (by kernel_rfl) (fun K hK => ?_)
     have hj := kjoined_any V12.heap.size 3 [⟨some ⟨g11, 0, none⟩, 4, 4, [f, t, a, 0]⟩, ⟨some ⟨g10, 0, none⟩, 4, 4, (bE4 s)⟩, ⟨some ⟨g12, 0, none⟩, 4, 4, [0, 0, 0, 0]⟩] _ hP rfl (by omega) (by simp [sumN, allZ, bE4])
     rw [show allZ [⟨some ⟨g11, 0, none⟩, 4, 4, [f, t, a, 0]⟩, ⟨some ⟨g10, 0, none⟩, 4, 4, (bE4 s)⟩, ⟨some ⟨g12, 0, none⟩, 4, 4, [0, 0, 0, 0]⟩] = wrapNL f t a s from rfl, hNL] at hj
     refine wpx_call _ _ (by kernel_rfl) (hj.mono ?_)
     rintro e WJ ⟨vj, rfl, hoj, hbj⟩
     refine ⟨_, rfl, ?_⟩
     have hBJ := hBP.trans (hbj.mono hBP.size)
     have hRJ := hRP.below hbj hRP.lt
     obtain ⟨gj, cj, rfl, hgj⟩ := hoj.slice (by rw [hNLl]; omega)
     have hrg := hoj.bytes.2.rangeK
     have hDJ := hDP.congr (hbj.block _ hDP.lt)
     replace hS := HS _ hDJ
     refine hK.out _ _ (fun _ => hS) ?_
     clear hK K
     try simp only [Act.put, gA, gS, gZ, sI, sZ, sS]
     refine wpAnyG_one (i := 11) rfl (by kernel_rfl) (by kernel_rfl) (fun K hK => ?_)
     refine wpx_arr _ _ rfl _ _ _ rfl (run_arrayAk Tryz.underlying78 _ _ _ (by rw [hNLl]; exact Nat.le_refl _) _) ?_
     refine hK.out _ _ (fun _ => hS) ?_
     clear hK K
     try simp only [Act.put, gA, gS, gZ, sI, sZ, sS]
     refine wpAnyG_one (i := 12) rfl (by kernel_rfl) (by kernel_rfl) (fun K hK => ?_)
     refine wp_load_mid 78 _ rfl gj 0 rfl _ _ hrg Tryz.underlying78 rfl (by rw [List.length_map, hNLl]; exact sizeNonceD) ?_
     refine hK.out _ _ (fun _ => hS) ?_
     clear hK K
     try simp only [Act.put, gA, gS, gZ, sI, sZ, sS]
     refine wpAnyG_one (i := 13) rfl (by kernel_rfl) (by kernel_rfl) (fun K hK => ?_)
     refine wp_stG 78 _ _ rfl _ rfl (k := .u8) (l := NL) rfl hRJ (by rw [hNLl]; exact sizeNonceD) (by rw [hZl, hNLl]) ?_
     refine hK.out _ _ (fun h => absurd (show true = false from h) (by decide)) ?_
     clear hK K
     try simp only [Act.put, gA, gS, gZ, sI, sZ, sS]
     refine wpAnyG_done (by kernel_rfl) ?_ _
     go_wp2_with fail
     refine bodyPost_ret (results_holds (Tryz.results38) _ rfl (hRJ.setRow _) Tryz.underlying78 sizeNonceD hNLl) rfl ⟨by rw [← hNL], ?_⟩
     exact below_setRow hBJ (by omega) _
   · skip
     refine wpx_make _ _ _ rfl _ _ _ _ rfl rfl (run_make4 _) ?_
     have hNV13 := newB V10 [0, 0, 0, 0] 4 rfl (by simp [bE4])
     have hBV13 := hBV10.alloc hBV10.size (.cells (row .u8 [0, 0, 0, 0]) 5)
     have hRV13 := hRV10.alloc (.cells (row .u8 [0, 0, 0, 0]) 5)
     have hN7_V13 := hN7_V10.below ((Below.refl _ _).alloc (Nat.le_refl _) (.cells (row .u8 [0, 0, 0, 0]) 5))
     have hDV13 := hDV10.alloc (.cells (row .u8 [0, 0, 0, 0]) 5)
     replace hS := HS _ hDV13
     refine hK.out _ _ (fun _ => hS) ?_
     clear hK K
     try simp only [Act.put, gA, gS, gZ, sI, sZ, sS]
     obtain ⟨V13, hV13⟩ : ∃ q, V10.alloc (.cells (row .u8 [0, 0, 0, 0]) 5) = q := ⟨_, rfl⟩
     obtain ⟨g13, hg13⟩ : ∃ q, V10.heap.size = q := ⟨_, rfl⟩
     rw [hV13] at hNV13 hBV13 hRV13 hN7_V13 hDV13 ⊢
     rw [hg13] at hNV13 ⊢
     clear hV13 hg13 hBV10 hRV10 hDV10 hN7_V10
     have hN8_V13 := hNV13
     clear hNV13
     refine wpAnyG_one (i := 4) rfl (by kernel_rfl) (by kernel_rfl) (fun K hK => ?_)
     refine wp_buildSlice 74 5 4 _ rfl (row .u8 [f, t, a, 0]) iu _ Tryz.underlying74 hiu huz (by rw [hus]; decide) (by rw [hus]; decide) (by rw [hus]; kernel_rfl) ?_
     have hNV14 := newB V13 [f, t, a, 0] 4 rfl (by simp [bE4])
     have hBV14 := hBV13.alloc hBV13.size (.cells (row .u8 [f, t, a, 0]) 5)
     have hRV14 := hRV13.alloc (.cells (row .u8 [f, t, a, 0]) 5)
     have hN7_V14 := hN7_V13.below ((Below.refl _ _).alloc (Nat.le_refl _) (.cells (row .u8 [f, t, a, 0]) 5))
     have hN8_V14 := hN8_V13.below ((Below.refl _ _).alloc (Nat.le_refl _) (.cells (row .u8 [f, t, a, 0]) 5))
     have hDV14 := hDV13.alloc (.cells (row .u8 [f, t, a, 0]) 5)
     replace hS := HS _ hDV14
     refine hK.out _ _ (fun _ => hS) ?_
     clear hK K
     try simp only [Act.put, gA, gS, gZ, sI, sZ, sS]
     obtain ⟨V14, hV14⟩ : ∃ q, V13.alloc (.cells (row .u8 [f, t, a, 0]) 5) = q := ⟨_, rfl⟩
     obtain ⟨g14, hg14⟩ : ∃ q, V13.heap.size = q := ⟨_, rfl⟩
     rw [hV14] at hNV14 hBV14 hRV14 hN7_V14 hN8_V14 hDV14 ⊢
     rw [hg14] at hNV14 ⊢
     clear hV14 hg14 hBV13 hRV13 hDV13 hN7_V13 hN8_V13
     have hN4_V14 := hNV14
     clear hNV14
     refine wpAnyG_one (i := 9) rfl (by kernel_rfl) (by kernel_rfl) (fun K hK => ?_)
     refine wp_buildSlice 96 74 3 _ rfl #[.slice (some ⟨g14, 0, none⟩) 4 4, .slice (some ⟨g10, 0, none⟩) 4 4, .slice (some ⟨g13, 0, none⟩) 4 4] iw _ Tryz.underlying96 hiw hwz (by rw [hws2]; decide) (by rw [hws2]; decide) (by rw [hws2]; kernel_rfl) ?_
     have hP := partsNew V14 [⟨some ⟨g14, 0, none⟩, 4, 4, [f, t, a, 0]⟩, ⟨some ⟨g10, 0, none⟩, 4, 4, (bE4 s)⟩, ⟨some ⟨g13, 0, none⟩, 4, 4, [0, 0, 0, 0]⟩] (fun p hp => by
      simp only [List.mem_cons, List.not_mem_nil, or_false] at hp
      rcases hp with rfl | rfl | rfl
      · exact hN4_V14
      · exact hN7_V14
      · exact hN8_V14)
     have hBP := hBV14.alloc hBV14.size (.cells #[.slice (some ⟨g14, 0, none⟩) 4 4, .slice (some ⟨g10, 0, none⟩) 4 4, .slice (some ⟨g13, 0, none⟩) 4 4] 74)
     have hRP := hRV14.alloc (.cells #[.slice (some ⟨g14, 0, none⟩) 4 4, .slice (some ⟨g10, 0, none⟩) 4 4, .slice (some ⟨g13, 0, none⟩) 4 4] 74)
     have hDP := hDV14.alloc (.cells #[.slice (some ⟨g14, 0, none⟩) 4 4, .slice (some ⟨g10, 0, none⟩) 4 4, .slice (some ⟨g13, 0, none⟩) 4 4] 74)
     replace hS := HS _ hDP
     refine hK.out _ _ (fun _ => hS) ?_
     clear hK K
     try simp only [Act.put, gA, gS, gZ, sI, sZ, sS]
     refine wpAnyG_one (i := 10) rfl (by kernel_rfl) (by kernel_rfl) (fun K hK => ?_)
     have hj := kjoined_any V14.heap.size 3 [⟨some ⟨g14, 0, none⟩, 4, 4, [f, t, a, 0]⟩, ⟨some ⟨g10, 0, none⟩, 4, 4, (bE4 s)⟩, ⟨some ⟨g13, 0, none⟩, 4, 4, [0, 0, 0, 0]⟩] _ hP rfl (by omega) (by simp [sumN, allZ, bE4])
     rw [show allZ [⟨some ⟨g14, 0, none⟩, 4, 4, [f, t, a, 0]⟩, ⟨some ⟨g10, 0, none⟩, 4, 4, (bE4 s)⟩, ⟨some ⟨g13, 0, none⟩, 4, 4, [0, 0, 0, 0]⟩] = wrapNL f t a s from rfl, hNL] at hj
     refine wpx_call _ _ (by kernel_rfl) (hj.mono ?_)
     rintro e WJ ⟨vj, rfl, hoj, hbj⟩
     refine ⟨_, rfl, ?_⟩
     have hBJ := hBP.trans (hbj.mono hBP.size)
     have hRJ := hRP.below hbj hRP.lt
     obtain ⟨gj, cj, rfl, hgj⟩ := hoj.slice (by rw [hNLl]; omega)
     have hrg := hoj.bytes.2.rangeK
     have hDJ := hDP.congr (hbj.block _ hDP.lt)
     replace hS := HS _ hDJ
     refine hK.out _ _ (fun _ => hS) ?_
     clear hK K
     try simp only [Act.put, gA, gS, gZ, sI, sZ, sS]
     refine wpAnyG_one (i := 11) rfl (by kernel_rfl) (by kernel_rfl) (fun K hK => ?_)
     refine wpx_arr _ _ rfl _ _ _ rfl (run_arrayAk Tryz.underlying78 _ _ _ (by rw [hNLl]; exact Nat.le_refl _) _) ?_
     refine hK.out _ _ (fun _ => hS) ?_
     clear hK K
     try simp only [Act.put, gA, gS, gZ, sI, sZ, sS]
     refine wpAnyG_one (i := 12) rfl (by kernel_rfl) (by kernel_rfl) (fun K hK => ?_)
     refine wp_load_mid 78 _ rfl gj 0 rfl _ _ hrg Tryz.underlying78 rfl (by rw [List.length_map, hNLl]; exact sizeNonceD) ?_
     refine hK.out _ _ (fun _ => hS) ?_
     clear hK K
     try simp only [Act.put, gA, gS, gZ, sI, sZ, sS]
     refine wpAnyG_one (i := 13) rfl (by kernel_rfl) (by kernel_rfl) (fun K hK => ?_)
     refine wp_stG 78 _ _ rfl _ rfl (k := .u8) (l := NL) rfl hRJ (by rw [hNLl]; exact sizeNonceD) (by rw [hZl, hNLl]) ?_
     refine hK.out _ _ (fun h => absurd (show true = false from h) (by decide)) ?_
     clear hK K
     try simp only [Act.put, gA, gS, gZ, sI, sZ, sS]
     refine wpAnyG_done (by kernel_rfl) ?_ _
     go_wp2_with fail
     refine bodyPost_ret (results_holds (Tryz.results38) _ rfl (hRJ.setRow _) Tryz.underlying78 sizeNonceD hNLl) rfl ⟨by rw [← hNL], ?_⟩
     exact below_setRow hBJ (by omega) _
 · skip
   refine wpx_make _ _ _ rfl _ _ _ _ rfl rfl (run_make4 _) ?_
   have hNV15 := newB V0 [0, 0, 0, 0] 4 rfl (by simp [bE4])
   have hBV15 := hBV0.alloc hBV0.size (.cells (row .u8 [0, 0, 0, 0]) 5)
   have hRV15 := hRV0.alloc (.cells (row .u8 [0, 0, 0, 0]) 5)
   have hDV15 := hDV0.alloc (.cells (row .u8 [0, 0, 0, 0]) 5)
   replace hS := HS _ hDV15
   refine hK.out _ _ (fun _ => hS) ?_
   clear hK K
   try simp only [Act.put, gA, gS, gZ, sI, sZ, sS]
   obtain ⟨V15, hV15⟩ : ∃ q, V0.alloc (.cells (row .u8 [0, 0, 0, 0]) 5) = q := ⟨_, rfl⟩
   obtain ⟨g15, hg15⟩ : ∃ q, V0.heap.size = q := ⟨_, rfl⟩
   rw [hV15] at hNV15 hBV15 hRV15 hDV15 ⊢
   rw [hg15] at hNV15 ⊢
   clear hV15 hg15 hBV0 hRV0 hDV0
   have hN8_V15 := hNV15
   clear hNV15
   refine wpAnyG_two (i := 4) (j := 7) rfl rfl (by kernel_rfl) (by kernel_rfl) (by kernel_rfl) (fun K hK => ?_) (fun K hK => ?_)
   · skip
     refine wp_buildSlice 74 5 4 _ rfl (row .u8 [f, t, a, 0]) iu _ Tryz.underlying74 hiu huz (by rw [hus]; decide) (by rw [hus]; decide) (by rw [hus]; kernel_rfl) ?_
     have hNV16 := newB V15 [f, t, a, 0] 4 rfl (by simp [bE4])
     have hBV16 := hBV15.alloc hBV15.size (.cells (row .u8 [f, t, a, 0]) 5)
     have hRV16 := hRV15.alloc (.cells (row .u8 [f, t, a, 0]) 5)
     have hN8_V16 := hN8_V15.below ((Below.refl _ _).alloc (Nat.le_refl _) (.cells (row .u8 [f, t, a, 0]) 5))
     have hDV16 := hDV15.alloc (.cells (row .u8 [f, t, a, 0]) 5)
     replace hS := HS _ hDV16
     refine hK.out _ _ (fun _ => hS) ?_
     clear hK K
     try simp only [Act.put, gA, gS, gZ, sI, sZ, sS]
     obtain ⟨V16, hV16⟩ : ∃ q, V15.alloc (.cells (row .u8 [f, t, a, 0]) 5) = q := ⟨_, rfl⟩
     obtain ⟨g16, hg16⟩ : ∃ q, V15.heap.size = q := ⟨_, rfl⟩
     rw [hV16] at hNV16 hBV16 hRV16 hN8_V16 hDV16 ⊢
     rw [hg16] at hNV16 ⊢
     clear hV16 hg16 hBV15 hRV15 hDV15 hN8_V15
     have hN4_V16 := hNV16
     clear hNV16
     refine wpAnyG_one (i := 7) rfl (by kernel_rfl) (by kernel_rfl) (fun K hK => ?_)
     refine wpx_call _ _ (by kernel_rfl) ((kfour_any s _).mono ?_)
     rintro e wy ⟨rfl, rfl⟩
     refine ⟨_, rfl, ?_⟩
     have hNV17 := newB V16 (bE4 s) 4 rfl (by simp [bE4])
     have hBV17 := hBV16.alloc hBV16.size (.cells (row .u8 (bE4 s)) 5)
     have hRV17 := hRV16.alloc (.cells (row .u8 (bE4 s)) 5)
     have hN8_V17 := hN8_V16.below ((Below.refl _ _).alloc (Nat.le_refl _) (.cells (row .u8 (bE4 s)) 5))
     have hN4_V17 := hN4_V16.below ((Below.refl _ _).alloc (Nat.le_refl _) (.cells (row .u8 (bE4 s)) 5))
     have hDV17 := hDV16.alloc (.cells (row .u8 (bE4 s)) 5)
     replace hS := HS _ hDV17
     refine hK.out _ _ (fun _ => hS) ?_
     clear hK K
     try simp only [Act.put, gA, gS, gZ, sI, sZ, sS]
     obtain ⟨V17, hV17⟩ : ∃ q, V16.alloc (.cells (row .u8 (bE4 s)) 5) = q := ⟨_, rfl⟩
     obtain ⟨g17, hg17⟩ : ∃ q, V16.heap.size = q := ⟨_, rfl⟩
     rw [hV17] at hNV17 hBV17 hRV17 hN8_V17 hN4_V17 hDV17 ⊢
     rw [hg17] at hNV17 ⊢
     clear hV17 hg17 hBV16 hRV16 hDV16 hN8_V16 hN4_V16
     have hN7_V17 := hNV17
     clear hNV17
     refine wpAnyG_one (i := 9) rfl (by kernel_rfl) (by kernel_rfl) (fun K hK => ?_)
     refine wp_buildSlice 96 74 3 _ rfl #[.slice (some ⟨g16, 0, none⟩) 4 4, .slice (some ⟨g17, 0, none⟩) 4 4, .slice (some ⟨g15, 0, none⟩) 4 4] iw _ Tryz.underlying96 hiw hwz (by rw [hws2]; decide) (by rw [hws2]; decide) (by rw [hws2]; kernel_rfl) ?_
     have hP := partsNew V17 [⟨some ⟨g16, 0, none⟩, 4, 4, [f, t, a, 0]⟩, ⟨some ⟨g17, 0, none⟩, 4, 4, (bE4 s)⟩, ⟨some ⟨g15, 0, none⟩, 4, 4, [0, 0, 0, 0]⟩] (fun p hp => by
      simp only [List.mem_cons, List.not_mem_nil, or_false] at hp
      rcases hp with rfl | rfl | rfl
      · exact hN4_V17
      · exact hN7_V17
      · exact hN8_V17)
     have hBP := hBV17.alloc hBV17.size (.cells #[.slice (some ⟨g16, 0, none⟩) 4 4, .slice (some ⟨g17, 0, none⟩) 4 4, .slice (some ⟨g15, 0, none⟩) 4 4] 74)
     have hRP := hRV17.alloc (.cells #[.slice (some ⟨g16, 0, none⟩) 4 4, .slice (some ⟨g17, 0, none⟩) 4 4, .slice (some ⟨g15, 0, none⟩) 4 4] 74)
     have hDP := hDV17.alloc (.cells #[.slice (some ⟨g16, 0, none⟩) 4 4, .slice (some ⟨g17, 0, none⟩) 4 4, .slice (some ⟨g15, 0, none⟩) 4 4] 74)
     replace hS := HS _ hDP
     refine hK.out _ _ (fun _ => hS) ?_
     clear hK K
     try simp only [Act.put, gA, gS, gZ, sI, sZ, sS]
     refine wpAnyG_one (i := 10) rfl (by kernel_rfl) (by kernel_rfl) (fun K hK => ?_)
     have hj := kjoined_any V17.heap.size 3 [⟨some ⟨g16, 0, none⟩, 4, 4, [f, t, a, 0]⟩, ⟨some ⟨g17, 0, none⟩, 4, 4, (bE4 s)⟩, ⟨some ⟨g15, 0, none⟩, 4, 4, [0, 0, 0, 0]⟩] _ hP rfl (by omega) (by simp [sumN, allZ, bE4])
     rw [show allZ [⟨some ⟨g16, 0, none⟩, 4, 4, [f, t, a, 0]⟩, ⟨some ⟨g17, 0, none⟩, 4, 4, (bE4 s)⟩, ⟨some ⟨g15, 0, none⟩, 4, 4, [0, 0, 0, 0]⟩] = wrapNL f t a s from rfl, hNL] at hj
     refine wpx_call _ _ (by kernel_rfl) (hj.mono ?_)
     rintro e WJ ⟨vj, rfl, hoj, hbj⟩
     refine ⟨_, rfl, ?_⟩
     have hBJ := hBP.trans (hbj.mono hBP.size)
     have hRJ := hRP.below hbj hRP.lt
     obtain ⟨gj, cj, rfl, hgj⟩ := hoj.slice (by rw [hNLl]; omega)
     have hrg := hoj.bytes.2.rangeK
     have hDJ := hDP.congr (hbj.block _ hDP.lt)
     replace hS := HS _ hDJ
     refine hK.out _ _ (fun _ => hS) ?_
     clear hK K
     try simp only [Act.put, gA, gS, gZ, sI, sZ, sS]
     refine wpAnyG_one (i := 11) rfl (by kernel_rfl) (by kernel_rfl) (fun K hK => ?_)
     refine wpx_arr _ _ rfl _ _ _ rfl (run_arrayAk Tryz.underlying78 _ _ _ (by rw [hNLl]; exact Nat.le_refl _) _) ?_
     refine hK.out _ _ (fun _ => hS) ?_
     clear hK K
     try simp only [Act.put, gA, gS, gZ, sI, sZ, sS]
     refine wpAnyG_one (i := 12) rfl (by kernel_rfl) (by kernel_rfl) (fun K hK => ?_)
     refine wp_load_mid 78 _ rfl gj 0 rfl _ _ hrg Tryz.underlying78 rfl (by rw [List.length_map, hNLl]; exact sizeNonceD) ?_
     refine hK.out _ _ (fun _ => hS) ?_
     clear hK K
     try simp only [Act.put, gA, gS, gZ, sI, sZ, sS]
     refine wpAnyG_one (i := 13) rfl (by kernel_rfl) (by kernel_rfl) (fun K hK => ?_)
     refine wp_stG 78 _ _ rfl _ rfl (k := .u8) (l := NL) rfl hRJ (by rw [hNLl]; exact sizeNonceD) (by rw [hZl, hNLl]) ?_
     refine hK.out _ _ (fun h => absurd (show true = false from h) (by decide)) ?_
     clear hK K
     try simp only [Act.put, gA, gS, gZ, sI, sZ, sS]
     refine wpAnyG_done (by kernel_rfl) ?_ _
     go_wp2_with fail
     refine bodyPost_ret (results_holds (Tryz.results38) _ rfl (hRJ.setRow _) Tryz.underlying78 sizeNonceD hNLl) rfl ⟨by rw [← hNL], ?_⟩
     exact below_setRow hBJ (by omega) _
   · skip
     refine wpx_call _ _ (by kernel_rfl) ((kfour_any s _).mono ?_)
     rintro e wy ⟨rfl, rfl⟩
     refine ⟨_, rfl, ?_⟩
     have hNV18 := newB V15 (bE4 s) 4 rfl (by simp [bE4])
     have hBV18 := hBV15.alloc hBV15.size (.cells (row .u8 (bE4 s)) 5)
     have hRV18 := hRV15.alloc (.cells (row .u8 (bE4 s)) 5)
     have hN8_V18 := hN8_V15.below ((Below.refl _ _).alloc (Nat.le_refl _) (.cells (row .u8 (bE4 s)) 5))
     have hDV18 := hDV15.alloc (.cells (row .u8 (bE4 s)) 5)
     replace hS := HS _ hDV18
     refine hK.out _ _ (fun _ => hS) ?_
     clear hK K
     try simp only [Act.put, gA, gS, gZ, sI, sZ, sS]
     obtain ⟨V18, hV18⟩ : ∃ q, V15.alloc (.cells (row .u8 (bE4 s)) 5) = q := ⟨_, rfl⟩
     obtain ⟨g18, hg18⟩ : ∃ q, V15.heap.size = q := ⟨_, rfl⟩
     rw [hV18] at hNV18 hBV18 hRV18 hN8_V18 hDV18 ⊢
     rw [hg18] at hNV18 ⊢
     clear hV18 hg18 hBV15 hRV15 hDV15 hN8_V15
     have hN7_V18 := hNV18
     clear hNV18
     refine wpAnyG_one (i := 4) rfl (by kernel_rfl) (by kernel_rfl) (fun K hK => ?_)
     refine wp_buildSlice 74 5 4 _ rfl (row .u8 [f, t, a, 0]) iu _ Tryz.underlying74 hiu huz (by rw [hus]; decide) (by rw [hus]; decide) (by rw [hus]; kernel_rfl) ?_
     have hNV19 := newB V18 [f, t, a, 0] 4 rfl (by simp [bE4])
     have hBV19 := hBV18.alloc hBV18.size (.cells (row .u8 [f, t, a, 0]) 5)
     have hRV19 := hRV18.alloc (.cells (row .u8 [f, t, a, 0]) 5)
     have hN8_V19 := hN8_V18.below ((Below.refl _ _).alloc (Nat.le_refl _) (.cells (row .u8 [f, t, a, 0]) 5))
     have hN7_V19 := hN7_V18.below ((Below.refl _ _).alloc (Nat.le_refl _) (.cells (row .u8 [f, t, a, 0]) 5))
     have hDV19 := hDV18.alloc (.cells (row .u8 [f, t, a, 0]) 5)
     replace hS := HS _ hDV19
     refine hK.out _ _ (fun _ => hS) ?_
     clear hK K
     try simp only [Act.put, gA, gS, gZ, sI, sZ, sS]
     obtain ⟨V19, hV19⟩ : ∃ q, V18.alloc (.cells (row .u8 [f, t, a, 0]) 5) = q := ⟨_, rfl⟩
     obtain ⟨g19, hg19⟩ : ∃ q, V18.heap.size = q := ⟨_, rfl⟩
     rw [hV19] at hNV19 hBV19 hRV19 hN8_V19 hN7_V19 hDV19 ⊢
     rw [hg19] at hNV19 ⊢
     clear hV19 hg19 hBV18 hRV18 hDV18 hN8_V18 hN7_V18
     have hN4_V19 := hNV19
     clear hNV19
     refine wpAnyG_one (i := 9) rfl (by kernel_rfl) (by kernel_rfl) (fun K hK => ?_)
     refine wp_buildSlice 96 74 3 _ rfl #[.slice (some ⟨g19, 0, none⟩) 4 4, .slice (some ⟨g18, 0, none⟩) 4 4, .slice (some ⟨g15, 0, none⟩) 4 4] iw _ Tryz.underlying96 hiw hwz (by rw [hws2]; decide) (by rw [hws2]; decide) (by rw [hws2]; kernel_rfl) ?_
     have hP := partsNew V19 [⟨some ⟨g19, 0, none⟩, 4, 4, [f, t, a, 0]⟩, ⟨some ⟨g18, 0, none⟩, 4, 4, (bE4 s)⟩, ⟨some ⟨g15, 0, none⟩, 4, 4, [0, 0, 0, 0]⟩] (fun p hp => by
      simp only [List.mem_cons, List.not_mem_nil, or_false] at hp
      rcases hp with rfl | rfl | rfl
      · exact hN4_V19
      · exact hN7_V19
      · exact hN8_V19)
     have hBP := hBV19.alloc hBV19.size (.cells #[.slice (some ⟨g19, 0, none⟩) 4 4, .slice (some ⟨g18, 0, none⟩) 4 4, .slice (some ⟨g15, 0, none⟩) 4 4] 74)
     have hRP := hRV19.alloc (.cells #[.slice (some ⟨g19, 0, none⟩) 4 4, .slice (some ⟨g18, 0, none⟩) 4 4, .slice (some ⟨g15, 0, none⟩) 4 4] 74)
     have hDP := hDV19.alloc (.cells #[.slice (some ⟨g19, 0, none⟩) 4 4, .slice (some ⟨g18, 0, none⟩) 4 4, .slice (some ⟨g15, 0, none⟩) 4 4] 74)
     replace hS := HS _ hDP
     refine hK.out _ _ (fun _ => hS) ?_
     clear hK K
     try simp only [Act.put, gA, gS, gZ, sI, sZ, sS]
     refine wpAnyG_one (i := 10) rfl (by kernel_rfl) (by kernel_rfl) (fun K hK => ?_)
     have hj := kjoined_any V19.heap.size 3 [⟨some ⟨g19, 0, none⟩, 4, 4, [f, t, a, 0]⟩, ⟨some ⟨g18, 0, none⟩, 4, 4, (bE4 s)⟩, ⟨some ⟨g15, 0, none⟩, 4, 4, [0, 0, 0, 0]⟩] _ hP rfl (by omega) (by simp [sumN, allZ, bE4])
     rw [show allZ [⟨some ⟨g19, 0, none⟩, 4, 4, [f, t, a, 0]⟩, ⟨some ⟨g18, 0, none⟩, 4, 4, (bE4 s)⟩, ⟨some ⟨g15, 0, none⟩, 4, 4, [0, 0, 0, 0]⟩] = wrapNL f t a s from rfl, hNL] at hj
     refine wpx_call _ _ (by kernel_rfl) (hj.mono ?_)
     rintro e WJ ⟨vj, rfl, hoj, hbj⟩
     refine ⟨_, rfl, ?_⟩
     have hBJ := hBP.trans (hbj.mono hBP.size)
     have hRJ := hRP.below hbj hRP.lt
     obtain ⟨gj, cj, rfl, hgj⟩ := hoj.slice (by rw [hNLl]; omega)
     have hrg := hoj.bytes.2.rangeK
     have hDJ := hDP.congr (hbj.block _ hDP.lt)
     replace hS := HS _ hDJ
     refine hK.out _ _ (fun _ => hS) ?_
     clear hK K
     try simp only [Act.put, gA, gS, gZ, sI, sZ, sS]
     refine wpAnyG_one (i := 11) rfl (by kernel_rfl) (by kernel_rfl) (fun K hK => ?_)
     refine wpx_arr _ _ rfl _ _ _ rfl (run_arrayAk Tryz.underlying78 _ _ _ (by rw [hNLl]; exact Nat.le_refl _) _) ?_
     refine hK.out _ _ (fun _ => hS) ?_
     clear hK K
     try simp only [Act.put, gA, gS, gZ, sI, sZ, sS]
     refine wpAnyG_one (i := 12) rfl (by kernel_rfl) (by kernel_rfl) (fun K hK => ?_)
     refine wp_load_mid 78 _ rfl gj 0 rfl _ _ hrg Tryz.underlying78 rfl (by rw [List.length_map, hNLl]; exact sizeNonceD) ?_
     refine hK.out _ _ (fun _ => hS) ?_
     clear hK K
     try simp only [Act.put, gA, gS, gZ, sI, sZ, sS]
     refine wpAnyG_one (i := 13) rfl (by kernel_rfl) (by kernel_rfl) (fun K hK => ?_)
     refine wp_stG 78 _ _ rfl _ rfl (k := .u8) (l := NL) rfl hRJ (by rw [hNLl]; exact sizeNonceD) (by rw [hZl, hNLl]) ?_
     refine hK.out _ _ (fun h => absurd (show true = false from h) (by decide)) ?_
     clear hK K
     try simp only [Act.put, gA, gS, gZ, sI, sZ, sS]
     refine wpAnyG_done (by kernel_rfl) ?_ _
     go_wp2_with fail
     refine bodyPost_ret (results_holds (Tryz.results38) _ rfl (hRJ.setRow _) Tryz.underlying78 sizeNonceD hNLl) rfl ⟨by rw [← hNL], ?_⟩
     exact below_setRow hBJ (by omega) _
end Go.Proofs.YtflkhkmejnpapaaGreatDoor
