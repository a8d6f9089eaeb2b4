/- AclNoAdmin, walked. -/
import Derived.Test.YthodlbkgggaibaaAp1
namespace Go.Proofs.Ythodlbkgggaibaa
open Go.RowKit Go.Shelf
set_option maxRecDepth 20000
set_option linter.unusedSimpArgs false
set_option maxHeartbeats 16000000 in
theorem ana_walk (x : Option Addr) (len cap : Nat) (ds : List Ev) (e : Ev) (v : List Int) (w : World) (hd : EvsAt w x len cap ds) (hv : v.length = 8) (he : e.Ok) :
    Calls Try.prog 9 #[.slice x len cap, .agg e.cells.toArray, .agg (row .u32 v)] w fun r w' => r = .returned (.bool true) ∧ Below w.heap.size w w' := by
  obtain ⟨VV, hVV⟩ : ∃ q, v.map (Value.int .u32) = q := ⟨_, rfl⟩
  have hrow : row .u32 v = VV.toArray := by rw [← hVV]; rfl
  have hB0 : Below w.heap.size w ((w.alloc (.cells e.cells.toArray 41)).alloc (.cells VV.toArray 25)) := ((Below.refl _ _).alloc (Nat.le_refl _) _).alloc (by simp) _
  have hx0 := (CellsAt.new w 41 e.cells).alloc (.cells VV.toArray 25)
  have hy0 := CellsAt.new (w.alloc (.cells e.cells.toArray 41)) 25 VV
  rw [World.size_alloc] at hy0
  have iV : (Try.prog.info? 25).map (·.size) = some VV.length := by rw [← hVV, List.length_map, hv]; kernel_rfl
  have iE : (Try.prog.info? 41).map (·.size) = some e.cells.length := by rw [aev_len e he.past]; kernel_rfl
  have iD : (Try.prog.info? 38).map (·.size) = some (dotC e.da e.ds).length := sizeDot
  have uV := Try.underlying25
  have uE := Try.underlying41
  have uD := Try.underlying38
  have uR := Try.underlying34
  have hpl := aplay_any x len cap ds _ (hd.below hB0)
  have HME : Veil (∀ H b L W, BookC W H b L → Calls Try.prog 16 #[.pointer (some ⟨H, 0, none⟩), .agg VV.toArray] W fun e w' => e = .returned (.agg (row .u8 (membersL L v))) ∧ Below W.heap.size W w') := ⟨fun H b L W hC => by rw [← hrow]; exact members_any H b L v W hC hv⟩
  have HAD : Veil (∀ H b L W, BookC W H b L → L.length ≤ 1000 → Calls Try.prog 18 #[.pointer (some ⟨H, 0, none⟩), .agg e.cells.toArray] W fun r w' => r = .returned (.int .i64 (refB L e)) ∧ BookC w' H b (addB L e) ∧ Turn (fun k => k = b) W w') := ⟨fun H b L W hC hl => badd_any H b L e W hC he hl⟩
  have HRO : Veil (∀ H b L W, BookC W H b L → Calls Try.prog 17 #[.pointer (some ⟨H, 0, none⟩), .int .u8 e.da, .agg (e.past.map (Value.int .u32)).toArray] W fun r w' => r = .returned (.int .u8 (roleP L e.da e.past)) ∧ Below W.heap.size W w') := ⟨fun H b L W hC => role_any H b L e.da e.past W hC he.past⟩
  have HCT : Veil (∀ H b L W, BookC W H b L → Calls Try.prog 23 #[.pointer (some ⟨H, 0, none⟩), .agg (dotC e.da e.ds).toArray] W fun r w' => r = .returned (.bool (cntB L (e.da, e.ds))) ∧ Below W.heap.size W w') := ⟨fun H b L W hC => bcountsC H b L e.da e.ds W hC he.dot⟩
  have HNA : Veil (∀ L, refB L e = 0 → roleP L e.da e.past ≠ 3 → membersL (addB L e) v = membersL L v ∧ cntB (addB L e) (e.da, e.ds) = false) := ⟨fun L h hr => ⟨noadmin_same L e v h hr, by rw [cntB_add L e h]; simpa using hr⟩⟩
  have HPA : Veil (∀ W, CellsAt W w.heap.size 41 e.cells → W.cell? ⟨w.heap.size, 0, none⟩ = some (.int .u8 e.da) ∧ W.rangeAt w.heap.size 2 (e.past.map (Value.int .u32))) := ⟨fun W hx => by
    have h1 := hx.range 0 2
    rw [(ev_parts e he.past).1] at h1
    have h2 := hx.range 2 8
    rw [(ev_parts e he.past).2.1] at h2
    exact ⟨by have := h1 0 _ rfl; simpa using this, h2⟩⟩
  have iP : (Try.prog.info? 25).map (·.size) = some (e.past.map (Value.int .u32)).length := by rw [List.length_map, he.past]; kernel_rfl
  have HRD : Veil (∀ W, CellsAt W w.heap.size 41 e.cells → W.rangeAt w.heap.size 0 (dotC e.da e.ds)) := ⟨fun W hx => by
    have h1 := hx.range 0 2
    rwa [(ev_parts e he.past).1] at h1⟩
  rw [hrow]
  obtain ⟨E, hE⟩ : ∃ E, e.cells = E := ⟨_, rfl⟩
  rw [hE] at hB0 hy0 hx0 iE hpl HAD HRD HPA ⊢
  generalize dotC e.da e.ds = DV at iD HCT HRD
  obtain ⟨PV, hPV⟩ : ∃ q, e.past.map (Value.int .u32) = q := ⟨_, rfl⟩
  rw [hPV] at HRO HPA iP
  clear hPV
  clear hd hrow hVV hE he
  go_enter Try.func9, Try.ntmps9
  go_upto_region 4 with (first
    | (go_at_call 14; refine (live9_any w1).mono ?_; rintro z w2 ⟨rfl, g2⟩)
    | (go_at_call 13; refine hpl.mono ?_; rintro z w1 ⟨H, b, R, rfl, ⟨L, hBB, -⟩, hB1⟩))
  have hy2 := (hy0.congr (hB1.block _ hy0.lt)).farM g2
  have hx2 := (hx0.congr (hB1.block _ hx0.lt)).farM g2
  have hBB2 := hBB.far g2
  have hB1' := hB0.trans (hB1.mono hB0.size)
  have hB2 := hB1'.trans (g2.mono hB1'.size)
  have hlow : Veil (w.heap.size + 2 ≤ b ∧ L.length ≤ 1000) := ⟨by have := hBB.low.2.1; simp at this; omega, by have := hBB.len; omega⟩
  clear hB0 hy0 hx0 hpl hBB hB1 g2 hB1'
  have hr2 := hy2.wholeM
  have hme := HME.out H b L w2 hBB2.code
  have HC2 := Veil.mk hBB2.code
  have HB2 := Veil.mk hB2
  have HY2 := Veil.mk hy2
  have HX2 := Veil.mk hx2
  obtain ⟨ML, hML⟩ : ∃ q, membersL L v = q := ⟨_, rfl⟩
  rw [hML] at hme
  have hM8 : ML.length = 8 := by rw [← hML]; exact membersL_len _ _
  have HML := Veil.mk hML
  have hz5 := fun W5 => Holds.new W5 .u8 34 [0, 0, 0, 0, 0, 0, 0, 0]
  clear hBB2 hB2 hy2 hx2 hML
  go_upto_region 5 with (first
    | (refine wpList_ldv rfl 25 _ rfl (w.heap.size + 1) 0 rfl VV hr2 uV rfl iV ?_)
    | (go_at_call 16; refine hme.mono ?_; rintro z W5 ⟨rfl, g5⟩; have hz := hz5 W5)
    | (refine wpList_st rfl 34 _ _ rfl _ rfl rfl hz (by rw [hM8]; exact sizeR8) (by rw [hM8]; rfl) ?_))
  have hC5 := HC2.out.far g5
  have hB5 := HB2.out.trans (g5.mono HB2.out.size)
  have hm5 := hz.setRow ML
  have hbA : Below W5.heap.size W5 ((W5.alloc (.cells (row .u8 [0, 0, 0, 0, 0, 0, 0, 0]) 34)).setRow W5.heap.size (row .u8 ML)) := below_setRow ((Below.refl _ _).alloc (Nat.le_refl _) _) (Nat.le_refl _) _
  have hbm : Veil (b ≠ W5.heap.size ∧ w.heap.size + 2 ≤ W5.heap.size) := ⟨by have := hC5.map.lt; omega, by have := hC5.map.lt; have := hlow.out.1; omega⟩
  refine forget (p := fun y => Code.wp _ _ _ _ y) (fun W => BookC W H b L ∧ Below w.heap.size w W ∧ CellsAt W (w.heap.size + 1) 25 VV ∧ CellsAt W w.heap.size 41 E ∧ Holds W W5.heap.size .u8 34 ML) ⟨hC5.far hbA, hB5.trans (hbA.mono hB5.size), (HY2.out.farM g5).farM hbA, (HX2.out.farM g5).farM hbA, hm5⟩ ?_
  clear hC5 hB5 hm5 hbA hz hz5 hme hr2 HC2 HB2 HY2 HX2
  rintro W6 ⟨hC6, hB6, hy6, hx6, hm6⟩
  generalize W5.heap.size = mB at hm6 hbm ⊢
  clear g5
  have hre6 := hx6.wholeM
  obtain ⟨ca6, hp6⟩ := HPA.out W6 hx6
  have hro := HRO.out H b L W6 hC6
  have HN2 := Veil.mk (HNA.out L)
  have HA6 := Veil.mk (HAD.out H b L)
  obtain ⟨RN, hRN⟩ : ∃ q, refB L e = q := ⟨_, rfl⟩
  obtain ⟨RP, hRP⟩ : ∃ q, roleP L e.da e.past = q := ⟨_, rfl⟩
  rw [hRN] at HA6 HN2
  rw [hRP] at hro HN2
  generalize e.da = DA at ca6 hro HN2 HCT
  clear hRN hRP HAD HNA HRO
  go_upto_region 6 with (first
    | (refine wpList_ldv rfl 25 _ rfl w.heap.size 2 rfl PV hp6 uV rfl iP ?_)
    | (go_at_call 17; refine hro.mono ?_; rintro z W7 ⟨rfl, g7⟩))
  have hC7 := hC6.far g7
  have hB7 := hB6.trans (g7.mono hB6.size)
  have hy7 := hy6.farM g7
  have hx7 := hx6.farM g7
  have hm7 := holds_farA hm6 g7
  have hre7 := hx7.wholeM
  have had := HA6.out W7 hC7 hlow.out.2
  clear hC6 hB6 hy6 hx6 hm6 hre6 ca6 hp6 hro g7
  have HFW : Veil (∀ W8, Turn (fun k => k = b) W7 W8 → Below w.heap.size w W8 ∧ CellsAt W8 (w.heap.size + 1) 25 VV ∧ CellsAt W8 w.heap.size 41 E ∧ Holds W8 mB .u8 34 ML) := ⟨fun W8 ht => ⟨hB7.trans (ht.below hB7.size (fun q hq => by rw [hq]; have := hlow.out.1; omega)), hy7.congr (ht.block _ hy7.lt (by have := hlow.out.1; omega)), hx7.congr (ht.block _ hx7.lt (by have := hlow.out.1; omega)), (ht.block mB (Array.getElem?_eq_some_iff.1 hm7).1 (fun q => hbm.out.1 q.symm)).trans hm7⟩⟩
  clear hB7 hy7 hx7 hm7 hC7
  have hcase : RN ≠ 0 ∨ (RN = 0 ∧ RP = 3) ∨ (RN = 0 ∧ RP ≠ 3) := by omega
  rcases hcase with h0 | ⟨rfl, rfl⟩ | ⟨rfl, h3⟩
  · have h0b : (RN != 0) = true := by simpa using h0
    clear h0
    go_wp2_with (first
      | (refine wpList_ldv rfl 41 _ rfl w.heap.size 0 rfl E hre7 uE rfl iE ?_)
      | (go_at_call 18; refine had.mono ?_; rintro z W8 ⟨rfl, hC8, ht8⟩))
    go_ret
    exact ⟨rfl, (HFW.out W8 ht8).1⟩
  · go_wp2_with (first
      | (refine wpList_ldv rfl 41 _ rfl w.heap.size 0 rfl E hre7 uE rfl iE ?_)
      | (go_at_call 18; refine had.mono ?_; rintro z W8 ⟨rfl, hC8, ht8⟩))
    go_ret
    exact ⟨rfl, (HFW.out W8 ht8).1⟩
  · have h3b : (RP == 3) = false := by simpa using h3
    obtain ⟨hmA, hcA⟩ := HN2.out rfl h3
    have HMA : Veil (membersL (addB L e) v = ML) := ⟨hmA.trans HML.out⟩
    have HCA := Veil.mk hcA
    clear h3 hmA hcA
    go_upto_region 8 with (first
      | (refine wpList_ldv rfl 41 _ rfl w.heap.size 0 rfl E hre7 uE rfl iE ?_)
      | (go_at_call 18; refine had.mono ?_; rintro z W8 ⟨rfl, hC8, ht8⟩))
    obtain ⟨hB8, hy8, hx8, hm8⟩ := HFW.out W8 ht8
    have iM : (Try.prog.info? 34).map (·.size) = some (ML.map (Value.int .u8)).length := by rw [List.length_map, hM8]; exact sizeR8
    have HX : Veil (∀ W, Below W8.heap.size W8 W → (W.rangeAt (w.heap.size + 1) 0 VV ∧ W.rangeAt w.heap.size 0 DV ∧ W.rangeAt mB 0 (ML.map (Value.int .u8))) ∧ Below w.heap.size w W ∧ BookC W H b (addB L e)) := ⟨fun W hb => ⟨⟨(hy8.farM hb).wholeM, HRD.out W (hx8.farM hb), CellsAt.wholeM (t := 34) (holds_farA hm8 hb)⟩, hB8.trans (hb.mono hB8.size), hC8.far hb⟩⟩
    have hct := HCT.out H b (addB L e) W8.drew (hC8.congr rfl rfl)
    rw [HCA.out] at hct
    clear had hre7 HFW hB8 hy8 hx8 hm8 ht8 hC8
    have hT0 := (HX.out W8.drew (Below.refl _ _).drew).1
    refine wp_region_gateT (fun w' => w'.rangeAt (w.heap.size + 1) 0 VV ∧ w'.rangeAt w.heap.size 0 DV ∧ w'.rangeAt mB 0 (ML.map (Value.int .u8))) (fun _ => True) 99 (by kernel_rfl) ?_
    have hT : (fun w' : World => w'.rangeAt (w.heap.size + 1) 0 VV ∧ w'.rangeAt w.heap.size 0 DV ∧ w'.rangeAt mB 0 (ML.map (Value.int .u8))) W8.drew := hT0
    have hS : (fun _ : World => True) W8.drew := trivial
    refine wpAnyT_held (i := 0) (v := ?_) rfl (by kernel_rfl) (by kernel_rfl) (by kernel_rfl) (fun _ _ _ h => h) (by kernel_rfl) hT (fun _ => hS) (by kernel_rfl) ?_ ?_
    rotate_left
    · intro wx hSw; go_split_ands; go_simp; try with_reducible rfl
    simp only [Act.put, List.getElem_toArray, List.getElem_cons_succ, List.getElem_cons_zero, List.setIfInBounds_toArray, List.set_cons_zero, List.set_cons_succ]
    refine wpAnyT_held (i := 1) (v := ?_) rfl (by kernel_rfl) (by kernel_rfl) (by kernel_rfl) (fun _ _ _ h => h) (by kernel_rfl) hT (fun _ => hS) (by kernel_rfl) ?_ ?_
    rotate_left
    · intro wx hSw; go_split_ands; go_simp; try with_reducible rfl
    simp only [Act.put, List.getElem_toArray, List.getElem_cons_succ, List.getElem_cons_zero, List.setIfInBounds_toArray, List.set_cons_zero, List.set_cons_succ]
    refine wpAnyT_load (i := 2) (dst := some 44) (ty := 38) (x := .tmp 43) (b := w.heap.size) (o := (0)) (cs := DV) (by kernel_rfl) (by kernel_rfl) (by kernel_rfl) (by kernel_rfl) (by kernel_rfl) (fun _ _ _ h => h) (by kernel_rfl) hT (fun _ => hS) (by kernel_rfl) (fun _ h => h.2.1) uD rfl iD ?_
    simp only [Act.put, List.getElem_toArray, List.getElem_cons_succ, List.getElem_cons_zero, List.setIfInBounds_toArray, List.set_cons_zero, List.set_cons_succ]
    refine wpAnyT_one (i := 3) rfl (by kernel_rfl) (by kernel_rfl) (fun K hK => ?_)
    refine wpx_call _ _ (by kernel_rfl) (hct.mono ?_)
    rintro z W9 ⟨rfl, hb9⟩
    refine ⟨_, rfl, ?_⟩
    have hb10 : Below W8.heap.size W8 W9 := ((Below.refl _ _).drew).trans (hb9.mono (Nat.le_refl _))
    have hm9 := HME.out H b (addB L e) W9 (HX.out _ hb10).2.2
    rw [HMA.out] at hm9
    have heq : ∀ wx, (Op.equalIn 10000 34 (.agg (row .u8 ML)) (.agg (ML.map (Value.int .u8)).toArray)).run Try.prog wx = .ok true wx := fun wx => by
      have := roles_eqIn ML ML hM8 hM8 wx
      rw [beq_self_eq_true] at this; exact this
    replace hT : (fun w' : World => w'.rangeAt (w.heap.size + 1) 0 VV ∧ w'.rangeAt w.heap.size 0 DV ∧ w'.rangeAt mB 0 (ML.map (Value.int .u8))) W9 := (HX.out _ hb10).1
    replace hS : (fun _ : World => True) W9 := trivial
    refine hK.out _ _ hT (fun _ => hS) ?_
    clear hK K
    try simp only [Act.put, List.getElem_toArray, List.getElem_cons_succ, List.getElem_cons_zero, List.setIfInBounds_toArray, List.set_cons_zero, List.set_cons_succ]
    refine wpAnyT_held (i := 4) (v := .bool true) rfl (by kernel_rfl) (by kernel_rfl) (by kernel_rfl) (fun _ _ _ h => h) (by kernel_rfl) hT (fun _ => hS) (by kernel_rfl) ?_ ?_
    · intro wx hSw; go_split_ands; go_simp
    simp only [Act.put, List.getElem_toArray, List.getElem_cons_succ, List.getElem_cons_zero, List.setIfInBounds_toArray, List.set_cons_zero, List.set_cons_succ]
    refine wpAnyT_held (i := 5) (v := ?_) rfl (by kernel_rfl) (by kernel_rfl) (by kernel_rfl) (fun _ _ _ h => h) (by kernel_rfl) hT (fun _ => hS) (by kernel_rfl) ?_ ?_
    rotate_left
    · intro wx hSw; go_split_ands; go_simp; try with_reducible rfl
    simp only [Act.put, List.getElem_toArray, List.getElem_cons_succ, List.getElem_cons_zero, List.setIfInBounds_toArray, List.set_cons_zero, List.set_cons_succ]
    refine wpAnyT_held (i := 6) (v := ?_) rfl (by kernel_rfl) (by kernel_rfl) (by kernel_rfl) (fun _ _ _ h => h) (by kernel_rfl) hT (fun _ => hS) (by kernel_rfl) ?_ ?_
    rotate_left
    · intro wx hSw; go_split_ands; go_simp; try with_reducible rfl
    simp only [Act.put, List.getElem_toArray, List.getElem_cons_succ, List.getElem_cons_zero, List.setIfInBounds_toArray, List.set_cons_zero, List.set_cons_succ]
    refine wpAnyT_load (i := 7) (dst := some 49) (ty := 25) (x := .tmp 5) (b := (w.heap.size + 1)) (o := (0)) (cs := VV) (by kernel_rfl) (by kernel_rfl) (by kernel_rfl) (by kernel_rfl) (by kernel_rfl) (fun _ _ _ h => h) (by kernel_rfl) hT (fun _ => hS) (by kernel_rfl) (fun _ h => h.1) uV rfl iV ?_
    simp only [Act.put, List.getElem_toArray, List.getElem_cons_succ, List.getElem_cons_zero, List.setIfInBounds_toArray, List.set_cons_zero, List.set_cons_succ]
    refine wpAnyT_load (i := 9) (dst := some 51) (ty := 34) (x := .tmp 10) (b := mB) (o := (0)) (cs := (ML.map (Value.int .u8))) (by kernel_rfl) (by kernel_rfl) (by kernel_rfl) (by kernel_rfl) (by kernel_rfl) (fun _ _ _ h => h) (by kernel_rfl) hT (fun _ => hS) (by kernel_rfl) (fun _ h => h.2.2) uR rfl iM ?_
    simp only [Act.put, List.getElem_toArray, List.getElem_cons_succ, List.getElem_cons_zero, List.setIfInBounds_toArray, List.set_cons_zero, List.set_cons_succ]
    refine wpAnyT_one (i := 8) rfl (by kernel_rfl) (by kernel_rfl) (fun K hK => ?_)
    refine wpx_call _ _ (by kernel_rfl) (hm9.mono ?_)
    rintro z W10 ⟨rfl, hb11⟩
    refine ⟨_, rfl, ?_⟩
    have hb12 := hb10.trans (hb11.mono hb10.size)
    replace hT : (fun w' : World => w'.rangeAt (w.heap.size + 1) 0 VV ∧ w'.rangeAt w.heap.size 0 DV ∧ w'.rangeAt mB 0 (ML.map (Value.int .u8))) W10 := (HX.out _ hb12).1
    replace hS : (fun _ : World => True) W10 := trivial
    refine hK.out _ _ hT (fun _ => hS) ?_
    clear hK K
    try simp only [Act.put, List.getElem_toArray, List.getElem_cons_succ, List.getElem_cons_zero, List.setIfInBounds_toArray, List.set_cons_zero, List.set_cons_succ]
    refine wpAnyT_held (i := 10) (v := .bool true) rfl (by kernel_rfl) (by kernel_rfl) (by kernel_rfl) (fun _ _ _ h => h) (by kernel_rfl) hT (fun _ => hS) (by kernel_rfl) ?_ ?_
    · intro wx hSw; go_split_ands; go_simp
    simp only [Act.put, List.getElem_toArray, List.getElem_cons_succ, List.getElem_cons_zero, List.setIfInBounds_toArray, List.set_cons_zero, List.set_cons_succ]
    refine wpAnyT_held (i := 11) (v := .bool true) rfl (by kernel_rfl) (by kernel_rfl) (by kernel_rfl) (fun _ _ _ h => h) (by kernel_rfl) hT (fun _ => hS) (by kernel_rfl) ?_ ?_
    · intro wx hSw; go_split_ands; go_simp
    simp only [Act.put, List.getElem_toArray, List.getElem_cons_succ, List.getElem_cons_zero, List.setIfInBounds_toArray, List.set_cons_zero, List.set_cons_succ]
    refine wpAnyT_held (i := 12) (v := ?_) rfl (by kernel_rfl) (by kernel_rfl) (by kernel_rfl) (fun _ _ _ h => h) (by kernel_rfl) hT (fun _ => hS) (by kernel_rfl) ?_ ?_
    rotate_left
    · intro wx hSw; go_split_ands; go_simp; try with_reducible rfl
    simp only [Act.put, List.getElem_toArray, List.getElem_cons_succ, List.getElem_cons_zero, List.setIfInBounds_toArray, List.set_cons_zero, List.set_cons_succ]
    refine wpAnyT_done (by kernel_rfl) ?_ _
    clear hT hS
    go_wp2
    go_ret
    exact ⟨rfl, (HX.out _ hb12).2.1⟩
end Go.Proofs.Ythodlbkgggaibaa

