/- chain: the statements' 'do', with a frame. -/
import Derived.Test.YtgcidamdbidgiaaDoorMHz0Hz1
namespace Go.Proofs.YtgcidamdbidgiaaDoor
open Go.RowKit
set_option maxRecDepth 20000
set_option linter.unusedSimpArgs false

section
variable (s H b R : Nat) (v : Value) (us : List Value) (vp : Value) (T : Sms) (P : List Pf) (w : World)
set_option maxHeartbeats 32000000 in
theorem doFrm_any (hB : BothC w s H b v R us vp T P) (hs : s ≤ w.heap.size) (hKT : S.KTab w) (w0 : World) (hw0 : Below w0.heap.size w0 w) (hsw : w0.heap.size ≤ s) (F : Fr) (xw : Option Addr) (lw cw : Nat) (ws : List Wp) (xb : Option Addr) (lb cb : Nat) (body : List Int) (hFr : FrIn w0 F xw lw cw ws xb lb cb body) (fits : Bool) (hd : List (Int × List Int)) (hh : okHs8 hd) :
    Calls Tryd.prog 23 #[.pointer (some ⟨H, 0, none⟩), .pointer (some ⟨R, 0, none⟩), .agg (deedC F fits false hd).toArray] w fun e w' => e = .returned (.bool true) ∧ (∃ v' us' vp' T' P', BothC w' s H b v' R us' vp' T' P') ∧ Below s w w' := by
  obtain ⟨f70, -⟩ := fr_parts F hFr.prev hFr.mac
  obtain ⟨hdl, d0, d70, d71, -⟩ := deedC_parts F fits false hd f70 hh
  obtain ⟨Z, hzv, hz1, hZ⟩ := zeroFrameH
  have hZl : Z.length = 70 := by rw [hZ]; rfl
  have hb0 : Below w.heap.size w (w.alloc (.cells (deedC F fits false hd).toArray 53)) := (Below.refl _ _).alloc (Nat.le_refl _) _
  have hD0 := CellsAt.new w 53 (deedC F fits false hd)
  have iF : (Tryd.prog.info? 38).map (·.size) = some F.cells.length := by rw [f70]; exact sizeFrame
  have rF : (w.alloc (.cells (deedC F fits false hd).toArray 53)).rangeAt w.heap.size 0 F.cells := by have := hD0.range 0 70; rw [d0] at this; exact this
  have c71 := hD0.cell 71
  rw [d71] at c71
  have HC70 : Veil (∀ W, CellsAt W w.heap.size 53 (deedC F fits false hd) → W.cell? ⟨w.heap.size, 70, none⟩ = some (.bool fits)) := ⟨fun W h => by have := h.cell 70; rw [d70] at this; exact this⟩
  have HB := Veil.mk (fun W (hb : Below w.heap.size w W) => hB.far hb)
  have HKT : Veil (∀ W, Below w.heap.size w W → S.KTab W) := ⟨fun W hb => hKT.below hb⟩
  have HIN : Veil (∀ k, chainP H b v k ∨ refB R us vp k → k < w.heap.size) := ⟨fun k hk => by
    rcases hk with h | h
    · exact (hB.c.inside k h).1
    · exact (hB.r.inside k h).1⟩
  have HINS : Veil (∀ k, chainP H b v k ∨ refB R us vp k → s ≤ k) := ⟨fun k hk => by
    rcases hk with h | h
    · exact (hB.c.inside k h).2
    · exact (hB.r.inside k h).2⟩
  have hok := hB.c.ok
  have h1F := fr_one F hFr.wraps hFr.body_
  have HFR := Veil.mk hFr
  have hA0 := CellsAt.new (w.alloc (.cells (deedC F fits false hd).toArray 53)) 38 Z
  rw [World.size_alloc] at hA0
  have hD1 := (hD0.alloc (.cells Z.toArray 38)).setRowM (g' := w.heap.size + 1) F.cells.toArray (by omega)
  have hA1 := hA0.setRow F.cells
  have hb1 : Below w.heap.size w (((w.alloc (.cells (deedC F fits false hd).toArray 53)).alloc (.cells Z.toArray 38)).setRow (w.heap.size + 1) F.cells.toArray) := below_setRow (hb0.alloc (by simp) _) (by omega) _
  obtain ⟨DC, hDC⟩ : ∃ q, deedC F fits false hd = q := ⟨_, rfl⟩
  rw [hDC] at hb0 hD0 rF c71 HC70 hA0 hD1 hA1 hb1 ⊢
  clear hDC hdl d70 d71 d0 hB hZ hKT hFr hb0 hh
  have uF : Tryd.prog.underlying 38 = _ := Tryd.underlying38
  go_enter Tryd.func23, Tryd.ntmps23
  go_upto_region 4 with (first
    | (refine wpList_ldv rfl 38 _ rfl _ _ rfl F.cells rF Tryd.underlying38 rfl iF ?_)
    | (refine wpList_stv rfl 38 _ _ rfl _ rfl rfl hA0 iF (by rw [f70, hZl]) h1F ?_))
  refine forget (p := fun y => Code.wp _ _ _ _ y) (fun W => Below w.heap.size w W ∧ CellsAt W w.heap.size 53 DC ∧ CellsAt W (w.heap.size + 1) 38 F.cells) ⟨hb1, hD1, hA1⟩ ?_
  clear hb1 hD1 hA1 hA0 hD0 rF c71 iF h1F f70 hzv hz1
  obtain ⟨A, hA⟩ : ∃ q, w.heap.size + 1 = q := ⟨_, rfl⟩
  have HA := Veil.mk hA
  rw [hA]
  clear hA
  rintro W ⟨hb, hD, hAc⟩
  have c37 : W.cell? ⟨A, 37, none⟩ = some (.slice xb lb cb) := by
    obtain ⟨_, _, _, _, _, _, q7, _⟩ := fr_parts F HFR.out.prev HFR.out.mac
    rw [hAc.cell, q7, HFR.out.body_]
  have f37 := hAc.frozen 37
  by_cases hl : 300 < lb
  focus
    obtain ⟨b2, o2, rfl⟩ : ∃ b o, xb = some ⟨b, o, none⟩ := by
      rcases HFR.out.hb.at_ with h0 | ⟨b, o, hx, _⟩
      · omega
      · exact ⟨b, o, hx⟩
    have hcb := HFR.out.hb.le
    have hcut := fun wx => run_cutB3 wx b2 o2 lb cb (by omega)
    have hl' : (lb : Int) > 300 := by omega
    go_upto_region 6 with fail
    refine forget (p := fun y => Code.wp _ _ _ _ y) (fun W => Below w.heap.size w W ∧ CellsAt W w.heap.size 53 DC ∧ ∃ F xb lb cb body, FrIn w0 F xw lw cw ws xb lb cb body ∧ CellsAt W A 38 F.cells) ⟨hb.setCell (by show w.heap.size ≤ A; have := HA.out; omega) _, hD.congr (Below.heap_setCell _ _ _ _ (by show w.heap.size ≠ A; have := HA.out; omega)), _, _, _, _, _, HFR.out.cutB 300 (by omega), by rw [← fr_setB3 F _ HFR.out.prev]; exact hAc.set 37 _⟩ ?_
    clear hcut hl hl' hcb hb hD hAc c37 f37 HFR
    clear W
  rotate_left
  focus
    have hl' : ¬ (lb : Int) > 300 := by omega
    go_upto_region 6 with fail
    refine forget (p := fun y => Code.wp _ _ _ _ y) (fun W => Below w.heap.size w W ∧ CellsAt W w.heap.size 53 DC ∧ ∃ F xb lb cb body, FrIn w0 F xw lw cw ws xb lb cb body ∧ CellsAt W A 38 F.cells) ⟨hb, hD, _, _, _, _, _, HFR.out, hAc⟩ ?_
    clear hl hl' hb hD hAc c37 f37 HFR
    clear W
  all_goals (
    rintro W ⟨hb, hD, F1, xb1, lb1, cb1, body1, hFr1, hAc⟩
    have HFR := Veil.mk hFr1
    clear hFr1
    have c36 : W.cell? ⟨A, 36, none⟩ = some (.slice xw lw cw) := by
      obtain ⟨_, _, _, _, _, q6, _⟩ := fr_parts F1 HFR.out.prev HFR.out.mac
      rw [hAc.cell, q6, HFR.out.wraps]
    have f36 := hAc.frozen 36
    by_cases hl : 3 < lw
    focus
      obtain ⟨b3, o3, rfl⟩ : ∃ b o, xw = some ⟨b, o, none⟩ := by
        rcases HFR.out.hw.at_ with h0 | ⟨b, o, hx, _⟩
        · omega
        · exact ⟨b, o, hx⟩
      have hcb := HFR.out.hw.le
      have hcut := fun wx => run_cutW3 wx b3 o3 lw cw (by omega)
      have hl' : (lw : Int) > 3 := by omega
      go_upto_region 8 with fail
      refine forget (p := fun y => Code.wp _ _ _ _ y) (fun W => Below w.heap.size w W ∧ CellsAt W w.heap.size 53 DC ∧ ∃ F xw lw cw ws xb lb cb body, FrIn w0 F xw lw cw ws xb lb cb body ∧ CellsAt W A 38 F.cells) ⟨hb.setCell (by show w.heap.size ≤ A; have := HA.out; omega) _, hD.congr (Below.heap_setCell _ _ _ _ (by show w.heap.size ≠ A; have := HA.out; omega)), _, _, _, _, _, _, _, _, _, HFR.out.cutW 3 (by omega), by rw [← fr_setW3 F1 _ HFR.out.prev]; exact hAc.set 36 _⟩ ?_
      clear hcut hl hl' hcb hb hD hAc c36 f36 HFR
      clear W
    rotate_left
    focus
      have hl' : ¬ (lw : Int) > 3 := by omega
      go_upto_region 8 with fail
      refine forget (p := fun y => Code.wp _ _ _ _ y) (fun W => Below w.heap.size w W ∧ CellsAt W w.heap.size 53 DC ∧ ∃ F xw lw cw ws xb lb cb body, FrIn w0 F xw lw cw ws xb lb cb body ∧ CellsAt W A 38 F.cells) ⟨hb, hD, _, _, _, _, _, _, _, _, _, HFR.out, hAc⟩ ?_
      clear hl hl' hb hD hAc c36 f36 HFR
      clear W
    all_goals (
      rintro W ⟨hb, hD, F2, xw2, lw2, cw2, ws2, xb2, lb2, cb2, body2, hFr2, hAc⟩
      have HFR := Veil.mk hFr2
      clear hFr2
      obtain ⟨a, ha⟩ : ∃ a : Nat, F2.author = (a : Int) := Int.eq_ofNat_of_zero_le HFR.out.inF.author.1
      have HAU := Veil.mk ha
      clear ha
      have ha0 : (0 : Int) ≤ (a : Int) := by omega
      have HA0 : Veil (∀ (W : World) (F' : Fr), F'.author = (a : Int) → CellsAt W A 38 F'.cells → W.cell? ⟨A, 0, none⟩ = some (.int .u8 (a : Int))) := ⟨fun W F' h1 h2 => by have := h2.cell 0; rw [← h1]; exact this⟩
      have a0 := HA0.out W F2 HAU.out hAc
      have c70 := HC70.out W hD
      have h3 : (fits = true ∧ a < 8) ∨ fits = false ∨ (fits = true ∧ ¬ a < 8) := by
        cases fits
        · exact .inr (.inl rfl)
        · by_cases q : a < 8
          · exact .inl ⟨rfl, q⟩
          · exact .inr (.inr ⟨rfl, q⟩)
      rcases h3 with ⟨hfit, ha8⟩ | hfit | ⟨hfit, ha8⟩
      focus
        subst hfit
        have ha8i : (a : Int) < 8 := by omega
        go_upto_region 9 with fail
        have hB0 := hb.drew
        have hhd := rHeads_any s R us vp T P W.drew (HB.out W.drew hB0).r
        have HIX := Veil.mk (headIx hok a ha8)
        have hKl := (hok.at_ok a (cnt T a)).1
        have hKok := hok.at_ok a (cnt T a)
        have HFD : Veil (∀ wx, (Instr.field 40 (.agg (headC (headOf T a)).toArray) 1).run Tryd.prog wx = .ok (.agg (row .u8 (atN T a (cnt T a)))) wx) := ⟨headSum _ _ hKl⟩
        have HFR2 := Veil.mk (HFR.out.withPrev hKok)
        have HWP := Veil.mk (withPrev_cells F2 (atN T a (cnt T a)) HFR.out.prev)
        have hFl : F2.cells.length = 70 := (fr_parts F2 HFR.out.prev HFR.out.mac).1
        generalize atN T a (cnt T a) = KP at HFD hKl hKok HFR2 HWP
        generalize headOf T a = HD0 at HIX HFD
        have iK : (Tryd.prog.info? 34).map (·.size) = some (KP.map (Value.int .u8)).length := by rw [List.length_map, hKl]; exact sizeKeyH
        have h1K : ∀ v ∈ KP.map (Value.int .u8), v.oneCell' = true := fun v hv => by obtain ⟨x, _, rfl⟩ := List.mem_map.1 hv; rfl
        refine wp_region_gateT (fun w' => w'.cell? ⟨A, 0, none⟩ = some (.int .u8 (a : Int))) (fun _ => True) 99 (by kernel_rfl) ?_
        have hT : (fun w' : World => w'.cell? ⟨A, 0, none⟩ = some (.int .u8 (a : Int))) W.drew := a0
        have hS := trivial
        refine wpAnyT_held (i := 0) (v := ?_) rfl (by kernel_rfl) (by kernel_rfl) (by kernel_rfl) (fun _ _ _ h => h) (by kernel_rfl) hT (fun _ => hS) (by kernel_rfl) ?_ ?_
        rotate_left
        · intro wx hSw; go_split_ands; go_simp; try with_reducible rfl
        simp only [Act.put, List.getElem_toArray, List.getElem_cons_succ, List.getElem_cons_zero, List.setIfInBounds_toArray, List.set_cons_zero, List.set_cons_succ]
        refine wpAnyT_held (i := 2) (v := ?_) rfl (by kernel_rfl) (by kernel_rfl) (by kernel_rfl) (fun _ _ _ h => h) (by kernel_rfl) hT (fun _ => hS) (by kernel_rfl) ?_ ?_
        rotate_left
        · intro wx hSw; go_split_ands; go_simp; try with_reducible rfl
        simp only [Act.put, List.getElem_toArray, List.getElem_cons_succ, List.getElem_cons_zero, List.setIfInBounds_toArray, List.set_cons_zero, List.set_cons_succ]
        refine wpAnyT_held (i := 3) (v := ?_) rfl (by kernel_rfl) (by kernel_rfl) (by kernel_rfl) (fun _ _ _ h => h) (by kernel_rfl) hT (fun _ => hS) (by kernel_rfl) ?_ ?_
        rotate_left
        · intro wx hSw; go_split_ands; go_simp; try with_reducible rfl
        simp only [Act.put, List.getElem_toArray, List.getElem_cons_succ, List.getElem_cons_zero, List.setIfInBounds_toArray, List.set_cons_zero, List.set_cons_succ]
        refine wpAnyT_one (i := 1) rfl (by kernel_rfl) (by kernel_rfl) (fun K hK => ?_)
        refine wpx_call _ _ (by kernel_rfl) (hhd.mono ?_)
        rintro e w2 ⟨rfl, hb2⟩
        refine ⟨_, rfl, ?_⟩
        have hA2 := (hAc.congr (w' := W.drew) rfl).farM hb2
        have hD2 := (hD.congr (w' := W.drew) rfl).farM hb2
        have hB2 := hB0.trans (hb2.mono hB0.size)
        replace hT : (fun w' : World => w'.cell? ⟨A, 0, none⟩ = some (.int .u8 (a : Int))) w2 := HA0.out w2 F2 HAU.out hA2
        refine hK.out _ _ hT (fun _ => hS) ?_
        clear hK K
        try simp only [Act.put, List.getElem_toArray, List.getElem_cons_succ, List.getElem_cons_zero, List.setIfInBounds_toArray, List.set_cons_zero, List.set_cons_succ]
        refine wpAnyT_held (i := 4) (v := .agg (headC HD0).toArray) rfl (by kernel_rfl) (by kernel_rfl) (by kernel_rfl) (fun _ _ _ h => h) (by kernel_rfl) hT (fun _ => hS) (by kernel_rfl) (fun wx h => exec_ixH rfl rfl rfl (HIX.out wx)) ?_
        simp only [Act.put, List.getElem_toArray, List.getElem_cons_succ, List.getElem_cons_zero, List.setIfInBounds_toArray, List.set_cons_zero, List.set_cons_succ]
        refine wpAnyT_held (i := 5) (v := .agg (row .u8 KP)) rfl (by kernel_rfl) (by kernel_rfl) (by kernel_rfl) (fun _ _ _ h => h) (by kernel_rfl) hT (fun _ => hS) (by kernel_rfl) (fun wx h => exec_fdH rfl rfl (HFD.out wx)) ?_
        simp only [Act.put, List.getElem_toArray, List.getElem_cons_succ, List.getElem_cons_zero, List.setIfInBounds_toArray, List.set_cons_zero, List.set_cons_succ]
        refine wpAnyT_held (i := 6) (v := ?_) rfl (by kernel_rfl) (by kernel_rfl) (by kernel_rfl) (fun _ _ _ h => h) (by kernel_rfl) hT (fun _ => hS) (by kernel_rfl) ?_ ?_
        rotate_left
        · intro wx hSw; go_split_ands; go_simp; try with_reducible rfl
        simp only [Act.put, List.getElem_toArray, List.getElem_cons_succ, List.getElem_cons_zero, List.setIfInBounds_toArray, List.set_cons_zero, List.set_cons_succ]
        refine wpAnyT_one (i := 7) rfl (by kernel_rfl) (by kernel_rfl) (fun K hK => ?_)
        refine wp_stmE 34 _ _ rfl A 4 rfl (cs := KP.map (Value.int .u8)) rfl hA2 iK (by rw [List.length_map, hKl, hFl]; omega) h1K ?_
        rw [List.length_map, hKl, HWP.out]
        have hA3 := hA2.setRow (F2.withPrev KP).cells
        have hB3 : Below w.heap.size w (w2.setRow A (F2.withPrev KP).cells.toArray) := below_setRow hB2 (by have := HA.out; omega) _
        replace hT : (fun w' : World => w'.cell? ⟨A, 0, none⟩ = some (.int .u8 (a : Int))) (w2.setRow A (F2.withPrev KP).cells.toArray) := HA0.out _ (F2.withPrev KP) HAU.out hA3
        refine hK.out _ _ hT (fun _ => hS) ?_
        clear hK K
        try simp only [Act.put, List.getElem_toArray, List.getElem_cons_succ, List.getElem_cons_zero, List.setIfInBounds_toArray, List.set_cons_zero, List.set_cons_succ]
        refine wpAnyT_done (by kernel_rfl) ?_ _
        refine forget (p := fun y => Exit.then _ _ _ _ y) (fun W => Below w.heap.size w W ∧ ∃ F xw lw cw ws xb lb cb body, FrIn w0 F xw lw cw ws xb lb cb body ∧ CellsAt W A 38 F.cells) ⟨hB3, _, _, _, _, _, _, _, _, _, HFR2.out, hA3⟩ ?_
        clear hT hS hB3 hA3 hD2 hA2 hB2 hb2 hhd hB0 hb hAc hD a0 c70 HIX HFD HWP hKl hKok iK h1K HFR HFR2 HA0 hFl HAU
        clear w2 W
        rintro W ⟨hb, hX⟩
        go_upto_region 10 with fail
        revert hX hb
        revert W
      rotate_left
      focus
        subst hfit
        go_upto_region 10 with fail
        have hX : ∃ F xw lw cw ws xb lb cb body, FrIn w0 F xw lw cw ws xb lb cb body ∧ CellsAt W A 38 F.cells := ⟨_, _, _, _, _, _, _, _, _, HFR.out, hAc⟩
        clear HFR hAc HA0 a0 c70 hD HAU
        revert hX hb
        revert W
      rotate_left
      focus
        subst hfit
        have ha8i : ¬ (a : Int) < 8 := by omega
        go_upto_region 10 with fail
        have hX : ∃ F xw lw cw ws xb lb cb body, FrIn w0 F xw lw cw ws xb lb cb body ∧ CellsAt W A 38 F.cells := ⟨_, _, _, _, _, _, _, _, _, HFR.out, hAc⟩
        clear HFR hAc HA0 a0 c70 hD HAU
        revert hX hb
        revert W
      all_goals (
        intro W hb hX
        obtain ⟨F3, xw3, lw3, cw3, ws3, xb3, lb3, cb3, body3, hFr3, hAc⟩ := hX
        obtain ⟨a3, ha3⟩ : ∃ a : Nat, F3.author = (a : Int) := Int.eq_ofNat_of_zero_le hFr3.inF.author.1
        obtain ⟨n3, hn3⟩ : ∃ n : Nat, F3.number = (n : Int) := Int.eq_ofNat_of_zero_le hFr3.inF.number.1
        have iF3 : (Tryd.prog.info? 38).map (·.size) = some F3.cells.length := by rw [(fr_parts F3 hFr3.prev hFr3.mac).1]; exact sizeFrame
        have hAge := HA.out
        have hbd := hb.drew
        have hszW := hbd.size
        have hA1 := hAc.congr (w' := W.drew) rfl
        have hBW := HB.out W.drew hbd
        have h1 := look_any _ _ _ _ _ _ W.drew F3 xw3 lw3 cw3 ws3 xb3 lb3 cb3 body3 a3 n3 hBW.c (hFr3.below (hw0.trans (hbd.mono hw0.size))) (HKT.out _ hbd) ha3 hn3
        have H2 : Veil (∀ w2, Below W.drew.heap.size W.drew w2 → Calls Tryd.prog 39 #[.pointer (some ⟨R, 0, none⟩), .agg F3.cells.toArray] w2 fun e w' => e = .returned (.int .i64 (lookN T a3 n3 F3.prev (fsum F3 lw3 lb3 ws3 body3))) ∧ Below w2.heap.size w2 w') := ⟨fun w2 hb2 => rLook_any s R us vp T P w2 F3 xw3 lw3 cw3 ws3 xb3 lb3 cb3 body3 a3 n3 (hBW.far hb2).r (hFr3.below (hw0.trans ((hbd.trans (hb2.mono hszW)).mono hw0.size))) ha3 hn3⟩
        have H3 : Veil (∀ w2, Below W.drew.heap.size W.drew w2 → Calls Tryd.prog 15 #[.pointer (some ⟨H, 0, none⟩), .agg F3.cells.toArray] w2 fun e w' => e = .returned (.int .i64 (lookN T a3 n3 F3.prev (fsum F3 lw3 lb3 ws3 body3))) ∧ ∃ v', ChainTo w2 w' s H b v v' (addSt T P a3 n3 F3.prev (fsum F3 lw3 lb3 ws3 body3)).1 (addSt T P a3 n3 F3.prev (fsum F3 lw3 lb3 ws3 body3)).2) := ⟨fun w2 hb2 => add_any _ _ _ _ _ _ w2 F3 xw3 lw3 cw3 ws3 xb3 lb3 cb3 body3 a3 n3 (hBW.far hb2).c (hFr3.below (hw0.trans ((hbd.trans (hb2.mono hszW)).mono hw0.size))) (HKT.out _ (hbd.trans (hb2.mono hszW))) ha3 hn3 (by have := hb2.size; omega)⟩
        have H4 : Veil (∀ w3 w4 v', Below W.drew.heap.size W.drew w3 → ChainTo w3 w4 s H b v v' (addSt T P a3 n3 F3.prev (fsum F3 lw3 lb3 ws3 body3)).1 (addSt T P a3 n3 F3.prev (fsum F3 lw3 lb3 ws3 body3)).2 → CellsAt w4 A 38 F3.cells ∧ Calls Tryd.prog 40 #[.pointer (some ⟨R, 0, none⟩), .agg F3.cells.toArray] w4 fun e w' => e = .returned (.int .i64 (lookN T a3 n3 F3.prev (fsum F3 lw3 lb3 ws3 body3))) ∧ CellsAt w' A 38 F3.cells ∧ (∃ v' us' vp' T' P', BothC w' s H b v' R us' vp' T' P') ∧ Below s w w') := ⟨fun w3 w4 v' hb3 hto => by
          have hB3 := hBW.far hb3
          have hbw3 := hbd.trans (hb3.mono hszW)
          have hH4 := hB3.stepC hto
          have hA3 := hA1.farM hb3
          have hA4 : CellsAt w4 A 38 F3.cells := hA3.congr (hto.turn.block _ hA3.lt (fun hp => by have := HIN.out _ (.inl hp); omega))
          have hbs4 : Below s w3 w4 := hto.below hB3.c (by have := hb3.size; omega)
          have hbs : Below s w w4 := (hbw3.mono hs).trans hbs4
          have hFr4 : FrIn w4 F3 xw3 lw3 cw3 ws3 xb3 lb3 cb3 body3 := hFr3.below (hw0.trans (hbs.mono hsw))
          have := rAdd_any s R us vp T P w4 F3 xw3 lw3 cw3 ws3 xb3 lb3 cb3 body3 a3 n3 hH4.r hFr4 ha3 hn3 (by have := hbs.size; omega)
          refine ⟨hA4, this.mono ?_⟩
          rintro e w5 ⟨he, us5, vp5, hto5, hbl5⟩
          have hB5 := hH4.stepR hto5 hbl5 (hB3.good.step hB3.c.ok a3 n3 F3.prev (fsum F3 lw3 lb3 ws3 body3))
          refine ⟨he, hA4.congr (hto5.turn.block _ hA4.lt (fun hp => ?_)), ⟨_, _, _, _, _, hB5⟩, hbs.trans (hto5.turn.below (by have := hbs.size; omega) (fun k hk => HINS.out k (.inr ?_)))⟩
          · have h2 : A < w.heap.size := HIN.out _ (.inr (by rcases hp with e | e; exact .inl e; exact .inr (.inl e)))
            omega
          · rcases hk with e | e; exact .inl e; exact .inr (.inl e)⟩
        clear hFr3 ha3 hn3 hBW
        generalize fsum F3 lw3 lb3 ws3 body3 = SM at h1 H2 H3 H4
        generalize (addSt T P a3 n3 F3.prev SM).1 = TT at H3 H4
        generalize (addSt T P a3 n3 F3.prev SM).2 = PP at H3 H4
        generalize lookN T a3 n3 F3.prev SM = LN at h1 H2 H3 H4
        refine wp_region_gateT (fun w' => w'.rangeAt A 0 F3.cells) (fun _ => True) 99 (by kernel_rfl) ?_
        have hT : (fun w' : World => w'.rangeAt A 0 F3.cells) W.drew := hA1.wholeM
        have hS := trivial
        refine wpAnyT_held (i := 0) (v := ?_) rfl (by kernel_rfl) (by kernel_rfl) (by kernel_rfl) (fun _ _ _ h => h) (by kernel_rfl) hT (fun _ => hS) (by kernel_rfl) ?_ ?_
        rotate_left
        · intro wx hSw; go_split_ands; go_simp; try with_reducible rfl
        simp only [Act.put, List.getElem_toArray, List.getElem_cons_succ, List.getElem_cons_zero, List.setIfInBounds_toArray, List.set_cons_zero, List.set_cons_succ]
        refine wpAnyT_held (i := 3) (v := ?_) rfl (by kernel_rfl) (by kernel_rfl) (by kernel_rfl) (fun _ _ _ h => h) (by kernel_rfl) hT (fun _ => hS) (by kernel_rfl) ?_ ?_
        rotate_left
        · intro wx hSw; go_split_ands; go_simp; try with_reducible rfl
        simp only [Act.put, List.getElem_toArray, List.getElem_cons_succ, List.getElem_cons_zero, List.setIfInBounds_toArray, List.set_cons_zero, List.set_cons_succ]
        refine wpAnyT_load (i := 1) (dst := some 52) (ty := 38) (x := .tmp 7) (b := A) (o := (0)) (cs := F3.cells) (by kernel_rfl) (by kernel_rfl) (by kernel_rfl) (by kernel_rfl) (by kernel_rfl) (fun _ _ _ h => h) (by kernel_rfl) hT (fun _ => hS) (by kernel_rfl) (fun _ h => h) uF rfl iF3 ?_
        simp only [Act.put, List.getElem_toArray, List.getElem_cons_succ, List.getElem_cons_zero, List.setIfInBounds_toArray, List.set_cons_zero, List.set_cons_succ]
        refine wpAnyT_load (i := 4) (dst := some 55) (ty := 38) (x := .tmp 7) (b := A) (o := (0)) (cs := F3.cells) (by kernel_rfl) (by kernel_rfl) (by kernel_rfl) (by kernel_rfl) (by kernel_rfl) (fun _ _ _ h => h) (by kernel_rfl) hT (fun _ => hS) (by kernel_rfl) (fun _ h => h) uF rfl iF3 ?_
        simp only [Act.put, List.getElem_toArray, List.getElem_cons_succ, List.getElem_cons_zero, List.setIfInBounds_toArray, List.set_cons_zero, List.set_cons_succ]
        refine wpAnyT_one (i := 2) rfl (by kernel_rfl) (by kernel_rfl) (fun K hK => ?_)
        refine wpx_call _ _ (by kernel_rfl) (h1.mono ?_)
        rintro e w2 ⟨rfl, hb2⟩
        refine ⟨_, rfl, ?_⟩
        have h2 := H2.out w2 hb2
        replace hT : (fun w' : World => w'.rangeAt A 0 F3.cells) w2 := (hA1.farM hb2).wholeM
        refine hK.out _ _ hT (fun _ => hS) ?_
        clear hK K
        try simp only [Act.put, List.getElem_toArray, List.getElem_cons_succ, List.getElem_cons_zero, List.setIfInBounds_toArray, List.set_cons_zero, List.set_cons_succ]
        refine wpAnyT_one (i := 5) rfl (by kernel_rfl) (by kernel_rfl) (fun K hK => ?_)
        refine wpx_call _ _ (by kernel_rfl) (h2.mono ?_)
        rintro e w3 ⟨rfl, hb3'⟩
        refine ⟨_, rfl, ?_⟩
        have hb3 := hb2.trans (hb3'.mono hb2.size)
        have h3 := H3.out w3 hb3
        replace hT : (fun w' : World => w'.rangeAt A 0 F3.cells) w3 := (hA1.farM hb3).wholeM
        refine hK.out _ _ hT (fun _ => hS) ?_
        clear hK K
        try simp only [Act.put, List.getElem_toArray, List.getElem_cons_succ, List.getElem_cons_zero, List.setIfInBounds_toArray, List.set_cons_zero, List.set_cons_succ]
        refine wpAnyT_held (i := 6) (v := .bool true) rfl (by kernel_rfl) (by kernel_rfl) (by kernel_rfl) (fun _ _ _ h => h) (by kernel_rfl) hT (fun _ => hS) (by kernel_rfl) ?_ ?_
        · intro wx hSw; go_split_ands; go_simp
        simp only [Act.put, List.getElem_toArray, List.getElem_cons_succ, List.getElem_cons_zero, List.setIfInBounds_toArray, List.set_cons_zero, List.set_cons_succ]
        refine wpAnyT_held (i := 7) (v := ?_) rfl (by kernel_rfl) (by kernel_rfl) (by kernel_rfl) (fun _ _ _ h => h) (by kernel_rfl) hT (fun _ => hS) (by kernel_rfl) ?_ ?_
        rotate_left
        · intro wx hSw; go_split_ands; go_simp; try with_reducible rfl
        simp only [Act.put, List.getElem_toArray, List.getElem_cons_succ, List.getElem_cons_zero, List.setIfInBounds_toArray, List.set_cons_zero, List.set_cons_succ]
        refine wpAnyT_held (i := 8) (v := ?_) rfl (by kernel_rfl) (by kernel_rfl) (by kernel_rfl) (fun _ _ _ h => h) (by kernel_rfl) hT (fun _ => hS) (by kernel_rfl) ?_ ?_
        rotate_left
        · intro wx hSw; go_split_ands; go_simp; try with_reducible rfl
        simp only [Act.put, List.getElem_toArray, List.getElem_cons_succ, List.getElem_cons_zero, List.setIfInBounds_toArray, List.set_cons_zero, List.set_cons_succ]
        refine wpAnyT_held (i := 11) (v := ?_) rfl (by kernel_rfl) (by kernel_rfl) (by kernel_rfl) (fun _ _ _ h => h) (by kernel_rfl) hT (fun _ => hS) (by kernel_rfl) ?_ ?_
        rotate_left
        · intro wx hSw; go_split_ands; go_simp; try with_reducible rfl
        simp only [Act.put, List.getElem_toArray, List.getElem_cons_succ, List.getElem_cons_zero, List.setIfInBounds_toArray, List.set_cons_zero, List.set_cons_succ]
        refine wpAnyT_load (i := 9) (dst := some 60) (ty := 38) (x := .tmp 7) (b := A) (o := (0)) (cs := F3.cells) (by kernel_rfl) (by kernel_rfl) (by kernel_rfl) (by kernel_rfl) (by kernel_rfl) (fun _ _ _ h => h) (by kernel_rfl) hT (fun _ => hS) (by kernel_rfl) (fun _ h => h) uF rfl iF3 ?_
        simp only [Act.put, List.getElem_toArray, List.getElem_cons_succ, List.getElem_cons_zero, List.setIfInBounds_toArray, List.set_cons_zero, List.set_cons_succ]
        refine wpAnyT_load (i := 12) (dst := some 63) (ty := 38) (x := .tmp 7) (b := A) (o := (0)) (cs := F3.cells) (by kernel_rfl) (by kernel_rfl) (by kernel_rfl) (by kernel_rfl) (by kernel_rfl) (fun _ _ _ h => h) (by kernel_rfl) hT (fun _ => hS) (by kernel_rfl) (fun _ h => h) uF rfl iF3 ?_
        simp only [Act.put, List.getElem_toArray, List.getElem_cons_succ, List.getElem_cons_zero, List.setIfInBounds_toArray, List.set_cons_zero, List.set_cons_succ]
        refine wpAnyT_one (i := 10) rfl (by kernel_rfl) (by kernel_rfl) (fun K hK => ?_)
        refine wpx_call _ _ (by kernel_rfl) (h3.mono ?_)
        rintro e w4 ⟨rfl, v4, hto4⟩
        refine ⟨_, rfl, ?_⟩
        obtain ⟨hA4, h4⟩ := H4.out w3 w4 v4 hb3 hto4
        replace hT : (fun w' : World => w'.rangeAt A 0 F3.cells) w4 := hA4.wholeM
        refine hK.out _ _ hT (fun _ => hS) ?_
        clear hK K
        try simp only [Act.put, List.getElem_toArray, List.getElem_cons_succ, List.getElem_cons_zero, List.setIfInBounds_toArray, List.set_cons_zero, List.set_cons_succ]
        refine wpAnyT_one (i := 13) rfl (by kernel_rfl) (by kernel_rfl) (fun K hK => ?_)
        refine wpx_call _ _ (by kernel_rfl) (h4.mono ?_)
        rintro e w5 ⟨rfl, hA5, hX5, hbs5⟩
        refine ⟨_, rfl, ?_⟩
        replace hT : (fun w' : World => w'.rangeAt A 0 F3.cells) w5 := hA5.wholeM
        refine hK.out _ _ hT (fun _ => hS) ?_
        clear hK K
        try simp only [Act.put, List.getElem_toArray, List.getElem_cons_succ, List.getElem_cons_zero, List.setIfInBounds_toArray, List.set_cons_zero, List.set_cons_succ]
        refine wpAnyT_held (i := 14) (v := .bool true) rfl (by kernel_rfl) (by kernel_rfl) (by kernel_rfl) (fun _ _ _ h => h) (by kernel_rfl) hT (fun _ => hS) (by kernel_rfl) ?_ ?_
        · intro wx hSw; go_split_ands; go_simp
        simp only [Act.put, List.getElem_toArray, List.getElem_cons_succ, List.getElem_cons_zero, List.setIfInBounds_toArray, List.set_cons_zero, List.set_cons_succ]
        refine wpAnyT_held (i := 15) (v := .bool true) rfl (by kernel_rfl) (by kernel_rfl) (by kernel_rfl) (fun _ _ _ h => h) (by kernel_rfl) hT (fun _ => hS) (by kernel_rfl) ?_ ?_
        · intro wx hSw; go_split_ands; go_simp
        simp only [Act.put, List.getElem_toArray, List.getElem_cons_succ, List.getElem_cons_zero, List.setIfInBounds_toArray, List.set_cons_zero, List.set_cons_succ]
        refine wpAnyT_held (i := 16) (v := ?_) rfl (by kernel_rfl) (by kernel_rfl) (by kernel_rfl) (fun _ _ _ h => h) (by kernel_rfl) hT (fun _ => hS) (by kernel_rfl) ?_ ?_
        rotate_left
        · intro wx hSw; go_split_ands; go_simp; try with_reducible rfl
        simp only [Act.put, List.getElem_toArray, List.getElem_cons_succ, List.getElem_cons_zero, List.setIfInBounds_toArray, List.set_cons_zero, List.set_cons_succ]
        refine wpAnyT_done (by kernel_rfl) ?_ _
        have HE := Veil.mk (And.intro hX5 hbs5)
        clear hT hS h1 h2 h3 h4 hX5 hbs5 hA5 hA4 hto4 hb3 hb2 hb3' H2 H3 H4 hA1 hAc
        go_wp2
        go_ret
        exact ⟨rfl, HE.out⟩)))
end
end Go.Proofs.YtgcidamdbidgiaaDoor
