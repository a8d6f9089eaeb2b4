/- Dc2 Gate7 -/
import Derived.Test.YtgmbmdmbnpkbbaaM34
import Derived.Test.YtgmbmdmbnpkbbaaM06
import Derived.Test.YtgmbmdmbnpkbbaaM03
namespace Go.Proofs.Ytgmbmdmbnpkbbaa
open Go.RowKit Go.Shelf
set_option maxRecDepth 20000
set_option linter.unusedSimpArgs false
theorem docC_parts (st : Ds) (p : Pl) (h : st.S.length = 8) : (docC st p)[0]? = some (.pointer (some ⟨p.R, 0, none⟩)) ∧ (docC st p)[1]? = some (.pointer (some ⟨p.H, 0, none⟩)) ∧ ((docC st p).drop 2).take 8 = st.S.map (Value.int .u32) ∧ (docC st p)[10]? = some p.v ∧ (docC st p)[11]? = some (.map (some p.fm)) ∧ (docC st p).length = 12 := by
  obtain ⟨N, B, S, L, F⟩ := st
  match S, h with
  | [_, _, _, _, _, _, _, _], _ => exact ⟨rfl, rfl, rfl, rfl, rfl, rfl⟩
section
variable {w : World} {base : Nat} {st : Ds} {p : Pl}
theorem DocAt.cR (h : DocAt w base st p) (hs : st.S.length = 8) : w.cell? ⟨p.D, 0, none⟩ = some (.pointer (some ⟨p.R, 0, none⟩)) := (h.box.cell 0).trans (docC_parts st p hs).1
theorem DocAt.cH (h : DocAt w base st p) (hs : st.S.length = 8) : w.cell? ⟨p.D, 1, none⟩ = some (.pointer (some ⟨p.H, 0, none⟩)) := (h.box.cell 1).trans (docC_parts st p hs).2.1
theorem DocAt.cS (h : DocAt w base st p) (hs : st.S.length = 8) : w.rangeAt p.D 2 (st.S.map (Value.int .u32)) := by
  have := h.box.range 2 8
  rw [(docC_parts st p hs).2.2.1] at this
  exact this
theorem DocAt.cV (h : DocAt w base st p) (hs : st.S.length = 8) : w.cell? ⟨p.D, 10, none⟩ = some p.v := (h.box.cell 10).trans (docC_parts st p hs).2.2.2.1
theorem DocAt.cF (h : DocAt w base st p) (hs : st.S.length = 8) : w.cell? ⟨p.D, 11, none⟩ = some (.map (some p.fm)) := (h.box.cell 11).trans (docC_parts st p hs).2.2.2.2.1
end
set_option maxHeartbeats 4000000 in
theorem dfull_any (base : Nat) (st : Ds) (p : Pl) (w : World) (hD : DocAt w base st p) (hG : GoodD st) :
    Calls Try.prog 42 #[.pointer (some ⟨p.D, 0, none⟩)] w fun r w' => r = .returned (.bool (decide (512 ≤ st.L.length))) ∧ w' = w := by
  have c10 := hD.cV hG.slen
  obtain ⟨x, c, hv⟩ := hD.evs.isSlice
  rw [List.length_map] at hv
  rw [hv] at c10
  obtain ⟨l, hl⟩ : ∃ q, st.L.length = q := ⟨_, rfl⟩
  rw [hl] at c10 ⊢
  generalize p.D = D at c10 ⊢
  clear hD hG hv hl
  go_enter Try.func42, Try.ntmps42
  go_wp2
  go_ret
  exact ⟨ret_bC (by simp; omega), rfl⟩
set_option maxHeartbeats 8000000 in
theorem drefuse_any (base : Nat) (st : Ds) (p : Pl) (e : Ev) (w : World) (hD : DocAt w base st p) (hG : GoodD st) (he : e.Ok) :
    Calls Try.prog 30 #[.pointer (some ⟨p.D, 0, none⟩), .agg e.cells.toArray] w fun r w' => r = .returned (.int .i64 (refD st e)) ∧ Below w.heap.size w w' := by
  have hB0 : Below w.heap.size w (w.alloc (.cells e.cells.toArray 32)) := (Below.refl _ _).alloc (Nat.le_refl _) _
  have hx0 := CellsAt.new w 32 e.cells
  have he1 := aev_len e he.past
  have iE : (Try.prog.info? 32).map (·.size) = some e.cells.length := by rw [he1]; kernel_rfl
  have iD : (Try.prog.info? 26).map (·.size) = some (dotC e.da e.ds).length := sizeDot
  have iV : (Try.prog.info? 28).map (·.size) = some (st.S.map (Value.int .u32)).length := by rw [List.length_map, hG.slen]; kernel_rfl
  have uE := Try.underlying32
  have uD := Try.underlying26
  have uV := Try.underlying28
  have HR : Veil (∀ W, Calls Try.prog 45 #[.agg e.cells.toArray] W fun x w' => x = .returned (.bool (rightB e)) ∧ Below W.heap.size W w') := ⟨fun W => right_okA e W he⟩
  have HH : Veil (∀ W, Calls Try.prog 37 #[.agg (st.S.map (Value.int .u32)).toArray, .agg (dotC e.da e.ds).toArray] W fun x w' => x = .returned (.bool (hasB st.S e.da e.ds)) ∧ Below W.heap.size W w') := ⟨fun W => chas_any st.S e.da e.ds W hG.slen he.dot.1.1 he.dot.2.1⟩
  have HRD : Veil (∀ W, Calls Try.prog 46 #[.agg (st.S.map (Value.int .u32)).toArray, .agg e.cells.toArray] W fun x w' => x = .returned (.bool (readyB st.S e)) ∧ Below W.heap.size W w') := ⟨fun W => cready_any st.S e W hG.slen (fun x hx => by have := hG.sval x hx; have := hG.llen; omega) he.past he.dot.1.1 he.dot.2.1 (by have := he.dot.2.2; omega) he.par.1.1 he.par.2.1⟩
  have HF : Veil (∀ W, DocAt W base st p → Calls Try.prog 42 #[.pointer (some ⟨p.D, 0, none⟩)] W fun r w' => r = .returned (.bool (decide (512 ≤ st.L.length))) ∧ w' = W) := ⟨fun W h => dfull_any base st p W h hG⟩
  have HT : Veil (∀ W, DocAt W base st p → CellsAt W w.heap.size 32 e.cells → W.rangeAt w.heap.size 0 e.cells ∧ W.rangeAt w.heap.size 0 (dotC e.da e.ds) ∧ W.rangeAt p.D 2 (st.S.map (Value.int .u32))) := ⟨fun W hb hx => by
    have h1 := hx.range 0 2
    rw [(ev_parts e he.past).1] at h1
    exact ⟨hx.wholeM, h1, hb.cS hG.slen⟩⟩
  have HN : Veil (refD st e = if rightB e = false then 3 else if hasB st.S e.da e.ds = true then 5 else if readyB st.S e = false then 6 else if 512 ≤ st.L.length then 10 else 0) := ⟨rfl⟩
  have hD0 := hD.far hB0
  obtain ⟨E, hE⟩ : ∃ E, e.cells = E := ⟨_, rfl⟩
  rw [hE] at hB0 hx0 iE HR HT he1 HRD hD0
  rw [hE]
  generalize refD st e = RN at HN ⊢
  generalize rightB e = RB at HR HN
  generalize hasB st.S e.da e.ds = HB at HH HN
  generalize readyB st.S e = RY at HRD HN
  generalize dotC e.da e.ds = DV at HH HT iD
  generalize st.S.map (Value.int .u32) = SV at HH HT iV HRD
  generalize hDD : p.D = D at HT HF ⊢
  clear he hE hD hG hDD
  go_enter Try.func30, Try.ntmps30
  go_upto_region 1 with fail
  refine forget (p := fun y => Code.wp _ _ _ _ y) (fun W => Below w.heap.size w W ∧ CellsAt W w.heap.size 32 E ∧ DocAt W base st p) ⟨hB0, hx0, hD0⟩ ?_
  clear hB0 hx0 hD0
  rintro W ⟨hB, hx, hD⟩
  have hrE := hx.wholeM
  have hr := HR.out W
  cases RB
  · replace HN : Veil (RN = 3) := ⟨HN.out⟩
    go_wp2_with (first
      | (refine wpList_ldv rfl 32 _ rfl w.heap.size 0 rfl E hrE uE rfl iE ?_)
      | (go_at_call 45; refine hr.mono ?_; rintro x W1 ⟨rfl, hb1⟩))
    go_ret
    exact ⟨by rw [HN.out]; rfl, hB.trans (hb1.mono hB.size)⟩
  replace HN : Veil (RN = if HB = true then 5 else if RY = false then 6 else if 512 ≤ st.L.length then 10 else 0) := ⟨HN.out⟩
  go_upto_region 3 with (first
      | (refine wpList_ldv rfl 32 _ rfl w.heap.size 0 rfl E hrE uE rfl iE ?_)
      | (go_at_call 45; refine hr.mono ?_; rintro x W1 ⟨rfl, hb1⟩))
  have hB1 := hB.trans (hb1.mono hB.size)
  have hx1 := hx.farM hb1
  have hD1 := hD.far hb1
  clear hb1 hr hrE hB hx hD W
  have H1 := Veil.mk (And.intro hB1 (And.intro hx1 hD1))
  have hb0 : Below W1.heap.size W1 W1.drew := (Below.refl _ _).drew
  have hT : (fun W : World => W.rangeAt w.heap.size 0 E ∧ W.rangeAt w.heap.size 0 DV ∧ W.rangeAt D 2 SV) W1.drew := HT.out _ (hD1.far hb0) (hx1.farM hb0)
  have hS : (fun _ : World => True) W1.drew := trivial
  clear hB1 hx1 hD1
  refine wp_region_gateT (fun W : World => W.rangeAt w.heap.size 0 E ∧ W.rangeAt w.heap.size 0 DV ∧ W.rangeAt D 2 SV) (fun _ => True) 99 (by kernel_rfl) ?_
  refine wpAnyT_held (i := 0) (v := ?_) rfl (by kernel_rfl) (by kernel_rfl) (by kernel_rfl) (fun _ _ _ h => h) (by kernel_rfl) hT (fun _ => hS) (by kernel_rfl) ?_ ?_
  rotate_left
  · intro wx hSw; go_split_ands; go_simp; try with_reducible rfl
  simp only [Act.put, List.getElem_toArray, List.getElem_cons_succ, List.getElem_cons_zero, List.setIfInBounds_toArray, List.set_cons_zero, List.set_cons_succ]
  refine wpAnyT_held (i := 1) (v := ?_) rfl (by kernel_rfl) (by kernel_rfl) (by kernel_rfl) (fun _ _ _ h => h) (by kernel_rfl) hT (fun _ => hS) (by kernel_rfl) ?_ ?_
  rotate_left
  · intro wx hSw; go_split_ands; go_simp; try with_reducible rfl
  simp only [Act.put, List.getElem_toArray, List.getElem_cons_succ, List.getElem_cons_zero, List.setIfInBounds_toArray, List.set_cons_zero, List.set_cons_succ]
  refine wpAnyT_held (i := 2) (v := ?_) rfl (by kernel_rfl) (by kernel_rfl) (by kernel_rfl) (fun _ _ _ h => h) (by kernel_rfl) hT (fun _ => hS) (by kernel_rfl) ?_ ?_
  rotate_left
  · intro wx hSw; go_split_ands; go_simp; try with_reducible rfl
  simp only [Act.put, List.getElem_toArray, List.getElem_cons_succ, List.getElem_cons_zero, List.setIfInBounds_toArray, List.set_cons_zero, List.set_cons_succ]
  refine wpAnyT_load (i := 3) (dst := some 13) (ty := 28) (x := .tmp 12) (b := D) (o := (2)) (cs := SV) (by kernel_rfl) (by kernel_rfl) (by kernel_rfl) (by kernel_rfl) (by kernel_rfl) (fun _ _ _ h => h) (by kernel_rfl) hT (fun _ => hS) (by kernel_rfl) (fun _ h => h.2.2) uV rfl iV ?_
  simp only [Act.put, List.getElem_toArray, List.getElem_cons_succ, List.getElem_cons_zero, List.setIfInBounds_toArray, List.set_cons_zero, List.set_cons_succ]
  refine wpAnyT_held (i := 4) (v := ?_) rfl (by kernel_rfl) (by kernel_rfl) (by kernel_rfl) (fun _ _ _ h => h) (by kernel_rfl) hT (fun _ => hS) (by kernel_rfl) ?_ ?_
  rotate_left
  · intro wx hSw; go_split_ands; go_simp; try with_reducible rfl
  simp only [Act.put, List.getElem_toArray, List.getElem_cons_succ, List.getElem_cons_zero, List.setIfInBounds_toArray, List.set_cons_zero, List.set_cons_succ]
  refine wpAnyT_load (i := 5) (dst := some 15) (ty := 26) (x := .tmp 14) (b := w.heap.size) (o := (0)) (cs := DV) (by kernel_rfl) (by kernel_rfl) (by kernel_rfl) (by kernel_rfl) (by kernel_rfl) (fun _ _ _ h => h) (by kernel_rfl) hT (fun _ => hS) (by kernel_rfl) (fun _ h => h.2.1) uD rfl iD ?_
  simp only [Act.put, List.getElem_toArray, List.getElem_cons_succ, List.getElem_cons_zero, List.setIfInBounds_toArray, List.set_cons_zero, List.set_cons_succ]
  refine wpAnyT_one (i := 6) rfl (by kernel_rfl) (by kernel_rfl) (fun K hK => ?_)
  refine wpx_call _ _ (by kernel_rfl) ((HH.out _).mono ?_)
  rintro y W2 ⟨rfl, hb2⟩
  refine ⟨_, rfl, ?_⟩
  replace hb2 : Below W1.heap.size W1 W2 := hb0.trans hb2
  replace hT := HT.out W2 (H1.out.2.2.far hb2) (H1.out.2.1.farM hb2)
  replace hS : (fun _ : World => True) W2 := trivial
  refine hK.out _ _ hT (fun _ => hS) ?_
  clear hK K
  try simp only [Act.put, List.getElem_toArray, List.getElem_cons_succ, List.getElem_cons_zero, List.setIfInBounds_toArray, List.set_cons_zero, List.set_cons_succ]
  refine wpAnyT_held (i := 7) (v := ?_) rfl (by kernel_rfl) (by kernel_rfl) (by kernel_rfl) (fun _ _ _ h => h) (by kernel_rfl) hT (fun _ => hS) (by kernel_rfl) ?_ ?_
  rotate_left
  · intro wx hSw; go_split_ands; go_simp; try with_reducible rfl
  simp only [Act.put, List.getElem_toArray, List.getElem_cons_succ, List.getElem_cons_zero, List.setIfInBounds_toArray, List.set_cons_zero, List.set_cons_succ]
  refine wpAnyT_done (by kernel_rfl) ?_ _
  have H2 : Veil (Below w.heap.size w W2 ∧ CellsAt W2 w.heap.size 32 E ∧ DocAt W2 base st p) := ⟨H1.out.1.trans (hb2.mono H1.out.1.size), H1.out.2.1.farM hb2, H1.out.2.2.far hb2⟩
  clear hT hS hb2 hb0 H1
  clear W1
  cases HB
  rotate_left
  · replace HN : Veil (RN = 5) := ⟨HN.out⟩
    go_wp2
    go_ret
    exact ⟨by rw [HN.out]; rfl, H2.out.1⟩
  replace HN : Veil (RN = if RY = false then 6 else if 512 ≤ st.L.length then 10 else 0) := ⟨HN.out⟩
  go_upto_region 5 with fail
  have hb0 : Below W2.heap.size W2 W2.drew := (Below.refl _ _).drew
  have hT : (fun W : World => W.rangeAt w.heap.size 0 E ∧ W.rangeAt w.heap.size 0 DV ∧ W.rangeAt D 2 SV) W2.drew := HT.out _ (H2.out.2.2.far hb0) (H2.out.2.1.farM hb0)
  have hS : (fun _ : World => True) W2.drew := trivial
  refine wp_region_gateT (fun W : World => W.rangeAt w.heap.size 0 E ∧ W.rangeAt w.heap.size 0 DV ∧ W.rangeAt D 2 SV) (fun _ => True) 99 (by kernel_rfl) ?_
  refine wpAnyT_held (i := 0) (v := ?_) rfl (by kernel_rfl) (by kernel_rfl) (by kernel_rfl) (fun _ _ _ h => h) (by kernel_rfl) hT (fun _ => hS) (by kernel_rfl) ?_ ?_
  rotate_left
  · intro wx hSw; go_split_ands; go_simp; try with_reducible rfl
  simp only [Act.put, List.getElem_toArray, List.getElem_cons_succ, List.getElem_cons_zero, List.setIfInBounds_toArray, List.set_cons_zero, List.set_cons_succ]
  refine wpAnyT_held (i := 1) (v := ?_) rfl (by kernel_rfl) (by kernel_rfl) (by kernel_rfl) (fun _ _ _ h => h) (by kernel_rfl) hT (fun _ => hS) (by kernel_rfl) ?_ ?_
  rotate_left
  · intro wx hSw; go_split_ands; go_simp; try with_reducible rfl
  simp only [Act.put, List.getElem_toArray, List.getElem_cons_succ, List.getElem_cons_zero, List.setIfInBounds_toArray, List.set_cons_zero, List.set_cons_succ]
  refine wpAnyT_held (i := 2) (v := ?_) rfl (by kernel_rfl) (by kernel_rfl) (by kernel_rfl) (fun _ _ _ h => h) (by kernel_rfl) hT (fun _ => hS) (by kernel_rfl) ?_ ?_
  rotate_left
  · intro wx hSw; go_split_ands; go_simp; try with_reducible rfl
  simp only [Act.put, List.getElem_toArray, List.getElem_cons_succ, List.getElem_cons_zero, List.setIfInBounds_toArray, List.set_cons_zero, List.set_cons_succ]
  refine wpAnyT_load (i := 3) (dst := some 21) (ty := 28) (x := .tmp 20) (b := D) (o := (2)) (cs := SV) (by kernel_rfl) (by kernel_rfl) (by kernel_rfl) (by kernel_rfl) (by kernel_rfl) (fun _ _ _ h => h) (by kernel_rfl) hT (fun _ => hS) (by kernel_rfl) (fun _ h => h.2.2) uV rfl iV ?_
  simp only [Act.put, List.getElem_toArray, List.getElem_cons_succ, List.getElem_cons_zero, List.setIfInBounds_toArray, List.set_cons_zero, List.set_cons_succ]
  refine wpAnyT_load (i := 4) (dst := some 22) (ty := 32) (x := .tmp 3) (b := w.heap.size) (o := (0)) (cs := E) (by kernel_rfl) (by kernel_rfl) (by kernel_rfl) (by kernel_rfl) (by kernel_rfl) (fun _ _ _ h => h) (by kernel_rfl) hT (fun _ => hS) (by kernel_rfl) (fun _ h => h.1) uE rfl iE ?_
  simp only [Act.put, List.getElem_toArray, List.getElem_cons_succ, List.getElem_cons_zero, List.setIfInBounds_toArray, List.set_cons_zero, List.set_cons_succ]
  refine wpAnyT_one (i := 5) rfl (by kernel_rfl) (by kernel_rfl) (fun K hK => ?_)
  refine wpx_call _ _ (by kernel_rfl) ((HRD.out _).mono ?_)
  rintro y W3 ⟨rfl, hb3⟩
  refine ⟨_, rfl, ?_⟩
  replace hb3 : Below W2.heap.size W2 W3 := hb0.trans hb3
  replace hT := HT.out W3 (H2.out.2.2.far hb3) (H2.out.2.1.farM hb3)
  replace hS : (fun _ : World => True) W3 := trivial
  refine hK.out _ _ hT (fun _ => hS) ?_
  clear hK K
  try simp only [Act.put, List.getElem_toArray, List.getElem_cons_succ, List.getElem_cons_zero, List.setIfInBounds_toArray, List.set_cons_zero, List.set_cons_succ]
  refine wpAnyT_held (i := 6) (v := ?_) rfl (by kernel_rfl) (by kernel_rfl) (by kernel_rfl) (fun _ _ _ h => h) (by kernel_rfl) hT (fun _ => hS) (by kernel_rfl) ?_ ?_
  rotate_left
  · intro wx hSw; go_split_ands; go_simp; try with_reducible rfl
  simp only [Act.put, List.getElem_toArray, List.getElem_cons_succ, List.getElem_cons_zero, List.setIfInBounds_toArray, List.set_cons_zero, List.set_cons_succ]
  refine wpAnyT_held (i := 7) (v := ?_) rfl (by kernel_rfl) (by kernel_rfl) (by kernel_rfl) (fun _ _ _ h => h) (by kernel_rfl) hT (fun _ => hS) (by kernel_rfl) ?_ ?_
  rotate_left
  · intro wx hSw; go_split_ands; go_simp; try with_reducible rfl
  simp only [Act.put, List.getElem_toArray, List.getElem_cons_succ, List.getElem_cons_zero, List.setIfInBounds_toArray, List.set_cons_zero, List.set_cons_succ]
  refine wpAnyT_done (by kernel_rfl) ?_ _
  have hB3 := H2.out.1.trans (hb3.mono H2.out.1.size)
  have hf := HF.out W3 (H2.out.2.2.far hb3)
  clear hT hS hb3 hb0 H2
  clear W2
  cases RY
  · replace HN : Veil (RN = 6) := ⟨HN.out⟩
    go_wp2
    go_ret
    exact ⟨by rw [HN.out]; rfl, hB3⟩
  replace HN : Veil (RN = if 512 ≤ st.L.length then 10 else 0) := ⟨HN.out⟩
  by_cases hl : 512 ≤ st.L.length
  · rw [decide_eq_true hl] at hf
    replace HN : Veil (RN = 10) := ⟨by rw [HN.out, if_pos hl]⟩
    clear hl
    go_wp2_with (go_at_call 42; refine hf.mono ?_; rintro y W4 ⟨rfl, rfl⟩)
    go_ret
    exact ⟨by rw [HN.out]; rfl, hB3⟩
  · rw [decide_eq_false hl] at hf
    replace HN : Veil (RN = 0) := ⟨by rw [HN.out, if_neg hl]⟩
    clear hl
    go_wp2_with (go_at_call 42; refine hf.mono ?_; rintro y W4 ⟨rfl, rfl⟩)
    go_ret
    exact ⟨by rw [HN.out]; rfl, hB3⟩
open Go Go.RowKit
section
variable {P : Program} {ops : Array Oper} {Q : Exit → Act → World → Prop} {md : Region.Mode} {T S : World → Prop} {D : Nat}
end
end Go.Proofs.Ytgmbmdmbnpkbbaa
