/- Dc8 Dc9 -/
import Derived.Test.YtgmbmdmbnpkbbaaM39
namespace Go.Proofs.Ytgmbmdmbnpkbbaa
open Go.RowKit Go.Shelf
set_option maxRecDepth 20000
set_option linter.unusedSimpArgs false
set_option maxHeartbeats 8000000 in
theorem dApply_any (base : Nat) (st : Ds) (p : Pl) (e : Ev) (w : World) (hD : DocAt w base st p) (hG : GoodD st) (he : e.Ok) (hbase : base ≤ w.heap.size) :
    Calls Try.prog 12 #[.pointer (some ⟨p.D, 0, none⟩), .agg e.cells.toArray] w fun r w' => r = .returned (.int .i64 (refD st e)) ∧ ∃ p', DocAt w' base (doS st e) p' ∧ DocTo p p' w w' := by
  have hB0 : Below w.heap.size w (w.alloc (.cells e.cells.toArray 32)) := (Below.refl _ _).alloc (Nat.le_refl _) _
  have hx0 := CellsAt.new w 32 e.cells
  have he1 := aev_len e he.past
  have iE : (Try.prog.info? 32).map (·.size) = some e.cells.length := by rw [he1]; kernel_rfl
  have uE := Try.underlying32
  have HRF : Veil (∀ W, DocAt W base st p → Calls Try.prog 30 #[.pointer (some ⟨p.D, 0, none⟩), .agg e.cells.toArray] W fun r w' => r = .returned (.int .i64 (refD st e)) ∧ Below W.heap.size W w') := ⟨fun W h => drefuse_any base st p e W h hG he⟩
  have HAP : Veil (refD st e = 0 → ∀ W, DocAt W base st p → base ≤ W.heap.size → Calls Try.prog 31 #[.pointer (some ⟨p.D, 0, none⟩), .agg e.cells.toArray] W fun r w' => (∃ q, r = .returned q) ∧ ∃ p', DocAt w' base (apS st e) p' ∧ DocTo p p' W w') := ⟨fun h0 W h hb => dapply_any base st p e W h hG he h0 hb⟩
  have HDO : Veil (doS st e = if refD st e = 0 then apS st e else st) := ⟨rfl⟩
  have HNE : Veil (¬ docP p w.heap.size) := ⟨fun q => by have := hD.blockLt _ q; omega⟩
  have hD0 := hD.far hB0
  obtain ⟨E, hE⟩ : ∃ E, e.cells = E := ⟨_, rfl⟩
  rw [hE] at hB0 hx0 iE he1 hD0 HRF HAP
  rw [hE]
  obtain ⟨D, hDD⟩ : ∃ q, p.D = q := ⟨_, rfl⟩
  rw [hDD] at HRF HAP ⊢
  generalize refD st e = RN at HRF HAP HDO ⊢
  generalize doS st e = DS at HDO ⊢
  clear he hE hG hD hDD
  go_enter Try.func12, Try.ntmps12
  go_upto_region 3 with fail
  refine forget (p := fun y => Code.wp _ _ _ _ y) (fun W => Below w.heap.size w W ∧ CellsAt W w.heap.size 32 E ∧ DocAt W base st p) ⟨hB0, hx0, hD0⟩ ?_
  clear hB0 hx0 hD0
  rintro W ⟨hB, hx, hD⟩
  have hb0 : Below W.heap.size W W.drew := (Below.refl _ _).drew
  have hT : (fun W : World => W.rangeAt w.heap.size 0 E) W.drew := (hx.farM hb0).wholeM
  have hS : (fun _ : World => True) W.drew := trivial
  refine wp_region_gateT (fun W : World => W.rangeAt w.heap.size 0 E) (fun _ => True) 99 (by kernel_rfl) ?_
  refine wpAnyT_held (i := 0) (v := ?_) rfl (by kernel_rfl) (by kernel_rfl) (by kernel_rfl) (fun _ _ _ h => h) (by kernel_rfl) hT (fun _ => hS) (by kernel_rfl) ?_ ?_
  rotate_left
  · intro wx hSw; go_split_ands; go_simp; try with_reducible rfl
  simp only [Act.put, List.getElem_toArray, List.getElem_cons_succ, List.getElem_cons_zero, List.setIfInBounds_toArray, List.set_cons_zero, List.set_cons_succ]
  refine wpAnyT_held (i := 1) (v := ?_) rfl (by kernel_rfl) (by kernel_rfl) (by kernel_rfl) (fun _ _ _ h => h) (by kernel_rfl) hT (fun _ => hS) (by kernel_rfl) ?_ ?_
  rotate_left
  · intro wx hSw; go_split_ands; go_simp; try with_reducible rfl
  simp only [Act.put, List.getElem_toArray, List.getElem_cons_succ, List.getElem_cons_zero, List.setIfInBounds_toArray, List.set_cons_zero, List.set_cons_succ]
  refine wpAnyT_held (i := 2) (v := ?_) rfl (by kernel_rfl) (by kernel_rfl) (by kernel_rfl) (fun _ _ _ h => h) (by kernel_rfl) hT (fun _ => hS) (by kernel_rfl) ?_ ?_
  rotate_left
  · intro wx hSw; go_split_ands; go_simp; try with_reducible rfl
  simp only [Act.put, List.getElem_toArray, List.getElem_cons_succ, List.getElem_cons_zero, List.setIfInBounds_toArray, List.set_cons_zero, List.set_cons_succ]
  refine wpAnyT_load (i := 3) (dst := some 11) (ty := 32) (x := .tmp 3) (b := w.heap.size) (o := (0)) (cs := E) (by kernel_rfl) (by kernel_rfl) (by kernel_rfl) (by kernel_rfl) (by kernel_rfl) (fun _ _ _ h => h) (by kernel_rfl) hT (fun _ => hS) (by kernel_rfl) (fun _ h => h) uE rfl iE ?_
  simp only [Act.put, List.getElem_toArray, List.getElem_cons_succ, List.getElem_cons_zero, List.setIfInBounds_toArray, List.set_cons_zero, List.set_cons_succ]
  refine wpAnyT_one (i := 4) rfl (by kernel_rfl) (by kernel_rfl) (fun K hK => ?_)
  refine wpx_call _ _ (by kernel_rfl) ((HRF.out _ (hD.far hb0)).mono ?_)
  rintro y W2 ⟨rfl, hb2⟩
  refine ⟨_, rfl, ?_⟩
  replace hb2 : Below W.heap.size W W2 := hb0.trans hb2
  have H2 : Veil (Below w.heap.size w W2 ∧ CellsAt W2 w.heap.size 32 E ∧ DocAt W2 base st p) := ⟨hB.trans (hb2.mono hB.size), hx.farM hb2, hD.far hb2⟩
  replace hT : (fun W : World => W.rangeAt w.heap.size 0 E) W2 := H2.out.2.1.wholeM
  replace hS : (fun _ : World => True) W2 := trivial
  clear hb2 hb0 hB hx hD HRF
  refine hK.out _ _ hT (fun _ => hS) ?_
  clear hK K
  try simp only [Act.put, List.getElem_toArray, List.getElem_cons_succ, List.getElem_cons_zero, List.setIfInBounds_toArray, List.set_cons_zero, List.set_cons_succ]
  refine wpAnyT_held (i := 5) (v := ?_) rfl (by kernel_rfl) (by kernel_rfl) (by kernel_rfl) (fun _ _ _ h => h) (by kernel_rfl) hT (fun _ => hS) (by kernel_rfl) ?_ ?_
  rotate_left
  · intro wx hSw; go_split_ands; go_simp; try with_reducible rfl
  simp only [Act.put, List.getElem_toArray, List.getElem_cons_succ, List.getElem_cons_zero, List.setIfInBounds_toArray, List.set_cons_zero, List.set_cons_succ]
  refine wpAnyT_done (by kernel_rfl) ?_ _
  clear hT hS
  clear W
  by_cases h0 : RN = 0
  · have hb0 : Below W2.heap.size W2 W2.drew := (Below.refl _ _).drew
    have hap := HAP.out h0 W2.drew (H2.out.2.2.far hb0) (Nat.le_trans hbase H2.out.1.size)
    replace HDO : Veil (DS = apS st e) := ⟨by rw [HDO.out, if_pos h0]⟩
    subst h0
    have hT : (fun W : World => W.rangeAt w.heap.size 0 E) W2.drew := (H2.out.2.1.farM hb0).wholeM
    have hS : (fun _ : World => True) W2.drew := trivial
    go_upto_region 6 with fail
    refine wp_region_gateT (fun W : World => W.rangeAt w.heap.size 0 E) (fun _ => True) 99 (by kernel_rfl) ?_
    refine wpAnyT_held (i := 0) (v := ?_) rfl (by kernel_rfl) (by kernel_rfl) (by kernel_rfl) (fun _ _ _ h => h) (by kernel_rfl) hT (fun _ => hS) (by kernel_rfl) ?_ ?_
    rotate_left
    · intro wx hSw; go_split_ands; go_simp; try with_reducible rfl
    simp only [Act.put, List.getElem_toArray, List.getElem_cons_succ, List.getElem_cons_zero, List.setIfInBounds_toArray, List.set_cons_zero, List.set_cons_succ]
    refine wpAnyT_held (i := 1) (v := ?_) rfl (by kernel_rfl) (by kernel_rfl) (by kernel_rfl) (fun _ _ _ h => h) (by kernel_rfl) hT (fun _ => hS) (by kernel_rfl) ?_ ?_
    rotate_left
    · intro wx hSw; go_split_ands; go_simp; try with_reducible rfl
    simp only [Act.put, List.getElem_toArray, List.getElem_cons_succ, List.getElem_cons_zero, List.setIfInBounds_toArray, List.set_cons_zero, List.set_cons_succ]
    refine wpAnyT_held (i := 2) (v := ?_) rfl (by kernel_rfl) (by kernel_rfl) (by kernel_rfl) (fun _ _ _ h => h) (by kernel_rfl) hT (fun _ => hS) (by kernel_rfl) ?_ ?_
    rotate_left
    · intro wx hSw; go_split_ands; go_simp; try with_reducible rfl
    simp only [Act.put, List.getElem_toArray, List.getElem_cons_succ, List.getElem_cons_zero, List.setIfInBounds_toArray, List.set_cons_zero, List.set_cons_succ]
    refine wpAnyT_load (i := 3) (dst := some 19) (ty := 32) (x := .tmp 3) (b := w.heap.size) (o := (0)) (cs := E) (by kernel_rfl) (by kernel_rfl) (by kernel_rfl) (by kernel_rfl) (by kernel_rfl) (fun _ _ _ h => h) (by kernel_rfl) hT (fun _ => hS) (by kernel_rfl) (fun _ h => h) uE rfl iE ?_
    simp only [Act.put, List.getElem_toArray, List.getElem_cons_succ, List.getElem_cons_zero, List.setIfInBounds_toArray, List.set_cons_zero, List.set_cons_succ]
    refine wpAnyT_one (i := 4) rfl (by kernel_rfl) (by kernel_rfl) (fun K hK => ?_)
    refine wpx_call _ _ (by kernel_rfl) (hap.mono ?_)
    rintro y W3 ⟨⟨q, rfl⟩, p3, hD3, ht3⟩
    refine ⟨_, rfl, ?_⟩
    replace hT : (fun W : World => W.rangeAt w.heap.size 0 E) W3 := (H2.out.2.1.congr (ht3.turn.block _ H2.out.2.1.lt HNE.out)).wholeM
    replace hS : (fun _ : World => True) W3 := trivial
    have HF := Veil.mk (And.intro hD3 ((DocTo.of_below H2.out.1).trans ((DocTo.of_below hb0).trans ht3)))
    clear hD3 ht3 hap hb0
    refine hK.out _ _ hT (fun _ => hS) ?_
    clear hK K
    try simp only [Act.put, List.getElem_toArray, List.getElem_cons_succ, List.getElem_cons_zero, List.setIfInBounds_toArray, List.set_cons_zero, List.set_cons_succ]
    refine wpAnyT_done (by kernel_rfl) ?_ _
    clear hT hS
    go_wp2
    go_ret
    exact ⟨rfl, p3, by rw [HDO.out]; exact HF.out.1, HF.out.2⟩
  · have h0b : (RN == 0) = false := by simpa using h0
    replace HDO : Veil (DS = st) := ⟨by rw [HDO.out, if_neg h0]⟩
    go_wp2
    go_ret
    exact ⟨rfl, p, by rw [HDO.out]; exact H2.out.2.2, DocTo.of_below H2.out.1⟩
set_option maxHeartbeats 4000000 in
theorem dText_any (base : Nat) (st : Ds) (p : Pl) (w : World) (hD : DocAt w base st p) (hG : GoodD st) :
    Calls Try.prog 15 #[.pointer (some ⟨p.D, 0, none⟩)] w fun r w' => ∃ v, r = .returned v ∧ OwnB w' w.heap.size v (textN st.N) ∧ Below w.heap.size w w' := by
  have ht := textB_any base p.R p.bc p.bn st.N p.V hG.tree (by have := hG.nlen; have := hG.llen; omega) w hD.tree
  have c0 := hD.cR hG.slen
  generalize p.R = R at ht c0
  generalize p.D = D at c0 ⊢
  clear hD hG
  go_enter Try.func15, Try.ntmps15
  go_wp2_with (go_at_call 32; refine ht.mono ?_; rintro y W1 ⟨v, rfl, ho, hb⟩)
  go_ret
  exact ⟨v, rfl, ho, hb⟩
theorem forM_getD (F : List (Int × Int)) (x : Int × Int) : (forM F x).getD (.agg #[]) = .agg #[] := by unfold forM; split <;> rfl
theorem forM_some (F : List (Int × Int)) (x : Int × Int) : (forM F x).isSome = decide (x ∈ F) := by unfold forM; split <;> simp [*]
set_option maxHeartbeats 4000000 in
theorem dForce_any (base : Nat) (st : Ds) (p : Pl) (x : Int × Int) (hx : okDF x) (w : World) (hD : DocAt w base st p) (hG : GoodD st) :
    Calls Try.prog 14 #[.pointer (some ⟨p.D, 0, none⟩), .agg (encF x).toArray] w fun r w' => r = .returned (.bool (decide (x ∈ st.F))) ∧ Below w.heap.size w w' := by
  have hd0 := CellsAt.new w 26 (encF x)
  have hB : Below w.heap.size w (w.alloc (.cells (encF x).toArray 26)) := (Below.refl _ _).alloc (Nat.le_refl _) _
  have HLOOK : Veil (∀ wx, MapG Try.prog 26 encDF okDF wx p.fm st.F.length (forM st.F) → (Instr.lookup 59 (.map (some p.fm)) (.agg (encF x).toArray) true).run Try.prog wx = .ok (.tuple #[.agg #[], .bool (decide (x ∈ st.F))]) wx) := ⟨fun wx h => by
    have := h.look keyEncDF Try.underlying59 (z := .agg #[]) (by kernel_rfl) x hx
    rw [forM_getD, forM_some] at this
    exact this⟩
  have HT : Veil (∀ W, DocAt W base st p → CellsAt W w.heap.size 26 (encF x) → W.cell? ⟨p.D, 11, none⟩ = some (.map (some p.fm)) ∧ W.rangeAt w.heap.size 0 (encF x) ∧ MapG Try.prog 26 encDF okDF W p.fm st.F.length (forM st.F)) := ⟨fun W h h2 => ⟨h.cF hG.slen, h2.wholeM, h.force⟩⟩
  have hD0 := hD.far hB
  generalize decide (x ∈ st.F) = IS at HLOOK ⊢
  have uD := Try.underlying26
  have iD : (Try.prog.info? 26).map (·.size) = some (encF x).length := sizeDot
  obtain ⟨DX, hDX⟩ : ∃ q, encF x = q := ⟨_, rfl⟩
  rw [hDX] at HLOOK iD hd0 hB HT hD0 ⊢
  obtain ⟨D, hDD⟩ : ∃ q, p.D = q := ⟨_, rfl⟩
  obtain ⟨fm, hfm⟩ : ∃ q, p.fm = q := ⟨_, rfl⟩
  rw [hDD, hfm] at HT
  rw [hfm] at HLOOK
  rw [hDD]
  clear hDX hx hD hG hDD hfm
  go_enter Try.func14, Try.ntmps14
  go_upto_region 3 with fail
  refine forget (p := fun y => Code.wp _ _ _ _ y) (fun W => Below w.heap.size w W ∧ DocAt W base st p ∧ CellsAt W w.heap.size 26 DX) ⟨hB, hD0, hd0⟩ ?_
  clear hB hd0 hD0
  rintro W ⟨hB, hC, hd0⟩
  have hb0 : Below W.heap.size W W.drew := (Below.refl _ _).drew
  have hb1 : Below W.heap.size W (W.drew.alloc (.cells #[] 71)) := hb0.alloc (Nat.le_refl _) _
  refine wp_region_gateT (fun W => W.cell? ⟨D, 11, none⟩ = some (.map (some fm)) ∧ W.rangeAt w.heap.size 0 DX ∧ MapG Try.prog 26 encDF okDF W fm st.F.length (forM st.F)) (fun _ => True) 99 (by kernel_rfl) ?_
  have hT : (fun W : World => W.cell? ⟨D, 11, none⟩ = some (.map (some fm)) ∧ W.rangeAt w.heap.size 0 DX ∧ MapG Try.prog 26 encDF okDF W fm st.F.length (forM st.F)) W.drew := HT.out _ (hC.far hb0) (hd0.farM hb0)
  have hS : (fun _ : World => True) W.drew := trivial
  have hT1 := HT.out _ (hC.far hb1) (hd0.farM hb1)
  have HQ := Veil.mk (hB.trans (hb1.mono hB.size))
  clear hC hd0 hb0 hb1 hB
  refine wpAnyT_held (i := 0) (v := ?_) rfl (by kernel_rfl) (by kernel_rfl) (by kernel_rfl) (fun _ _ _ h => h) (by kernel_rfl) hT (fun _ => hS) (by kernel_rfl) ?_ ?_
  rotate_left
  · intro wx hSw; go_split_ands; go_simp; try with_reducible rfl
  simp only [Act.put, List.getElem_toArray, List.getElem_cons_succ, List.getElem_cons_zero, List.setIfInBounds_toArray, List.set_cons_zero, List.set_cons_succ]
  refine wpAnyT_held (i := 1) (v := ?_) rfl (by kernel_rfl) (by kernel_rfl) (by kernel_rfl) (fun _ _ _ h => h) (by kernel_rfl) hT (fun _ => hS) (by kernel_rfl) ?_ ?_
  rotate_left
  · intro wx hSw; go_split_ands; go_simp; try with_reducible rfl
  simp only [Act.put, List.getElem_toArray, List.getElem_cons_succ, List.getElem_cons_zero, List.setIfInBounds_toArray, List.set_cons_zero, List.set_cons_succ]
  refine wpAnyT_held (i := 2) (v := ?_) rfl (by kernel_rfl) (by kernel_rfl) (by kernel_rfl) (fun _ _ _ h => h) (by kernel_rfl) hT (fun _ => hS) (by kernel_rfl) ?_ ?_
  rotate_left
  · intro wx hSw; go_split_ands; go_simp; try with_reducible rfl
  simp only [Act.put, List.getElem_toArray, List.getElem_cons_succ, List.getElem_cons_zero, List.setIfInBounds_toArray, List.set_cons_zero, List.set_cons_succ]
  refine wpAnyT_held (i := 3) (v := ?_) rfl (by kernel_rfl) (by kernel_rfl) (by kernel_rfl) (fun _ _ _ h => h) (by kernel_rfl) hT (fun _ => hS) (by kernel_rfl) ?_ ?_
  rotate_left
  · intro wx hSw; go_split_ands; go_simp; try with_reducible rfl
  simp only [Act.put, List.getElem_toArray, List.getElem_cons_succ, List.getElem_cons_zero, List.setIfInBounds_toArray, List.set_cons_zero, List.set_cons_succ]
  refine wpAnyT_held (i := 4) (v := ?_) rfl (by kernel_rfl) (by kernel_rfl) (by kernel_rfl) (fun _ _ _ h => h) (by kernel_rfl) hT (fun _ => hS) (by kernel_rfl) ?_ ?_
  rotate_left
  · intro wx hSw; go_split_ands; go_simp; try with_reducible rfl
  simp only [Act.put, List.getElem_toArray, List.getElem_cons_succ, List.getElem_cons_zero, List.setIfInBounds_toArray, List.set_cons_zero, List.set_cons_succ]
  refine wpAnyT_load (i := 5) (dst := some 15) (ty := 26) (x := .tmp 3) (b := w.heap.size) (o := (0)) (cs := DX) (by kernel_rfl) (by kernel_rfl) (by kernel_rfl) (by kernel_rfl) (by kernel_rfl) (fun _ _ _ h => h) (by kernel_rfl) hT (fun _ => hS) (by kernel_rfl) (fun _ h => h.2.1) uD rfl iD ?_
  simp only [Act.put, List.getElem_toArray, List.getElem_cons_succ, List.getElem_cons_zero, List.setIfInBounds_toArray, List.set_cons_zero, List.set_cons_succ]
  refine wpAnyT_held (i := 6) (v := .tuple #[.agg #[], .bool IS]) rfl (by kernel_rfl) (by kernel_rfl) (by kernel_rfl) (fun _ _ _ h => h) (by kernel_rfl) hT (fun _ => hS) (by kernel_rfl) (fun wx h => exec_lookF rfl rfl rfl (HLOOK.out wx h.2.2)) ?_
  simp only [Act.put, List.getElem_toArray, List.getElem_cons_succ, List.getElem_cons_zero, List.setIfInBounds_toArray, List.set_cons_zero, List.set_cons_succ]
  refine wpAnyT_held (i := 7) (v := ?_) rfl (by kernel_rfl) (by kernel_rfl) (by kernel_rfl) (fun _ _ _ h => h) (by kernel_rfl) hT (fun _ => hS) (by kernel_rfl) ?_ ?_
  rotate_left
  · intro wx hSw; go_split_ands; go_simp; try with_reducible rfl
  simp only [Act.put, List.getElem_toArray, List.getElem_cons_succ, List.getElem_cons_zero, List.setIfInBounds_toArray, List.set_cons_zero, List.set_cons_succ]
  refine wpAnyT_held (i := 8) (v := ?_) rfl (by kernel_rfl) (by kernel_rfl) (by kernel_rfl) (fun _ _ _ h => h) (by kernel_rfl) hT (fun _ => hS) (by kernel_rfl) ?_ ?_
  rotate_left
  · intro wx hSw; go_split_ands; go_simp; try with_reducible rfl
  simp only [Act.put, List.getElem_toArray, List.getElem_cons_succ, List.getElem_cons_zero, List.setIfInBounds_toArray, List.set_cons_zero, List.set_cons_succ]
  refine wpAnyT_held (i := 9) (v := ?_) rfl (by kernel_rfl) (by kernel_rfl) (by kernel_rfl) (fun _ _ _ h => h) (by kernel_rfl) hT (fun _ => hS) (by kernel_rfl) ?_ ?_
  rotate_left
  · intro wx hSw; go_split_ands; go_simp; try with_reducible rfl
  simp only [Act.put, List.getElem_toArray, List.getElem_cons_succ, List.getElem_cons_zero, List.setIfInBounds_toArray, List.set_cons_zero, List.set_cons_succ]
  refine wpAnyT_one (i := 10) rfl (by kernel_rfl) (by kernel_rfl) (fun K hK => ?_)
  go_simp
  replace hT := hT1
  replace hS : (fun _ : World => True) (W.drew.alloc (.cells #[] 71)) := trivial
  refine hK.out _ _ hT (fun _ => hS) ?_
  clear hK K
  try simp only [Act.put, List.getElem_toArray, List.getElem_cons_succ, List.getElem_cons_zero, List.setIfInBounds_toArray, List.set_cons_zero, List.set_cons_succ]
  refine wpAnyT_one (i := 11) rfl (by kernel_rfl) (by kernel_rfl) (fun K hK => ?_)
  go_simp
  refine hK.out _ _ hT (fun _ => hS) ?_
  clear hK K
  try simp only [Act.put, List.getElem_toArray, List.getElem_cons_succ, List.getElem_cons_zero, List.setIfInBounds_toArray, List.set_cons_zero, List.set_cons_succ]
  refine wpAnyT_held (i := 12) (v := ?_) rfl (by kernel_rfl) (by kernel_rfl) (by kernel_rfl) (fun _ _ _ h => h) (by kernel_rfl) hT (fun _ => hS) (by kernel_rfl) ?_ ?_
  rotate_left
  · intro wx hSw; go_split_ands; go_simp; try with_reducible rfl
  simp only [Act.put, List.getElem_toArray, List.getElem_cons_succ, List.getElem_cons_zero, List.setIfInBounds_toArray, List.set_cons_zero, List.set_cons_succ]
  refine wpAnyT_done (by kernel_rfl) ?_ _
  clear hT hS hT1
  go_wp2
  go_ret
  exact ⟨rfl, HQ.out⟩
end Go.Proofs.Ytgmbmdmbnpkbbaa
