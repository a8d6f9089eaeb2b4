/- Dc8 Dc9 Dc10 -/
import Derived.Test.YtmbdohnmbkpfaaaGreatU36
namespace Go.Proofs.YtmbdohnmbkpfaaaGreat
open Go.RowKit Go.Shelf
set_option maxRecDepth 20000
set_option linter.unusedSimpArgs false
set_option maxHeartbeats 8000000 in
theorem dApply_any (base : Nat) (st : Ds) (p : Pl) (e : Ev) (w : World) (hD : DocAt w base st p) (hG : GoodD st) (he : e.Ok) (hbase : base ≤ w.heap.size) :
    Calls Tryz.prog 18 #[.pointer (some ⟨p.D, 0, none⟩), .agg e.cells.toArray] w fun r w' => r = .returned (.int .i64 (refD st e)) ∧ ∃ p', DocAt w' base (doS st e) p' ∧ DocTo p p' w w' := by
  have hB0 : Below w.heap.size w (w.alloc (.cells e.cells.toArray 44)) := (Below.refl _ _).alloc (Nat.le_refl _) _
  have hx0 := CellsAt.new w 44 e.cells
  have he1 := aev_len e he.past
  have iE : (Tryz.prog.info? 44).map (·.size) = some e.cells.length := by rw [he1]; kernel_rfl
  have uE := Tryz.underlying44
  have HRF : Veil (∀ W, DocAt W base st p → Calls Tryz.prog 44 #[.pointer (some ⟨p.D, 0, none⟩), .agg e.cells.toArray] W fun r w' => r = .returned (.int .i64 (refD st e)) ∧ Below W.heap.size W w') := ⟨fun W h => drefuse_any base st p e W h hG he⟩
  have HAP : Veil (refD st e = 0 → ∀ W, DocAt W base st p → base ≤ W.heap.size → Calls Tryz.prog 45 #[.pointer (some ⟨p.D, 0, none⟩), .agg e.cells.toArray] W fun r w' => (∃ q, r = .returned q) ∧ ∃ p', DocAt w' base (apS st e) p' ∧ DocTo p p' W w') := ⟨fun h0 W h hb => dapply_any base st p e W h hG he h0 hb⟩
  have HDO : Veil (doS st e = if refD st e = 0 then apS st e else st) := ⟨rfl⟩
  have HNE : Veil (¬ docP p w.heap.size) := ⟨fun q => by have := hD.blockLt _ q; omega⟩
  have hD0 := hD.far hB0
  obtain ⟨E, hE⟩ : ∃ E, e.cells = E := ⟨_, rfl⟩
  rw [hE] at hB0 hx0 iE he1 hD0 HRF HAP
  rw [hE]
  obtain ⟨D, hDD⟩ : ∃ q, p.D = q := ⟨_, rfl⟩
  rw [hDD] at HRF HAP ⊢
  generalize refD st e = RN at HRF HAP HDO ⊢
  generalize doS st e = DS at HDO ⊢
  clear he hE hG hD hDD
  go_enter Tryz.func18, Tryz.ntmps18
  go_upto_region 3 with fail
  refine forget (p := fun y => Code.wp _ _ _ _ y) (fun W => Below w.heap.size w W ∧ CellsAt W w.heap.size 44 E ∧ DocAt W base st p) ⟨hB0, hx0, hD0⟩ ?_
  clear hB0 hx0 hD0
  rintro W ⟨hB, hx, hD⟩
  have hb0 : Below W.heap.size W W.drew := (Below.refl _ _).drew
  have hT : (fun W : World => W.rangeAt w.heap.size 0 E) W.drew := (hx.farM hb0).wholeM
  have hS : (fun _ : World => True) W.drew := trivial
  refine wp_region_gateT (fun W : World => W.rangeAt w.heap.size 0 E) (fun _ => True) 99 (by kernel_rfl) ?_
  refine gh 0 ?_ hT hS ?_ ?_
  rotate_left
  · intro wx hSw; go_split_ands; go_simp; try with_reducible rfl
  simp only [Act.put, gA, gS, gZ, sI, sZ, sS]
  refine gh 1 ?_ hT hS ?_ ?_
  rotate_left
  · intro wx hSw; go_split_ands; go_simp; try with_reducible rfl
  simp only [Act.put, gA, gS, gZ, sI, sZ, sS]
  refine gh 2 ?_ hT hS ?_ ?_
  rotate_left
  · intro wx hSw; go_split_ands; go_simp; try with_reducible rfl
  simp only [Act.put, gA, gS, gZ, sI, sZ, sS]
  refine gl 3 11 44 3 w.heap.size 0 E (by kernel_rfl) (by kernel_rfl) (by kernel_rfl) (fun _ _ _ h => h) hT hS (by kernel_rfl) (fun _ h => h) uE rfl iE ?_
  simp only [Act.put, gA, gS, gZ, sI, sZ, sS]
  refine wpAnyT_one (i := 4) rfl (by kernel_rfl) (by kernel_rfl) (fun K hK => ?_)
  refine wpx_call _ _ (by kernel_rfl) ((HRF.out _ (hD.far hb0)).mono ?_)
  rintro y W2 ⟨rfl, hb2⟩
  refine ⟨_, rfl, ?_⟩
  replace hb2 : Below W.heap.size W W2 := hb0.trans hb2
  have H2 : Veil (Below w.heap.size w W2 ∧ CellsAt W2 w.heap.size 44 E ∧ DocAt W2 base st p) := ⟨hB.trans (hb2.mono hB.size), hx.farM hb2, hD.far hb2⟩
  replace hT : (fun W : World => W.rangeAt w.heap.size 0 E) W2 := H2.out.2.1.wholeM
  replace hS : (fun _ : World => True) W2 := trivial
  clear hb2 hb0 hB hx hD HRF
  refine hK.out _ _ hT (fun _ => hS) ?_
  clear hK K
  try simp only [Act.put, gA, gS, gZ, sI, sZ, sS]
  refine gh 5 ?_ hT hS ?_ ?_
  rotate_left
  · intro wx hSw; go_split_ands; go_simp; try with_reducible rfl
  simp only [Act.put, gA, gS, gZ, sI, sZ, sS]
  refine wpAnyT_done (by kernel_rfl) ?_ _
  clear hT hS
  clear W
  by_cases h0 : RN = 0
  · have hb0 : Below W2.heap.size W2 W2.drew := (Below.refl _ _).drew
    have hap := HAP.out h0 W2.drew (H2.out.2.2.far hb0) (Nat.le_trans hbase H2.out.1.size)
    replace HDO : Veil (DS = apS st e) := ⟨by rw [HDO.out, if_pos h0]⟩
    subst h0
    have hT : (fun W : World => W.rangeAt w.heap.size 0 E) W2.drew := (H2.out.2.1.farM hb0).wholeM
    have hS : (fun _ : World => True) W2.drew := trivial
    go_upto_region 6 with fail
    refine wp_region_gateT (fun W : World => W.rangeAt w.heap.size 0 E) (fun _ => True) 99 (by kernel_rfl) ?_
    refine gh 0 ?_ hT hS ?_ ?_
    rotate_left
    · intro wx hSw; go_split_ands; go_simp; try with_reducible rfl
    simp only [Act.put, gA, gS, gZ, sI, sZ, sS]
    refine gh 1 ?_ hT hS ?_ ?_
    rotate_left
    · intro wx hSw; go_split_ands; go_simp; try with_reducible rfl
    simp only [Act.put, gA, gS, gZ, sI, sZ, sS]
    refine gh 2 ?_ hT hS ?_ ?_
    rotate_left
    · intro wx hSw; go_split_ands; go_simp; try with_reducible rfl
    simp only [Act.put, gA, gS, gZ, sI, sZ, sS]
    refine gl 3 19 44 3 w.heap.size 0 E (by kernel_rfl) (by kernel_rfl) (by kernel_rfl) (fun _ _ _ h => h) hT hS (by kernel_rfl) (fun _ h => h) uE rfl iE ?_
    simp only [Act.put, gA, gS, gZ, sI, sZ, sS]
    refine wpAnyT_one (i := 4) rfl (by kernel_rfl) (by kernel_rfl) (fun K hK => ?_)
    refine wpx_call _ _ (by kernel_rfl) (hap.mono ?_)
    rintro y W3 ⟨⟨q, rfl⟩, p3, hD3, ht3⟩
    refine ⟨_, rfl, ?_⟩
    replace hT : (fun W : World => W.rangeAt w.heap.size 0 E) W3 := (H2.out.2.1.congr (ht3.turn.block _ H2.out.2.1.lt HNE.out)).wholeM
    replace hS : (fun _ : World => True) W3 := trivial
    have HF := Veil.mk (And.intro hD3 ((DocTo.of_below H2.out.1).trans ((DocTo.of_below hb0).trans ht3)))
    clear hD3 ht3 hap hb0
    refine hK.out _ _ hT (fun _ => hS) ?_
    clear hK K
    try simp only [Act.put, gA, gS, gZ, sI, sZ, sS]
    refine wpAnyT_done (by kernel_rfl) ?_ _
    clear hT hS
    go_wp2
    go_ret
    exact ⟨rfl, p3, by rw [HDO.out]; exact HF.out.1, HF.out.2⟩
  · have h0b : (RN == 0) = false := by simpa using h0
    replace HDO : Veil (DS = st) := ⟨by rw [HDO.out, if_neg h0]⟩
    go_wp2
    go_ret
    exact ⟨rfl, p, by rw [HDO.out]; exact H2.out.2.2, DocTo.of_below H2.out.1⟩
set_option maxHeartbeats 4000000 in
theorem dText_any (base : Nat) (st : Ds) (p : Pl) (w : World) (hD : DocAt w base st p) (hG : GoodD st) :
    Calls Tryz.prog 20 #[.pointer (some ⟨p.D, 0, none⟩)] w fun r w' => ∃ v, r = .returned v ∧ OwnB w' w.heap.size v (textN st.N) ∧ Below w.heap.size w w' := by
  have ht := textB_any base p.R p.bc p.bn st.N p.V hG.tree (by have := hG.nlen; have := hG.llen; omega) w hD.tree
  have c0 := hD.cR hG.slen
  generalize p.R = R at ht c0
  generalize p.D = D at c0 ⊢
  clear hD hG
  go_enter Tryz.func20, Tryz.ntmps20
  go_wp2_with (go_at_call 46; refine ht.mono ?_; rintro y W1 ⟨v, rfl, ho, hb⟩)
  go_ret
  exact ⟨v, rfl, ho, hb⟩
theorem forM_getD (F : List (Int × Int)) (x : Int × Int) : (forM F x).getD (.agg #[]) = .agg #[] := by unfold forM; split <;> rfl
theorem forM_some (F : List (Int × Int)) (x : Int × Int) : (forM F x).isSome = decide (x ∈ F) := by unfold forM; split <;> simp [*]
set_option maxHeartbeats 4000000 in
theorem dForce_any (base : Nat) (st : Ds) (p : Pl) (x : Int × Int) (hx : okDF x) (w : World) (hD : DocAt w base st p) (hG : GoodD st) :
    Calls Tryz.prog 19 #[.pointer (some ⟨p.D, 0, none⟩), .agg (encF x).toArray] w fun r w' => r = .returned (.bool (decide (x ∈ st.F))) ∧ Below w.heap.size w w' := by
  have hd0 := CellsAt.new w 40 (encF x)
  have hB : Below w.heap.size w (w.alloc (.cells (encF x).toArray 40)) := (Below.refl _ _).alloc (Nat.le_refl _) _
  have HLOOK : Veil (∀ wx, MapG Tryz.prog 40 encDF okDF wx p.fm st.F.length (forM st.F) → (Instr.lookup 71 (.map (some p.fm)) (.agg (encF x).toArray) true).run Tryz.prog wx = .ok (.tuple #[.agg #[], .bool (decide (x ∈ st.F))]) wx) := ⟨fun wx h => by
    have := h.look keyEncDF Tryz.underlying71 (z := .agg #[]) (by kernel_rfl) x hx
    rw [forM_getD, forM_some] at this
    exact this⟩
  have HT : Veil (∀ W, DocAt W base st p → CellsAt W w.heap.size 40 (encF x) → W.cell? ⟨p.D, 11, none⟩ = some (.map (some p.fm)) ∧ W.rangeAt w.heap.size 0 (encF x) ∧ MapG Tryz.prog 40 encDF okDF W p.fm st.F.length (forM st.F)) := ⟨fun W h h2 => ⟨h.cF hG.slen, h2.wholeM, h.force⟩⟩
  have hD0 := hD.far hB
  generalize decide (x ∈ st.F) = IS at HLOOK ⊢
  have uD := Tryz.underlying40
  have iD : (Tryz.prog.info? 40).map (·.size) = some (encF x).length := sizeDot
  obtain ⟨DX, hDX⟩ : ∃ q, encF x = q := ⟨_, rfl⟩
  rw [hDX] at HLOOK iD hd0 hB HT hD0 ⊢
  obtain ⟨D, hDD⟩ : ∃ q, p.D = q := ⟨_, rfl⟩
  obtain ⟨fm, hfm⟩ : ∃ q, p.fm = q := ⟨_, rfl⟩
  rw [hDD, hfm] at HT
  rw [hfm] at HLOOK
  rw [hDD]
  clear hDX hx hD hG hDD hfm
  go_enter Tryz.func19, Tryz.ntmps19
  go_upto_region 3 with fail
  refine forget (p := fun y => Code.wp _ _ _ _ y) (fun W => Below w.heap.size w W ∧ DocAt W base st p ∧ CellsAt W w.heap.size 40 DX) ⟨hB, hD0, hd0⟩ ?_
  clear hB hd0 hD0
  rintro W ⟨hB, hC, hd0⟩
  have hb0 : Below W.heap.size W W.drew := (Below.refl _ _).drew
  have hb1 : Below W.heap.size W (W.drew.alloc (.cells #[] 80)) := hb0.alloc (Nat.le_refl _) _
  refine wp_region_gateT (fun W => W.cell? ⟨D, 11, none⟩ = some (.map (some fm)) ∧ W.rangeAt w.heap.size 0 DX ∧ MapG Tryz.prog 40 encDF okDF W fm st.F.length (forM st.F)) (fun _ => True) 99 (by kernel_rfl) ?_
  have hT : (fun W : World => W.cell? ⟨D, 11, none⟩ = some (.map (some fm)) ∧ W.rangeAt w.heap.size 0 DX ∧ MapG Tryz.prog 40 encDF okDF W fm st.F.length (forM st.F)) W.drew := HT.out _ (hC.far hb0) (hd0.farM hb0)
  have hS : (fun _ : World => True) W.drew := trivial
  have hT1 := HT.out _ (hC.far hb1) (hd0.farM hb1)
  have HQ := Veil.mk (hB.trans (hb1.mono hB.size))
  clear hC hd0 hb0 hb1 hB
  refine gh 0 ?_ hT hS ?_ ?_
  rotate_left
  · intro wx hSw; go_split_ands; go_simp; try with_reducible rfl
  simp only [Act.put, gA, gS, gZ, sI, sZ, sS]
  refine gh 1 ?_ hT hS ?_ ?_
  rotate_left
  · intro wx hSw; go_split_ands; go_simp; try with_reducible rfl
  simp only [Act.put, gA, gS, gZ, sI, sZ, sS]
  refine gh 2 ?_ hT hS ?_ ?_
  rotate_left
  · intro wx hSw; go_split_ands; go_simp; try with_reducible rfl
  simp only [Act.put, gA, gS, gZ, sI, sZ, sS]
  refine gh 3 ?_ hT hS ?_ ?_
  rotate_left
  · intro wx hSw; go_split_ands; go_simp; try with_reducible rfl
  simp only [Act.put, gA, gS, gZ, sI, sZ, sS]
  refine gh 4 ?_ hT hS ?_ ?_
  rotate_left
  · intro wx hSw; go_split_ands; go_simp; try with_reducible rfl
  simp only [Act.put, gA, gS, gZ, sI, sZ, sS]
  refine gl 5 15 40 3 w.heap.size 0 DX (by kernel_rfl) (by kernel_rfl) (by kernel_rfl) (fun _ _ _ h => h) hT hS (by kernel_rfl) (fun _ h => h.2.1) uD rfl iD ?_
  simp only [Act.put, gA, gS, gZ, sI, sZ, sS]
  refine wpAnyT_held (i := 6) (v := (.tuple #[.agg #[], .bool IS])) rfl (by kernel_rfl) (by kernel_rfl) (by kernel_rfl) (fun _ _ _ h => h) (by kernel_rfl) hT (fun _ => hS) (by kernel_rfl) (fun wx h => exec_lookF rfl rfl rfl (HLOOK.out wx h.2.2)) ?_
  simp only [Act.put, gA, gS, gZ, sI, sZ, sS]
  refine gh 7 ?_ hT hS ?_ ?_
  rotate_left
  · intro wx hSw; go_split_ands; go_simp; try with_reducible rfl
  simp only [Act.put, gA, gS, gZ, sI, sZ, sS]
  refine gh 8 ?_ hT hS ?_ ?_
  rotate_left
  · intro wx hSw; go_split_ands; go_simp; try with_reducible rfl
  simp only [Act.put, gA, gS, gZ, sI, sZ, sS]
  refine gh 9 ?_ hT hS ?_ ?_
  rotate_left
  · intro wx hSw; go_split_ands; go_simp; try with_reducible rfl
  simp only [Act.put, gA, gS, gZ, sI, sZ, sS]
  refine wpAnyT_one (i := 10) rfl (by kernel_rfl) (by kernel_rfl) (fun K hK => ?_)
  go_simp
  replace hT := hT1
  replace hS : (fun _ : World => True) (W.drew.alloc (.cells #[] 80)) := trivial
  refine hK.out _ _ hT (fun _ => hS) ?_
  clear hK K
  try simp only [Act.put, gA, gS, gZ, sI, sZ, sS]
  refine wpAnyT_one (i := 11) rfl (by kernel_rfl) (by kernel_rfl) (fun K hK => ?_)
  go_simp
  refine hK.out _ _ hT (fun _ => hS) ?_
  clear hK K
  try simp only [Act.put, gA, gS, gZ, sI, sZ, sS]
  refine gh 12 ?_ hT hS ?_ ?_
  rotate_left
  · intro wx hSw; go_split_ands; go_simp; try with_reducible rfl
  simp only [Act.put, gA, gS, gZ, sI, sZ, sS]
  refine wpAnyT_done (by kernel_rfl) ?_ _
  clear hT hS hT1
  go_wp2
  go_ret
  exact ⟨rfl, HQ.out⟩
set_option maxHeartbeats 4000000 in
theorem dMembers_any (base : Nat) (st : Ds) (p : Pl) (w : World) (hD : DocAt w base st p) (hG : GoodD st) :
    Calls Tryz.prog 21 #[.pointer (some ⟨p.D, 0, none⟩)] w fun r w' => r = .returned (.agg (row .u8 (membersL st.B st.S))) ∧ Below w.heap.size w w' := by
  have hr0 := Holds.new w .u8 49 [0, 0, 0, 0, 0, 0, 0, 0]
  have hB0 : Below w.heap.size w (w.alloc (.cells (row .u8 [0, 0, 0, 0, 0, 0, 0, 0]) 49)) := (Below.refl _ _).alloc (Nat.le_refl _) _
  have hD0 := hD.far hB0
  have iV : (Tryz.prog.info? 37).map (·.size) = some (st.S.map (Value.int .u32)).length := by rw [List.length_map, hG.slen]; kernel_rfl
  have uV := Tryz.underlying37
  have HME : Veil (∀ W, DocAt W base st p → Calls Tryz.prog 47 #[.pointer (some ⟨p.H, 0, none⟩), .agg (st.S.map (Value.int .u32)).toArray] W fun e w' => e = .returned (.agg (row .u8 (membersL st.B st.S))) ∧ Below W.heap.size W w') := ⟨fun W h => members_any p.H p.bk st.B st.S W h.book hG.slen⟩
  have HT : Veil (∀ W, CellsAt W p.D 75 (docC st p) → W.cell? ⟨p.D, 1, none⟩ = some (.pointer (some ⟨p.H, 0, none⟩)) ∧ W.rangeAt p.D 2 (st.S.map (Value.int .u32))) := ⟨fun W h => by
    have h1 := h.range 2 8
    rw [(docC_parts st p hG.slen).2.2.1] at h1
    exact ⟨(h.cell 1).trans (docC_parts st p hG.slen).2.1, h1⟩⟩
  have HBX : Veil (∀ W, DocAt W base st p → CellsAt W p.D 75 (docC st p)) := ⟨fun W h => h.box⟩
  have hne : w.heap.size ≠ p.D := fun e => by have := hD.box.lt; omega
  have hj8 := membersL_len st.B st.S
  generalize membersL st.B st.S = J at HME hj8 ⊢
  generalize st.S.map (Value.int .u32) = SV at HME HT iV
  generalize docC st p = DC at HT HBX
  obtain ⟨D, hDD⟩ : ∃ q, p.D = q := ⟨_, rfl⟩
  obtain ⟨H, hHH⟩ : ∃ q, p.H = q := ⟨_, rfl⟩
  rw [hDD, hHH] at HT
  rw [hHH] at HME
  rw [hDD] at HBX hne ⊢
  clear hD hG hDD hHH
  go_enter Tryz.func21, Tryz.ntmps21
  go_upto_region 3 with fail
  obtain ⟨Z, hZ⟩ : ∃ Z : List Int, Z = [0, 0, 0, 0, 0, 0, 0, 0] := ⟨_, rfl⟩
  have hZ8 : Z.length = 8 := by rw [hZ]; rfl
  refine forget (p := fun y => Code.wp _ _ _ _ y) (fun W => Below w.heap.size w W ∧ Holds W w.heap.size .u8 49 Z ∧ DocAt W base st p) ⟨hB0, by rw [hZ]; exact hr0, hD0⟩ ?_
  clear hB0 hr0 hD0 hZ
  rintro W ⟨hB, hr, hD⟩
  have hb0 : Below W.heap.size W W.drew := (Below.refl _ _).drew
  have hT : (fun W : World => W.cell? ⟨D, 1, none⟩ = some (.pointer (some ⟨H, 0, none⟩)) ∧ W.rangeAt D 2 SV) W.drew := HT.out _ (HBX.out _ (hD.far hb0))
  have hS : (fun _ : World => True) W.drew := trivial
  refine wp_region_gateT (fun W : World => W.cell? ⟨D, 1, none⟩ = some (.pointer (some ⟨H, 0, none⟩)) ∧ W.rangeAt D 2 SV) (fun _ => True) 99 (by kernel_rfl) ?_
  refine gh 0 ?_ hT hS ?_ ?_
  rotate_left
  · intro wx hSw; go_split_ands; go_simp; try with_reducible rfl
  simp only [Act.put, gA, gS, gZ, sI, sZ, sS]
  refine gh 1 ?_ hT hS ?_ ?_
  rotate_left
  · intro wx hSw; go_split_ands; go_simp; try with_reducible rfl
  simp only [Act.put, gA, gS, gZ, sI, sZ, sS]
  refine gh 2 ?_ hT hS ?_ ?_
  rotate_left
  · intro wx hSw; go_split_ands; go_simp; try with_reducible rfl
  simp only [Act.put, gA, gS, gZ, sI, sZ, sS]
  refine gh 3 ?_ hT hS ?_ ?_
  rotate_left
  · intro wx hSw; go_split_ands; go_simp; try with_reducible rfl
  simp only [Act.put, gA, gS, gZ, sI, sZ, sS]
  refine gh 4 ?_ hT hS ?_ ?_
  rotate_left
  · intro wx hSw; go_split_ands; go_simp; try with_reducible rfl
  simp only [Act.put, gA, gS, gZ, sI, sZ, sS]
  refine gh 5 ?_ hT hS ?_ ?_
  rotate_left
  · intro wx hSw; go_split_ands; go_simp; try with_reducible rfl
  simp only [Act.put, gA, gS, gZ, sI, sZ, sS]
  refine gh 6 ?_ hT hS ?_ ?_
  rotate_left
  · intro wx hSw; go_split_ands; go_simp; try with_reducible rfl
  simp only [Act.put, gA, gS, gZ, sI, sZ, sS]
  refine gh 7 ?_ hT hS ?_ ?_
  rotate_left
  · intro wx hSw; go_split_ands; go_simp; try with_reducible rfl
  simp only [Act.put, gA, gS, gZ, sI, sZ, sS]
  refine gh 8 ?_ hT hS ?_ ?_
  rotate_left
  · intro wx hSw; go_split_ands; go_simp; try with_reducible rfl
  simp only [Act.put, gA, gS, gZ, sI, sZ, sS]
  refine gl 9 15 37 14 D 2 SV (by kernel_rfl) (by kernel_rfl) (by kernel_rfl) (fun _ _ _ h => h) hT hS (by kernel_rfl) (fun _ h => h.2) uV rfl iV ?_
  simp only [Act.put, gA, gS, gZ, sI, sZ, sS]
  refine wpAnyT_one (i := 10) rfl (by kernel_rfl) (by kernel_rfl) (fun K hK => ?_)
  refine wpx_call _ _ (by kernel_rfl) ((HME.out _ (hD.far hb0)).mono ?_)
  rintro y W2 ⟨rfl, hb2⟩
  refine ⟨_, rfl, ?_⟩
  replace hb2 : Below W.heap.size W W2 := hb0.trans hb2
  have hr2 := holds_farA hr hb2
  have hB2 := hB.trans (hb2.mono hB.size)
  have hbx := HBX.out _ (hD.far hb2)
  replace hT := HT.out _ hbx
  replace hS : (fun _ : World => True) W2 := trivial
  clear hb2 hb0 hB hr hD
  refine hK.out _ _ hT (fun _ => hS) ?_
  clear hK K
  try simp only [Act.put, gA, gS, gZ, sI, sZ, sS]
  refine wpAnyT_one (i := 11) rfl (by kernel_rfl) (by kernel_rfl) (fun K hK => ?_)
  refine wp_stG 49 _ _ rfl w.heap.size rfl rfl hr2 (by rw [hj8]; exact sizeR8) (by rw [hZ8, hj8]) ?_
  replace hT := HT.out (W2.setRow w.heap.size (row .u8 J)) (hbx.setRowM _ (Ne.symm hne))
  replace hS : (fun _ : World => True) (W2.setRow w.heap.size (row .u8 J)) := trivial
  refine hK.out _ _ hT (fun _ => hS) ?_
  clear hK K
  try simp only [Act.put, gA, gS, gZ, sI, sZ, sS]
  refine wpAnyT_done (by kernel_rfl) ?_ _
  clear hT hS
  go_wp2
  refine bodyPost_ret (results_holds (Tryz.results21) _ rfl (hr2.setRow _) Tryz.underlying49 sizeR8 hj8) rfl ⟨rfl, ?_⟩
  exact below_setRow hB2 (by omega) _
theorem TreeAt.lessD {w : World} {base base' R bc bn : Nat} {N : List Nd} {V : (Int × Int) × Bool → Value} (h : TreeAt w base R bc bn N V) (hb : base' ≤ base) : TreeAt w base' R bc bn N V := ⟨h.box, h.chars, h.nodes, ⟨fun s hs => (h.sides.own s hs).less hb, h.sides.apart, h.sides.far⟩, h.empty, h.nodup, h.okId, h.okChr, h.ne⟩
theorem forM_nil : forM [] = fun _ => none := by funext x; unfold forM; simp
def inZ (R H fm : Nat) : List Value := [.pointer (some ⟨R, 0, none⟩), .pointer (some ⟨H, 0, none⟩), .int .u32 0, .int .u32 0, .int .u32 0, .int .u32 0, .int .u32 0, .int .u32 0, .int .u32 0, .int .u32 0, .slice none 0 0, .map (some fm)]
set_option maxHeartbeats 4000000 in
theorem dempty_any (w : World) :
    Calls Tryz.prog 41 #[] w fun r w' => ∃ R bc bn H bk fm, r = .returned (.agg (inZ R H fm).toArray) ∧ TreeAt w' w.heap.size R bc bn [] (fun _ => .slice none 0 0) ∧ BookC w' H bk [] ∧ MapG Tryz.prog 40 encDF okDF w' fm 0 (fun _ => none) ∧ Below w.heap.size w w' ∧ (w.heap.size ≤ R ∧ w.heap.size ≤ bc ∧ w.heap.size ≤ bn) ∧ (R < H ∧ bc < H ∧ bn < H ∧ R < bk ∧ bc < bk ∧ bn < bk) ∧ H ≠ bk ∧ H < fm ∧ bk < fm := by
  obtain ⟨Z, hZ⟩ : ∃ Z : List Value, Z = [.pointer none, .pointer none, .int .u32 0, .int .u32 0, .int .u32 0, .int .u32 0, .int .u32 0, .int .u32 0, .int .u32 0, .int .u32 0, .slice none 0 0, .map none] := ⟨_, rfl⟩
  have hc0 := CellsAt.new w 73 Z
  have hB0 : Below w.heap.size w (w.alloc (.cells Z.toArray 73)) := (Below.refl _ _).alloc (Nat.le_refl _) _
  have hZ12 : Z.length = 12 := by rw [hZ]; rfl
  have iI : ∀ R H fm, (Tryz.prog.info? 73).map (·.size) = some (inZ R H fm).length := fun R H fm => by show _ = some 12; kernel_rfl
  have h1I : ∀ R H fm, ∀ v ∈ inZ R H fm, v.oneCell' = true := fun R H fm v hv => by
    simp [inZ] at hv
    rcases hv with rfl | rfl | rfl | rfl | rfl <;> rfl
  have hmk := @run_makeMap Tryz.prog
  have uI := Tryz.underlying73
  rw [hZ] at hc0 hB0
  go_enter Tryz.func41, Tryz.ntmps41
  go_upto_region 1 with fail
  refine forget (p := fun y => Code.wp _ _ _ _ y) (fun W => Below w.heap.size w W ∧ CellsAt W w.heap.size 73 Z ∧ w.heap.size < W.heap.size) ⟨hB0, by rw [hZ]; exact hc0, hc0.lt⟩ ?_
  clear hB0 hc0 hZ
  rintro W ⟨hB, hc, hlt⟩
  have hnt := newT_any W
  go_wp2_with (first
    | (go_at_call 70; refine hnt.mono ?_; rintro y W1 ⟨R, bc, bn, rfl, hT1, hb1, hr1, hr2, hr3⟩; have hnb := bnew_any W1; clear hnt)
    | (go_at_call 71; refine hnb.mono ?_; rintro y W2 ⟨H, bk, rfl, hK2, hb2, hs1, hs2⟩; have hcZ : CellsAt (W2.alloc (.map #[] 0)) w.heap.size 73 Z := ((hc.farM hb1).farM hb2).alloc _; clear hnb)
    | (refine wpList_stv (cs := inZ R H W2.heap.size) rfl 73 _ _ rfl w.heap.size rfl rfl hcZ (iI _ _ _) hZ12 (h1I _ _ _) ?_))
  have hb3 : Below W2.heap.size W2 (W2.alloc (.map #[] 0)) := (Below.refl _ _).alloc (Nat.le_refl _) _
  have hBR := hT1.box.lt
  have hBc := hT1.chars.lt
  have hBn := hT1.nodes.lt
  have hBH := hK2.cells.lt
  have hBb := hK2.map.lt
  have hne : H ≠ bk := fun e => hK2.map.cellsNe hK2.cells e.symm
  have hk : ∀ k, k < W2.heap.size → k ≠ w.heap.size → ((W2.alloc (.map #[] 0)).setRow w.heap.size (inZ R H W2.heap.size).toArray).heap[k]? = W2.heap[k]? := fun k h1 h2 => by
    rw [setRow_other _ _ _ _ h2]; exact hb3.block k h1
  refine bodyPost_ret (results_cells (Tryz.results41) _ rfl (hcZ.setRow _) uI rfl (iI _ _ _)) rfl ⟨R, bc, bn, H, bk, W2.heap.size, rfl, ?_, ?_, ?_, ?_, ?_, ?_, hne, hBH, hBb⟩
  · have hT2 := hT1.far hb2
    refine TreeAt.lessD (hT2.congr fun k q => hk k (hT2.blockLt k q) ?_) hB.size
    rcases q with rfl | rfl | rfl | ⟨s, -, hs⟩
    · omega
    · omega
    · omega
    · cases hs
  · exact hK2.congr (hk _ hBH (by have := hb1.size; omega)) (hk _ hBb (by have := hb1.size; omega))
  · exact (MapG.made W2).congr (setRow_other _ _ _ _ (by have := hb1.size; have := hb2.size; omega))
  · exact below_setRow (((hB.trans (hb1.mono hB.size)).trans (hb2.mono (Nat.le_trans hB.size hb1.size))).trans (hb3.mono (Nat.le_trans hB.size (Nat.le_trans hb1.size hb2.size)))) (by omega) _
  · omega
  · omega
set_option maxHeartbeats 4000000 in
theorem dNew_any (w : World) :
    Calls Tryz.prog 15 #[] w fun r w' => ∃ p, r = .returned (.pointer (some ⟨p.D, 0, none⟩)) ∧ DocAt w' w.heap.size newS p ∧ Below w.heap.size w w' ∧ ∀ k, docP p k → w.heap.size ≤ k := by
  have he := dempty_any w
  go_enter Tryz.func15, Tryz.ntmps15
  go_wp2_with (go_at_call 41; refine he.mono ?_; rintro y W1 ⟨R, bc, bn, H, bk, fm, rfl, hT, hK, hM, hB, hl1, hl2, hne, hl3, hl4⟩; clear he; unfold inZ)
  go_ret
  have hb2 : Below W1.heap.size W1 (W1.alloc (.cells (inZ R H fm).toArray 75)) := (Below.refl _ _).alloc (Nat.le_refl _) _
  have hfl := hM.lt
  have l1 := hT.box.lt
  have l2 := hT.chars.lt
  have l3 := hT.nodes.lt
  have hlH := hK.cells.lt
  have hlk := hK.map.lt
  have hno : ∀ k, treeP R bc bn (fun _ => Value.slice none 0 0) k → k = R ∨ k = bc ∨ k = bn := fun k q => by
    rcases q with q | q | q | ⟨s, -, hs⟩
    · exact .inl q
    · exact .inr (.inl q)
    · exact .inr (.inr q)
    · cases hs
  refine ⟨⟨W1.heap.size, R, bc, bn, fun _ => .slice none 0 0, H, bk, .slice none 0 0, fm⟩, rfl, ⟨CellsAt.new W1 75 (inZ R H fm), hT.far hb2, hK.far hb2, OwnI.nil _ _ _ _, ?_, ⟨fun k q => ?_, ?_, ?_⟩⟩, hB.trans (hb2.mono hB.size), fun k q => ?_⟩
  · rw [show newS.F = [] from rfl, forM_nil]; exact hM.congr (hb2.block _ hfl)
  · show k ≠ W1.heap.size ∧ k ≠ H ∧ k ≠ bk ∧ k ≠ fm ∧ (Value.slice none 0 0).ownBlock ≠ some k
    have := hno k q
    exact ⟨by omega, by omega, by omega, by omega, (fun e => by cases e)⟩
  · show W1.heap.size ≠ H ∧ W1.heap.size ≠ bk ∧ W1.heap.size ≠ fm ∧ (Value.slice none 0 0).ownBlock ≠ some W1.heap.size
    exact ⟨by omega, by omega, by omega, (fun e => by cases e)⟩
  · show H ≠ bk ∧ H ≠ fm ∧ (Value.slice none 0 0).ownBlock ≠ some H ∧ bk ≠ fm ∧ (Value.slice none 0 0).ownBlock ≠ some bk ∧ (Value.slice none 0 0).ownBlock ≠ some fm
    exact ⟨hne, by omega, (fun e => by cases e), by omega, (fun e => by cases e), (fun e => by cases e)⟩
  · have hs := hB.size
    rcases q with q | q | q | q | q | q
    · have : k = W1.heap.size := q; omega
    · have := hno k q; omega
    · have : k = H := q; omega
    · have : k = bk := q; omega
    · cases q
    · have : k = fm := q; omega
end Go.Proofs.YtmbdohnmbkpfaaaGreat
