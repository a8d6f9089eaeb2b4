/- Dc16 -/
import Derived.Test.YtgmbmdmbnpkbbaaM43
namespace Go.Proofs.Ytgmbmdmbnpkbbaa
open Go.RowKit Go.Shelf
set_option maxRecDepth 20000
set_option linter.unusedSimpArgs false
set_option maxHeartbeats 16000000 in
theorem dWrite_any (base : Nat) (st : Ds) (p : Pl) (a i c : Int) (w : World) (hD : DocAt w base st p) (hG : GoodD st) (ha0 : 0 ≤ a) (hi : i ≤ 9223372036854775807) :
    Calls Try.prog 10 #[.pointer (some ⟨p.D, 0, none⟩), .int .u8 a, .int .i64 i, .int .u8 c] w fun r w' => r = .returned (.tuple #[.agg (tellW st a i c).1.cells.toArray, .int .i64 (tellW st a i c).2]) ∧ Below w.heap.size w w' := by
  have hB0 : Below w.heap.size w (w.alloc (.cells zC.toArray 32)) := (Below.refl _ _).alloc (Nat.le_refl _) _
  have hz0 := CellsAt.new w 32 zC
  have hD0 := hD.far hB0
  have hsl := hG.slen
  have HFB : Veil (∀ W, DocAt W base st p → Calls Try.prog 24 #[.pointer (some ⟨p.D, 0, none⟩), .int .u8 a, .bool (decide (1 ≤ c) && decide (c ≤ 127)), .int .u8 2] W fun r w' => r = .returned (.int .i64 (forbN st a (decide (1 ≤ c) && decide (c ≤ 127)) 2)) ∧ Below W.heap.size W w') := ⟨fun W h => dforbid_any base st p a (decide (1 ≤ c) && decide (c ≤ 127)) 2 W h hG ha0⟩
  have HPL : Veil (∀ W, DocAt W base st p → Calls Try.prog 29 #[.pointer (some ⟨p.R, 0, none⟩), .int .i64 i] W fun e w' => e = .returned (.tuple #[.agg (encF (placeN st.N i).1).toArray, .bool (placeN st.N i).2.1, .int .i64 (placeN st.N i).2.2]) ∧ Below W.heap.size W w') := ⟨fun W h => placeT_any base p.R p.bc p.bn st.N p.V hG.tree (by have := hG.nlen; have := hG.llen; omega) i hi W h.tree⟩
  have HR1 : Veil (forbN st a (decide (1 ≤ c) && decide (c ≤ 127)) 2 ≠ 0 → (tellW st a i c).1.cells = zC ∧ (tellW st a i c).2 = forbN st a (decide (1 ≤ c) && decide (c ≤ 127)) 2) := ⟨fun h => by
    have : tellW st a i c = (evZ0, forbN st a (decide (1 ≤ c) && decide (c ≤ 127)) 2) := if_pos h
    rw [this]; exact ⟨rfl, rfl⟩⟩
  have HR2 : Veil (forbN st a (decide (1 ≤ c) && decide (c ≤ 127)) 2 = 0 → (placeN st.N i).2.2 ≠ 0 → (tellW st a i c).1.cells = zC ∧ (tellW st a i c).2 = (placeN st.N i).2.2) := ⟨fun h h2 => by
    have : tellW st a i c = (evZ0, (placeN st.N i).2.2) := (if_neg (by rw [h]; simp)).trans (if_pos h2)
    rw [this]; exact ⟨rfl, rfl⟩⟩
  have HR3 : Veil (forbN st a (decide (1 ≤ c) && decide (c ≤ 127)) 2 = 0 → (placeN st.N i).2.2 = 0 → ∃ n : Nat, a = (n : Int) ∧ (tellW st a i c).1.cells.length = 17 ∧ (∀ u ∈ (tellW st a i c).1.cells, u.oneCell' = true) ∧ (tellW st a i c).2 = 0 ∧ ∀ W, DocAt W base st p → Calls Try.prog 27 #[.pointer (some ⟨p.D, 0, none⟩), .int .u8 (n : Int), .agg (evKC 1 (placeN st.N i).1.1 (placeN st.N i).1.2 (placeN st.N i).2.1 c 0 0).toArray] W fun r w' => r = .returned (.agg (tellW st a i c).1.cells.toArray) ∧ Below W.heap.size W w') := ⟨fun h h2 => by
    have ha8 := (forbN_zero h).1
    have e1 : tellW st a i c = (nextE st a.toNat (evK 1 (placeN st.N i).1 (placeN st.N i).2.1 c 0 0), 0) := (if_neg (by rw [h]; simp)).trans (if_neg (by rw [h2]; simp))
    rw [e1]
    exact ⟨a.toNat, by omega, aev_len _ hG.slen, aev_one _, rfl, fun W hW => dnext_any base st p a.toNat (evK 1 (placeN st.N i).1 (placeN st.N i).2.1 c 0 0) W hW hG (by omega) rfl⟩⟩
  generalize (tellW st a i c).1.cells = TC at HR1 HR2 HR3 ⊢
  generalize (tellW st a i c).2 = TN at HR1 HR2 HR3 ⊢
  generalize forbN st a (decide (1 ≤ c) && decide (c ≤ 127)) 2 = fN at HFB HR1 HR2 HR3
  generalize placeN st.N i = PL at HPL HR2 HR3
  obtain ⟨⟨pa, pb⟩, pr, pe⟩ := PL
  simp only [encF, dotC] at HPL HR2 HR3
  have uE := Try.underlying32
  have uD := Try.underlying26
  have iZ : (Try.prog.info? 32).map (·.size) = some zC.length := by show _ = some 17; kernel_rfl
  have h1Z := zC_one
  have HCR : Veil (∀ W, DocAt W base st p → W.cell? ⟨p.D, 0, none⟩ = some (.pointer (some ⟨p.R, 0, none⟩))) := ⟨fun W h => h.cR hG.slen⟩
  obtain ⟨Z, hZ⟩ : ∃ Z, Z = zC := ⟨_, rfl⟩
  obtain ⟨D, hDD⟩ : ∃ q, p.D = q := ⟨_, rfl⟩
  rw [hDD] at HFB HR3 HCR ⊢
  rw [← hZ] at HR1 HR2 iZ h1Z
  clear hD hG hDD
  unfold zC at hB0 hz0 hD0
  go_enter Try.func10, Try.ntmps10
  go_upto_region 1 with fail
  refine forget (p := fun y => Code.wp _ _ _ _ y) (fun W => Below w.heap.size w W ∧ CellsAt W w.heap.size 32 Z ∧ DocAt W base st p) ⟨hB0, by rw [hZ]; exact hz0, hD0⟩ ?_
  clear hB0 hz0 hD0
  rintro W ⟨hB, hz, hD⟩
  have hfb := HFB.out W hD
  have hch := isChar_any c W
  go_upto_region 2 with (first
    | (go_at_call 28; refine hch.mono ?_; rintro y W1 ⟨rfl, h1⟩; replace h1 := h1.symm; subst h1; clear hch)
    | (go_at_call 24; refine hfb.mono ?_; rintro y W2 ⟨rfl, hb2⟩; clear hfb))
  have hB2 := hB.trans (hb2.mono hB.size)
  have hz2 := hz.farM hb2
  have hD2 := hD.far hb2
  clear hb2 hB hz hD W
  by_cases h0 : fN = 0
  rotate_left
  · have h0b : (fN == 0) = false := by simpa using h0
    obtain ⟨e1, e2⟩ := HR1.out h0
    have hzz : Z = [.int .u8 0, .int .u32 0, .int .u32 0, .int .u32 0, .int .u32 0, .int .u32 0, .int .u32 0, .int .u32 0, .int .u32 0, .int .u32 0, .int .u8 0, .int .u8 0, .int .u32 0, .bool false, .int .u8 0, .int .u8 0, .int .u8 0] := hZ
    clear e1 e2
    go_wp2_with (refine wpList_stv (cs := [.int .u8 0, .int .u32 0, .int .u32 0, .int .u32 0, .int .u32 0, .int .u32 0, .int .u32 0, .int .u32 0, .int .u32 0, .int .u32 0, .int .u8 0, .int .u8 0, .int .u32 0, .bool false, .int .u8 0, .int .u8 0, .int .u8 0]) rfl 32 _ _ rfl w.heap.size rfl rfl hz2 (by rw [← hzz]; exact iZ) (by rw [hzz]) (by rw [← hzz]; exact h1Z) ?_)
    obtain ⟨e1, e2⟩ := HR1.out h0
    refine bodyPost_ret (results_ct (Try.results10) _ rfl rfl (hz2.setRow _) uE rfl (by rw [← hzz]; exact iZ)) rfl ⟨?_, below_setRow hB2 (Nat.le_refl _) _⟩
    rw [e1, e2, hzz]; rfl
  subst h0
  have hcl := HPL.out W2 hD2
  have hcr := HCR.out W2 hD2
  have HRR : Veil (p.R = p.R) := ⟨rfl⟩
  go_upto_region 5 with (go_at_call 29; refine hcl.mono ?_; rintro y W3 ⟨rfl, hb3⟩; clear hcl)
  have hb4 : Below W3.heap.size W3 (W3.alloc (.cells #[.int .u8 pa, .int .u32 pb] 26)) := (Below.refl _ _).alloc (Nat.le_refl _) _
  have hb24 := hb3.trans (hb4.mono hb3.size)
  refine forget (p := fun y => Code.wp _ _ _ _ y) (fun W => Below W2.heap.size W2 W ∧ CellsAt W W3.heap.size 26 [.int .u8 pa, .int .u32 pb]) ⟨hb24, CellsAt.new W3 26 [.int .u8 pa, .int .u32 pb]⟩ ?_
  have HLP : Veil (w.heap.size < W3.heap.size) := ⟨by have := hz2.lt; have := hb3.size; omega⟩
  generalize W3.heap.size = bd at HLP
  clear hb24 hb4 hb3 W3
  rintro W4 ⟨hb4, hd4⟩
  have hB4 := hB2.trans (hb4.mono hB2.size)
  have hz4 := hz2.farM hb4
  have hD4 := hD2.far hb4
  clear hb4 hB2 hz2 hD2 hcr W2
  by_cases h2 : pe = 0
  rotate_left
  · have h2b : (pe == 0) = false := by simpa using h2
    have hzz : Z = [.int .u8 0, .int .u32 0, .int .u32 0, .int .u32 0, .int .u32 0, .int .u32 0, .int .u32 0, .int .u32 0, .int .u32 0, .int .u32 0, .int .u8 0, .int .u8 0, .int .u32 0, .bool false, .int .u8 0, .int .u8 0, .int .u8 0] := hZ
    go_wp2_with (refine wpList_stv (cs := [.int .u8 0, .int .u32 0, .int .u32 0, .int .u32 0, .int .u32 0, .int .u32 0, .int .u32 0, .int .u32 0, .int .u32 0, .int .u32 0, .int .u8 0, .int .u8 0, .int .u32 0, .bool false, .int .u8 0, .int .u8 0, .int .u8 0]) rfl 32 _ _ rfl w.heap.size rfl rfl hz4 (by rw [← hzz]; exact iZ) (by rw [hzz]) (by rw [← hzz]; exact h1Z) ?_)
    obtain ⟨e1, e2⟩ := HR2.out (by first | rfl | trivial) h2
    refine bodyPost_ret (results_ct (Try.results10) _ rfl rfl (hz4.setRow _) uE rfl (by rw [← hzz]; exact iZ)) rfl ⟨?_, below_setRow hB4 (Nat.le_refl _) _⟩
    rw [e1, e2, hzz]; rfl
  subst h2
  obtain ⟨n, rfl, hl17, h1c, rfl, hnx⟩ := HR3.out (by first | rfl | trivial) (by first | rfl | trivial)
  have iN : (Try.prog.info? 32).map (·.size) = some TC.length := by rw [hl17]; kernel_rfl
  have iD2 : (Try.prog.info? 26).map (·.size) = some [Value.int .u8 pa, Value.int .u32 pb].length := sizeDot
  have HZ17 : Veil (Z.length = 17) := ⟨by rw [hZ]; rfl⟩
  have HNX := Veil.mk hnx
  clear hnx
  go_upto_region 7 with fail
  have hb0 : Below W4.heap.size W4 W4.drew := (Below.refl _ _).drew
  have hT : (fun W : World => W.rangeAt bd 0 [Value.int .u8 pa, Value.int .u32 pb]) W4.drew := (hd4.farM hb0).wholeM
  have hS : (fun _ : World => True) W4.drew := trivial
  refine wp_region_gateT (fun W : World => W.rangeAt bd 0 [Value.int .u8 pa, Value.int .u32 pb]) (fun _ => True) 99 (by kernel_rfl) ?_
  refine wpAnyT_held (i := 0) (v := ?_) rfl (by kernel_rfl) (by kernel_rfl) (by kernel_rfl) (fun _ _ _ h => h) (by kernel_rfl) hT (fun _ => hS) (by kernel_rfl) ?_ ?_
  rotate_left
  · intro wx hSw; go_split_ands; go_simp; try with_reducible rfl
  simp only [Act.put, List.getElem_toArray, List.getElem_cons_succ, List.getElem_cons_zero, List.setIfInBounds_toArray, List.set_cons_zero, List.set_cons_succ]
  refine wpAnyT_held (i := 1) (v := ?_) rfl (by kernel_rfl) (by kernel_rfl) (by kernel_rfl) (fun _ _ _ h => h) (by kernel_rfl) hT (fun _ => hS) (by kernel_rfl) ?_ ?_
  rotate_left
  · intro wx hSw; go_split_ands; go_simp; try with_reducible rfl
  simp only [Act.put, List.getElem_toArray, List.getElem_cons_succ, List.getElem_cons_zero, List.setIfInBounds_toArray, List.set_cons_zero, List.set_cons_succ]
  refine wpAnyT_held (i := 2) (v := ?_) rfl (by kernel_rfl) (by kernel_rfl) (by kernel_rfl) (fun _ _ _ h => h) (by kernel_rfl) hT (fun _ => hS) (by kernel_rfl) ?_ ?_
  rotate_left
  · intro wx hSw; go_split_ands; go_simp; try with_reducible rfl
  simp only [Act.put, List.getElem_toArray, List.getElem_cons_succ, List.getElem_cons_zero, List.setIfInBounds_toArray, List.set_cons_zero, List.set_cons_succ]
  refine wpAnyT_held (i := 3) (v := ?_) rfl (by kernel_rfl) (by kernel_rfl) (by kernel_rfl) (fun _ _ _ h => h) (by kernel_rfl) hT (fun _ => hS) (by kernel_rfl) ?_ ?_
  rotate_left
  · intro wx hSw; go_split_ands; go_simp; try with_reducible rfl
  simp only [Act.put, List.getElem_toArray, List.getElem_cons_succ, List.getElem_cons_zero, List.setIfInBounds_toArray, List.set_cons_zero, List.set_cons_succ]
  refine wpAnyT_load (i := 4) (dst := some 42) (ty := 26) (x := .tmp 11) (b := bd) (o := (0)) (cs := [Value.int .u8 pa, Value.int .u32 pb]) (by kernel_rfl) (by kernel_rfl) (by kernel_rfl) (by kernel_rfl) (by kernel_rfl) (fun _ _ _ h => h) (by kernel_rfl) hT (fun _ => hS) (by kernel_rfl) (fun _ h => h) uD rfl iD2 ?_
  simp only [Act.put, List.getElem_toArray, List.getElem_cons_succ, List.getElem_cons_zero, List.setIfInBounds_toArray, List.set_cons_zero, List.set_cons_succ]
  refine wpAnyT_held (i := 5) (v := ?_) rfl (by kernel_rfl) (by kernel_rfl) (by kernel_rfl) (fun _ _ _ h => h) (by kernel_rfl) hT (fun _ => hS) (by kernel_rfl) ?_ ?_
  rotate_left
  · intro wx hSw; go_split_ands; go_simp; try with_reducible rfl
  simp only [Act.put, List.getElem_toArray, List.getElem_cons_succ, List.getElem_cons_zero, List.setIfInBounds_toArray, List.set_cons_zero, List.set_cons_succ]
  refine wpAnyT_held (i := 6) (v := ?_) rfl (by kernel_rfl) (by kernel_rfl) (by kernel_rfl) (fun _ _ _ h => h) (by kernel_rfl) hT (fun _ => hS) (by kernel_rfl) ?_ ?_
  rotate_left
  · intro wx hSw; go_split_ands; go_simp; try with_reducible rfl
  simp only [Act.put, List.getElem_toArray, List.getElem_cons_succ, List.getElem_cons_zero, List.setIfInBounds_toArray, List.set_cons_zero, List.set_cons_succ]
  refine wpAnyT_held (i := 7) (v := ?_) rfl (by kernel_rfl) (by kernel_rfl) (by kernel_rfl) (fun _ _ _ h => h) (by kernel_rfl) hT (fun _ => hS) (by kernel_rfl) ?_ ?_
  rotate_left
  · intro wx hSw; go_split_ands; go_simp; try with_reducible rfl
  simp only [Act.put, List.getElem_toArray, List.getElem_cons_succ, List.getElem_cons_zero, List.setIfInBounds_toArray, List.set_cons_zero, List.set_cons_succ]
  refine wpAnyT_one (i := 8) rfl (by kernel_rfl) (by kernel_rfl) (fun K hK => ?_)
  refine wpx_call _ _ (by kernel_rfl) ((HNX.out _ (hD4.far hb0)).mono ?_)
  rintro y W5 ⟨rfl, hb5⟩
  refine ⟨_, rfl, ?_⟩
  replace hb5 : Below W4.heap.size W4 W5 := hb0.trans hb5
  have hd5 := hd4.farM hb5
  have hz5 := hz4.farM hb5
  have hB5 := hB4.trans (hb5.mono hB4.size)
  replace hT : (fun W : World => W.rangeAt bd 0 [Value.int .u8 pa, Value.int .u32 pb]) W5 := hd5.wholeM
  replace hS : (fun _ : World => True) W5 := trivial
  refine hK.out _ _ hT (fun _ => hS) ?_
  clear hK K
  try simp only [Act.put, List.getElem_toArray, List.getElem_cons_succ, List.getElem_cons_zero, List.setIfInBounds_toArray, List.set_cons_zero, List.set_cons_succ]
  refine wpAnyT_one (i := 9) rfl (by kernel_rfl) (by kernel_rfl) (fun K hK => ?_)
  refine wp_stvE (cs := TC) 32 _ _ rfl w.heap.size rfl rfl hz5 iN (by rw [HZ17.out, hl17]) h1c ?_
  replace hT : (fun W : World => W.rangeAt bd 0 [Value.int .u8 pa, Value.int .u32 pb]) (W5.setRow w.heap.size TC.toArray) := (hd5.setRowM _ (by have := HLP.out; omega)).wholeM
  replace hS : (fun _ : World => True) (W5.setRow w.heap.size TC.toArray) := trivial
  refine hK.out _ _ hT (fun _ => hS) ?_
  clear hK K
  try simp only [Act.put, List.getElem_toArray, List.getElem_cons_succ, List.getElem_cons_zero, List.setIfInBounds_toArray, List.set_cons_zero, List.set_cons_succ]
  refine wpAnyT_held (i := 10) (v := ?_) rfl (by kernel_rfl) (by kernel_rfl) (by kernel_rfl) (fun _ _ _ h => h) (by kernel_rfl) hT (fun _ => hS) (by kernel_rfl) ?_ ?_
  rotate_left
  · intro wx hSw; go_split_ands; go_simp; try with_reducible rfl
  simp only [Act.put, List.getElem_toArray, List.getElem_cons_succ, List.getElem_cons_zero, List.setIfInBounds_toArray, List.set_cons_zero, List.set_cons_succ]
  refine wpAnyT_done (by kernel_rfl) ?_ _
  clear hT hS
  go_wp2
  refine bodyPost_ret (results_ct (Try.results10) _ rfl rfl (hz5.setRow _) uE rfl iN) rfl ⟨rfl, below_setRow hB5 (Nat.le_refl _) _⟩
end Go.Proofs.Ytgmbmdmbnpkbbaa
