/- De10 Dc13 -/
import Derived.Test.YtmbdohnmbkpfaaaGreatU44
import Derived.Test.YtmbdohnmbkpfaaaGreatU45
import Derived.Test.YtmbdohnmbkpfaaaGreatU42
namespace Go.Proofs.YtmbdohnmbkpfaaaGreat
open Go.RowKit Go.Shelf
set_option maxRecDepth 20000
set_option linter.unusedSimpArgs false
set_option maxHeartbeats 16000000 in
theorem rWrite_any (base : Nat) (st : Ds) (p : Rp) (a i c : Int) (w : World) (hD : RDocAt w base st p) (hG : GoodD st) (hR : GoodR st p.K p.G) (ha0 : 0 ≤ a) :
    Calls Tryz.prog 63 #[.pointer (some ⟨p.D, 0, none⟩), .int .u8 a, .int .i64 i, .int .u8 c] w fun r w' => r = .returned (.tuple #[.agg (tellW st a i c).1.cells.toArray, .int .i64 (tellW st a i c).2]) ∧ Below w.heap.size w w' := by
  have hB0 : Below w.heap.size w (w.alloc (.cells zC.toArray 44)) := (Below.refl _ _).alloc (Nat.le_refl _) _
  have hz0 := CellsAt.new w 44 zC
  have hD0 := hD.far hB0
  have HMY : Veil (∀ fit W, RDocAt W base st p → Calls Tryz.prog 87 #[.pointer (some ⟨p.D, 0, none⟩), .int .u8 a, .bool fit, .int .u8 2] W fun r w' => r = .returned (.tuple #[.agg (mayE st a fit 2).cells.toArray, .int .i64 (forbN st a fit 2)]) ∧ Below W.heap.size W w') := ⟨fun fit W h => rmay_any base st p a fit 2 W h hG hR ha0⟩
  have HPL : Veil (∀ W, RDocAt W base st p → W.cell? ⟨p.D, 10, none⟩ = some (.pointer (some ⟨p.T, 0, none⟩)) ∧ Calls Tryz.prog 88 #[.pointer (some ⟨p.T, 0, none⟩), .int .i64 i] W fun e w' => e = .returned (.tuple #[.agg (encF ((placeN st.N i).1)).toArray, .bool (placeN st.N i).2.1, .int .i64 ((placeN st.N i).2.2)]) ∧ Below W.heap.size W w') := ⟨fun W h => ⟨h.cT hG.slen, rplace_any base p.T p.tv st.N hG.tree (by have := hG.nlen; have := hG.llen; omega) i W h.tree⟩⟩
  have HBAD : Veil (forbN st a (decide (1 ≤ c) && decide (c ≤ 127)) 2 ≠ 0 → (tellW st a i c).1.cells = zC ∧ (tellW st a i c).2 = forbN st a (decide (1 ≤ c) && decide (c ≤ 127)) 2) := ⟨fun h => by
    have : tellW st a i c = (evZ0, forbN st a (decide (1 ≤ c) && decide (c ≤ 127)) 2) := if_pos h
    rw [this]; exact ⟨rfl, rfl⟩⟩
  have HBAD2 : Veil (forbN st a (decide (1 ≤ c) && decide (c ≤ 127)) 2 = 0 → (placeN st.N i).2.2 ≠ 0 → (tellW st a i c).1.cells = zC ∧ (tellW st a i c).2 = (placeN st.N i).2.2) := ⟨fun h h2 => by
    have : tellW st a i c = (evZ0, (placeN st.N i).2.2) := (if_neg (by rw [h]; simp)).trans (if_pos h2)
    rw [this]; exact ⟨rfl, rfl⟩⟩
  have HOK : Veil (forbN st a (decide (1 ≤ c) && decide (c ≤ 127)) 2 = 0 → (placeN st.N i).2.2 = 0 → (tellW st a i c).2 = 0 ∧ (((((mayE st a (decide (1 ≤ c) && decide (c ≤ 127)) 2).cells.set 10 (.int .u8 1)).set 14 (.int .u8 c)).take 11 ++ Value.int .u8 ((placeN st.N i).1).1 :: Value.int .u32 ((placeN st.N i).1).2 :: (((mayE st a (decide (1 ≤ c) && decide (c ≤ 127)) 2).cells.set 10 (.int .u8 1)).set 14 (.int .u8 c)).drop 13).set 13 (.bool (placeN st.N i).2.1)) = (tellW st a i c).1.cells) := ⟨fun h h2 => by
    have e1 : tellW st a i c = (nextE st a.toNat (evK 1 (placeN st.N i).1 (placeN st.N i).2.1 c 0 0), 0) := (if_neg (by rw [h]; simp)).trans (if_neg (by rw [h2]; simp))
    obtain ⟨s0, s1, s2, s3, s4, s5, s6, s7, hS8⟩ := eight st.S hG.slen
    rw [e1]
    refine ⟨rfl, ?_⟩
    unfold mayE
    rw [if_pos h]
    unfold nextE evZ0 evK Ev.cells dotC
    simp only [hS8]
    rfl⟩
  have HM17 : Veil (∀ fit, (mayE st a fit 2).cells.length = 17 ∧ ∀ u ∈ (mayE st a fit 2).cells, u.oneCell' = true) := ⟨fun fit => ⟨aev_len _ (mayE_past hG), aev_one _⟩⟩
  have h1T : ∀ u ∈ (tellW st a i c).1.cells, u.oneCell' = true := aev_one _
  have HLT : Veil (∀ k, rdocP p k → k < w.heap.size) := ⟨hD.blockLt⟩
  have hfit : ((decide (1 ≤ c) && decide (c ≤ 127)) = true ∧ 1 ≤ c ∧ c ≤ 127) ∨ ((decide (1 ≤ c) && decide (c ≤ 127)) = false ∧ c < 1) ∨ ((decide (1 ≤ c) && decide (c ≤ 127)) = false ∧ 1 ≤ c ∧ 127 < c) := by
    by_cases h1 : 1 ≤ c
    · by_cases h2 : c ≤ 127
      · exact .inl ⟨by simp; omega, h1, h2⟩
      · exact .inr (.inr ⟨by simp; omega, h1, by omega⟩)
    · exact .inr (.inl ⟨by simp; omega, by omega⟩)
  obtain ⟨fit, hft⟩ : ∃ q, (decide (1 ≤ c) && decide (c ≤ 127)) = q := ⟨_, rfl⟩
  rw [hft] at HBAD HBAD2 HOK hfit
  have hmy := HMY.out fit
  obtain ⟨hlM, h1M⟩ := HM17.out fit
  generalize (mayE st a fit 2).cells = MC at hmy HOK hlM h1M
  generalize forbN st a fit 2 = FN at hmy HBAD HBAD2 HOK
  generalize (tellW st a i c).1.cells = TC at HBAD HBAD2 HOK h1T ⊢
  generalize (tellW st a i c).2 = TN at HBAD HBAD2 HOK ⊢
  generalize placeN st.N i = PL at HPL HBAD2 HOK
  obtain ⟨⟨pa, pb⟩, pr, pe⟩ := PL
  
  simp only [encF, dotC] at HPL HBAD2 HOK
  have HMC := Veil.mk hmy
  have uE := Tryz.underlying44
  have iZ : (Tryz.prog.info? 44).map (·.size) = some zC.length := by show _ = some 17; kernel_rfl
  have iM : (Tryz.prog.info? 44).map (·.size) = some MC.length := by rw [hlM]; kernel_rfl
  have h1Z := zC_one
  have HZN : Veil (∀ W : World, CellsAt (W.alloc (.cells zC.toArray 44)) W.heap.size 44 zC ∧ Below W.heap.size W ((W.alloc (.cells zC.toArray 44)).setRow W.heap.size MC.toArray)) := ⟨fun W => ⟨CellsAt.new W 44 zC, below_setRow ((Below.refl _ _).alloc (Nat.le_refl _) _) (Nat.le_refl _) _⟩⟩
  obtain ⟨Z, hZ0⟩ : ∃ Z, Z = zC := ⟨_, rfl⟩
  rw [← hZ0] at iZ h1Z HBAD HBAD2
  have hZ := hZ0
  unfold zC at hZ HZN hB0 hz0 hD0
  have HZ17 : Veil (Z.length = 17) := ⟨by rw [hZ0]; rfl⟩
  obtain ⟨D, hDD⟩ : ∃ q, p.D = q := ⟨_, rfl⟩
  rw [hDD] at HMC HPL ⊢
  clear hD hG hR hft HMY HM17 hmy hDD
  rcases hfit with ⟨rfl, h1, h2⟩ | ⟨rfl, h1⟩ | ⟨rfl, h1, h2⟩
  all_goals
    first | (have g1 : decide (1 ≤ c) = true := by simp; omega) | (have g1 : decide (1 ≤ c) = false := by simp; omega)
    try first | (have g2 : decide (c ≤ 127) = true := by simp; omega) | (have g2 : decide (c ≤ 127) = false := by simp; omega)
    go_enter Tryz.func63, Tryz.ntmps63
    go_upto_region 1 with fail
    refine forget (p := fun y => Code.wp _ _ _ _ y) (fun W => Below w.heap.size w W ∧ CellsAt W w.heap.size 44 Z ∧ RDocAt W base st p) ⟨hB0, by rw [hZ]; exact hz0, hD0⟩ ?_
    clear hB0 hz0 hD0
    rintro W ⟨hB, hz, hD⟩
    have hcl := HMC.out W hD
    go_upto_region 2 with (first
      | (go_at_call 87; refine hcl.mono ?_; rintro z W1 ⟨rfl, hb1⟩; have hz1 := (HZN.out W1).1; clear hcl)
      | (refine wpList_stv (cs := MC) rfl 44 _ _ rfl W1.heap.size rfl rfl hz1 iM (by rw [hlM]; rfl) h1M ?_))
    have hb2 := (HZN.out W1).2
    have hx2 := hz1.setRow MC
    have hb12 := hb1.trans (hb2.mono hb1.size)
    have HBL : Veil (w.heap.size < W1.heap.size) := ⟨by have := hz.lt; have := hb1.size; omega⟩
    refine forget (p := fun y => Code.wp _ _ _ _ y) (fun W2 => Below w.heap.size w W2 ∧ CellsAt W2 w.heap.size 44 Z ∧ RDocAt W2 base st p ∧ CellsAt W2 W1.heap.size 44 MC) ⟨hB.trans (hb12.mono hB.size), hz.farM hb12, hD.far hb12, hx2⟩ ?_
    generalize W1.heap.size = b1 at HBL
    clear hb1 hb2 hb12 hz1 hx2 hB hz hD HMC HZN W W1
    rintro W ⟨hB, hz, hD, hx⟩
    have hzz : Z = [.int .u8 0, .int .u32 0, .int .u32 0, .int .u32 0, .int .u32 0, .int .u32 0, .int .u32 0, .int .u32 0, .int .u32 0, .int .u32 0, .int .u8 0, .int .u8 0, .int .u32 0, .bool false, .int .u8 0, .int .u8 0, .int .u8 0] := hZ
    by_cases h0 : FN = 0
    rotate_left
    · have h0b : (FN == 0) = false := by simpa using h0
      have HQ := Veil.mk (HBAD.out h0)
      clear hx
      go_wp2_with (refine wpList_stv (cs := [.int .u8 0, .int .u32 0, .int .u32 0, .int .u32 0, .int .u32 0, .int .u32 0, .int .u32 0, .int .u32 0, .int .u32 0, .int .u32 0, .int .u8 0, .int .u8 0, .int .u32 0, .bool false, .int .u8 0, .int .u8 0, .int .u8 0]) rfl 44 _ _ rfl w.heap.size rfl rfl hz (by rw [← hzz]; exact iZ) (by rw [hzz]) (by rw [← hzz]; exact h1Z) ?_)
      refine bodyPost_ret (results_ct (Tryz.results63) _ rfl rfl (hz.setRow _) uE rfl (by rw [← hzz]; exact iZ)) rfl ⟨?_, below_setRow hB (Nat.le_refl _) _⟩
      rw [HQ.out.1, HQ.out.2, hzz]; rfl
    subst h0
    replace HBAD2 := Veil.mk (HBAD2.out rfl)
    replace HOK := Veil.mk (HOK.out rfl)
    have hb1l : w.heap.size ≤ b1 := Nat.le_of_lt HBL.out
    have hb1n : w.heap.size ≠ b1 := Nat.ne_of_lt HBL.out
    have c0 := hx.cell 10
    have f0 := hx.frozen 10
    rw [List.getElem?_eq_getElem (by simp [hlM])] at c0
    have d0 := hx.cell 10
    have e0 := hx.frozen 10
    rw [List.getElem?_eq_getElem (by rw [hlM]; decide)] at d0
    have hx0 := hx.set 10 (.int .u8 1)
    have c1 := hx0.cell 14
    have f1 := hx0.frozen 14
    rw [List.getElem?_eq_getElem (by simp [hlM])] at c1
    have d1 := hx.cell 14
    have e1 := hx.frozen 14
    rw [List.getElem?_eq_getElem (by rw [hlM]; decide)] at d1
    have hx1 := hx0.set 14 (.int .u8 c)
    have HX3 := Veil.mk hx1
    have HZ3 : Veil (CellsAt ((W.setCell ⟨b1, 10, none⟩ (.int .u8 1)).setCell ⟨b1, 14, none⟩ (.int .u8 c)) w.heap.size 44 Z) := ⟨((hz.setOther17 hb1n _).setOther17 hb1n _)⟩
    have HB3 : Veil (Below w.heap.size w ((W.setCell ⟨b1, 10, none⟩ (.int .u8 1)).setCell ⟨b1, 14, none⟩ (.int .u8 c))) := ⟨((hB.setCell hb1l _).setCell hb1l _)⟩
    have hDa : RDocAt (W.setCell ⟨b1, 10, none⟩ (.int .u8 1)) base st p := hD.congr fun k q => Below.heap_setCell _ _ _ k (Nat.ne_of_lt (Nat.lt_of_lt_of_le (HLT.out k q) hb1l))
    have HD3 : Veil (RDocAt ((W.setCell ⟨b1, 10, none⟩ (.int .u8 1)).setCell ⟨b1, 14, none⟩ (.int .u8 c)) base st p) := ⟨hDa.congr fun k q => Below.heap_setCell _ _ _ k (Nat.ne_of_lt (Nat.lt_of_lt_of_le (HLT.out k q) hb1l))⟩
    clear hDa
    have HCL : Veil (((MC.set 10 (.int .u8 1)).set 14 (.int .u8 c)).length = 17) := ⟨by simp [hlM]⟩
    clear hx0 hx1 hx
    go_upto_region 5 with fail
    refine forget (p := fun y => Code.wp _ _ _ _ y) (fun W2 => Below w.heap.size w W2 ∧ CellsAt W2 w.heap.size 44 Z ∧ RDocAt W2 base st p ∧ CellsAt W2 b1 44 (((MC.set 10 (.int .u8 1)).set 14 (.int .u8 c)))) ⟨HB3.out, HZ3.out, HD3.out, HX3.out⟩ ?_
    clear c0 f0 d0 e0 c1 f1 d1 e1 HX3 HZ3 HB3 HD3 hz hB hD W
    generalize ((MC.set 10 (.int .u8 1)).set 14 (.int .u8 c)) = CC at HCL HOK ⊢
    clear hlM h1M iM
    rintro W ⟨hB, hz, hD, hx⟩
    obtain ⟨ct, hpl⟩ := HPL.out W hD
    have iQ : (Tryz.prog.info? 40).map (·.size) = some [Value.int .u8 pa, Value.int .u32 pb].length := sizeDot
    have h1Q : ∀ u ∈ [Value.int .u8 pa, Value.int .u32 pb], u.oneCell' = true := fun u hu => by
      simp only [List.mem_cons, List.not_mem_nil, or_false] at hu
      rcases hu with rfl | rfl <;> rfl
    have HL6 : Veil ((CC.take 11 ++ Value.int .u8 pa :: Value.int .u32 pb :: CC.drop 13).length = 17) := ⟨by have := HCL.out; simp; omega⟩
    have HCQ : Veil (11 + [Value.int .u8 pa, Value.int .u32 pb].length ≤ CC.length) := ⟨by rw [HCL.out]; show 11 + 2 ≤ 17; decide⟩
    clear hD
    go_upto_region 6 with (first
      | (go_at_call 88; refine hpl.mono ?_; rintro z W5 ⟨rfl, hb5⟩; have hx5 := hx.farM hb5; have hz5 := hz.farM hb5; have hB5 := hB.trans (hb5.mono hB.size); have hx6 := hx5.setRow (CC.take 11 ++ Value.int .u8 pa :: Value.int .u32 pb :: CC.drop 13); have c13 := hx6.cell 13; have f13 := hx6.frozen 13; rw [List.getElem?_eq_getElem (by rw [HL6.out]; decide)] at c13; clear hpl)
      | (refine wpList_stm (cs := [Value.int .u8 pa, Value.int .u32 pb]) rfl 40 _ _ rfl b1 11 rfl rfl hx5 iQ HCQ.out h1Q ?_))
    have hx7 := hx6.set 13 (.bool pr)
    have hz6 : CellsAt (W5.setRow b1 (CC.take 11 ++ Value.int .u8 pa :: Value.int .u32 pb :: CC.drop 13).toArray) w.heap.size 44 Z := hz5.setRowM _ (by omega)
    have hz7 := hz6.setOther17 hb1n (o := 13) (.bool pr)
    have hB6 : Below w.heap.size w (W5.setRow b1 (CC.take 11 ++ Value.int .u8 pa :: Value.int .u32 pb :: CC.drop 13).toArray) := below_setRow hB5 hb1l _
    have hB7 : Below w.heap.size w ((W5.setRow b1 (CC.take 11 ++ Value.int .u8 pa :: Value.int .u32 pb :: CC.drop 13).toArray).setCell ⟨b1, 13, none⟩ (.bool pr)) := hB6.setCell hb1l _
    clear hx5 hz5 hB5 hb5 hx6 hz6 hB6 c13 f13 hx hz hB ct
    refine forget (p := fun y => Code.wp _ _ _ _ y) (fun W2 => Below w.heap.size w W2 ∧ CellsAt W2 w.heap.size 44 Z ∧ CellsAt W2 b1 44 ((CC.take 11 ++ Value.int .u8 pa :: Value.int .u32 pb :: CC.drop 13).set 13 (.bool pr))) ⟨hB7, hz7, hx7⟩ ?_
    clear hB7 hz7 hx7 W W5
    rintro W ⟨hB, hz, hx⟩
    by_cases h2p : pe = 0
    rotate_left
    · have h2b : (pe == 0) = false := by simpa using h2p
      have HQ := Veil.mk (HBAD2.out h2p)
      clear hx
      go_wp2_with (refine wpList_stv (cs := [.int .u8 0, .int .u32 0, .int .u32 0, .int .u32 0, .int .u32 0, .int .u32 0, .int .u32 0, .int .u32 0, .int .u32 0, .int .u32 0, .int .u8 0, .int .u8 0, .int .u32 0, .bool false, .int .u8 0, .int .u8 0, .int .u8 0]) rfl 44 _ _ rfl w.heap.size rfl rfl hz (by rw [← hzz]; exact iZ) (by rw [hzz]) (by rw [← hzz]; exact h1Z) ?_)
      refine bodyPost_ret (results_ct (Tryz.results63) _ rfl rfl (hz.setRow _) uE rfl (by rw [← hzz]; exact iZ)) rfl ⟨?_, below_setRow hB (Nat.le_refl _) _⟩
      rw [HQ.out.1, HQ.out.2, hzz]; rfl
    obtain ⟨q1, q2⟩ := HOK.out h2p
    subst h2p q1
    rw [q2] at hx
    have hlT : TC.length = 17 := by
      rw [← q2, List.length_set]; exact HL6.out
    have iT : (Tryz.prog.info? 44).map (·.size) = some TC.length := by rw [hlT]; kernel_rfl
    have HZT : Veil (Z.length = TC.length) := ⟨by rw [HZ17.out, hlT]⟩
    have hr := hx.wholeM
    clear q2 hlT hzz
    go_wp2_with (first
      | (refine wpList_ldv rfl 44 _ rfl b1 0 rfl TC hr uE rfl iT ?_)
      | (refine wpList_stv (cs := TC) rfl 44 _ _ rfl w.heap.size rfl rfl hz iT HZT.out h1T ?_))
    exact bodyPost_ret (results_ct (Tryz.results63) _ rfl rfl (hz.setRow _) uE rfl iT) rfl ⟨rfl, below_setRow hB (Nat.le_refl _) _⟩
set_option maxHeartbeats 16000000 in
theorem dTake_any (base : Nat) (st : Ds) (p : Pl) (a who : Int) (w : World) (hD : DocAt w base st p) (hG : GoodD st) (ha0 : 0 ≤ a) :
    Calls Tryz.prog 28 #[.pointer (some ⟨p.D, 0, none⟩), .int .u8 a, .int .u8 who] w fun r w' => r = .returned (.tuple #[.agg (tellT st a who).1.cells.toArray, .int .i64 (tellT st a who).2]) ∧ Below w.heap.size w w' := by
  have hB0 : Below w.heap.size w (w.alloc (.cells zC.toArray 44)) := (Below.refl _ _).alloc (Nat.le_refl _) _
  have hz0 := CellsAt.new w 44 zC
  have hD0 := hD.far hB0
  have hsl := hG.slen
  have HFB : Veil (∀ W, DocAt W base st p → Calls Tryz.prog 50 #[.pointer (some ⟨p.D, 0, none⟩), .int .u8 a, .bool (decide (who < 8)), .int .u8 3] W fun r w' => r = .returned (.int .i64 (forbN st a (decide (who < 8)) 3)) ∧ Below W.heap.size W w') := ⟨fun W h => dforbid_any base st p a (decide (who < 8)) 3 W h hG ha0⟩
  have HR1 : Veil (forbN st a (decide (who < 8)) 3 ≠ 0 → (tellT st a who).1.cells = zC ∧ (tellT st a who).2 = forbN st a (decide (who < 8)) 3) := ⟨fun h => by
    have : tellT st a who = (evZ0, forbN st a (decide (who < 8)) 3) := if_pos h
    rw [this]; exact ⟨rfl, rfl⟩⟩
  have HR3 : Veil (forbN st a (decide (who < 8)) 3 = 0 → ∃ n : Nat, a = (n : Int) ∧ (tellT st a who).1.cells.length = 17 ∧ (∀ u ∈ (tellT st a who).1.cells, u.oneCell' = true) ∧ (tellT st a who).2 = 0 ∧ ∀ W, DocAt W base st p → Calls Tryz.prog 53 #[.pointer (some ⟨p.D, 0, none⟩), .int .u8 (n : Int), .agg (evKC 4 0 0 false 0 who 0).toArray] W fun r w' => r = .returned (.agg (tellT st a who).1.cells.toArray) ∧ Below W.heap.size W w') := ⟨fun h => by
    have ha8 := (forbN_zero h).1
    have e1 : tellT st a who = (nextE st a.toNat (evK 4 (0, 0) false 0 who 0), 0) := (if_neg (by rw [h]; simp))
    rw [e1]
    exact ⟨a.toNat, by omega, aev_len _ hG.slen, aev_one _, rfl, fun W hW => dnext_any base st p a.toNat (evK 4 (0, 0) false 0 who 0) W hW hG (by omega) rfl⟩⟩
  generalize (tellT st a who).1.cells = TC at HR1 HR3 ⊢
  generalize (tellT st a who).2 = TN at HR1 HR3 ⊢
  generalize forbN st a (decide (who < 8)) 3 = fN at HFB HR1 HR3
  have uE := Tryz.underlying44
  have uD := Tryz.underlying40
  have iZ : (Tryz.prog.info? 44).map (·.size) = some zC.length := by show _ = some 17; kernel_rfl
  have h1Z := zC_one
  have HCR : Veil (∀ W, DocAt W base st p → W.cell? ⟨p.D, 0, none⟩ = some (.pointer (some ⟨p.R, 0, none⟩))) := ⟨fun W h => h.cR hG.slen⟩
  obtain ⟨Z, hZ⟩ : ∃ Z, Z = zC := ⟨_, rfl⟩
  obtain ⟨D, hDD⟩ : ∃ q, p.D = q := ⟨_, rfl⟩
  rw [hDD] at HFB HR3 HCR ⊢
  rw [← hZ] at HR1 iZ h1Z
  clear hD hG hDD
  unfold zC at hB0 hz0 hD0
  go_enter Tryz.func28, Tryz.ntmps28
  go_upto_region 1 with fail
  refine forget (p := fun y => Code.wp _ _ _ _ y) (fun W => Below w.heap.size w W ∧ CellsAt W w.heap.size 44 Z ∧ DocAt W base st p) ⟨hB0, by rw [hZ]; exact hz0, hD0⟩ ?_
  clear hB0 hz0 hD0
  rintro W ⟨hB, hz, hD⟩
  have hfb := HFB.out W hD
  have hmw := isMember_any who W
  go_upto_region 2 with (first
    | (go_at_call 55; refine hmw.mono ?_; rintro y W1 ⟨rfl, h1⟩; replace h1 := h1.symm; subst h1; clear hmw)
    | (go_at_call 50; refine hfb.mono ?_; rintro y W2 ⟨rfl, hb2⟩; clear hfb))
  have hB2 := hB.trans (hb2.mono hB.size)
  have hz2 := hz.farM hb2
  have hD2 := hD.far hb2
  clear hb2 hB hz hD W
  by_cases h0 : fN = 0
  rotate_left
  · have h0b : (fN == 0) = false := by simpa using h0
    obtain ⟨e1, e2⟩ := HR1.out h0
    have hzz : Z = [.int .u8 0, .int .u32 0, .int .u32 0, .int .u32 0, .int .u32 0, .int .u32 0, .int .u32 0, .int .u32 0, .int .u32 0, .int .u32 0, .int .u8 0, .int .u8 0, .int .u32 0, .bool false, .int .u8 0, .int .u8 0, .int .u8 0] := hZ
    clear e1 e2
    go_wp2_with (refine wpList_stv (cs := [.int .u8 0, .int .u32 0, .int .u32 0, .int .u32 0, .int .u32 0, .int .u32 0, .int .u32 0, .int .u32 0, .int .u32 0, .int .u32 0, .int .u8 0, .int .u8 0, .int .u32 0, .bool false, .int .u8 0, .int .u8 0, .int .u8 0]) rfl 44 _ _ rfl w.heap.size rfl rfl hz2 (by rw [← hzz]; exact iZ) (by rw [hzz]) (by rw [← hzz]; exact h1Z) ?_)
    obtain ⟨e1, e2⟩ := HR1.out h0
    refine bodyPost_ret (results_ct (Tryz.results28) _ rfl rfl (hz2.setRow _) uE rfl (by rw [← hzz]; exact iZ)) rfl ⟨?_, below_setRow hB2 (Nat.le_refl _) _⟩
    rw [e1, e2, hzz]; rfl
  subst h0
  obtain ⟨n, rfl, hl17, h1c, rfl, hnx⟩ := HR3.out (by first | rfl | trivial)
  have iN : (Tryz.prog.info? 44).map (·.size) = some TC.length := by rw [hl17]; kernel_rfl
  have HZ17 : Veil (Z.length = 17) := ⟨by rw [hZ]; rfl⟩
  have hnc := hnx W2 hD2
  unfold evKC at hnc
  clear hnx
  go_wp2_with (first
    | (go_at_call 53; refine hnc.mono ?_; rintro y W5 ⟨rfl, hb5⟩; have hz5 := hz2.farM hb5; clear hnc)
    | (refine wpList_stv (cs := TC) rfl 44 _ _ rfl w.heap.size rfl rfl hz5 iN (by rw [HZ17.out, hl17]) h1c ?_))
  refine bodyPost_ret (results_ct (Tryz.results28) _ rfl rfl (hz5.setRow _) uE rfl iN) rfl ⟨rfl, below_setRow (hB2.trans (hb5.mono hB2.size)) (Nat.le_refl _) _⟩
end Go.Proofs.YtmbdohnmbkpfaaaGreat
