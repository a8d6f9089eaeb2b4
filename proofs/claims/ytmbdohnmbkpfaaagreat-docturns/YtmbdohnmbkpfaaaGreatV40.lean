/- Fr10 De7 De9 -/
import Derived.Test.YtmbdohnmbkpfaaaGreatV36
import Derived.Test.YtmbdohnmbkpfaaaGreatV39
namespace Go.Proofs.YtmbdohnmbkpfaaaGreat
open Go.RowKit Go.Shelf
set_option maxRecDepth 20000
set_option linter.unusedSimpArgs false
theorem atN_hit (N : List Nd) (k : Nat) (hk : k < (walkA N rootS).length) (h : writB N (walkA N rootS)[k] = true) (i : Int) (hi : i = ((((walkA N rootS).take k).filter (writB N)).length : Nat)) : atN N i = some (walkA N rootS)[k] := by
 have h1 : wrN N = ((walkA N rootS).take k).filter (writB N) ++ (walkA N rootS)[k] :: ((walkA N rootS).drop (k + 1)).filter (writB N) := by
  unfold wrN
  conv => lhs; rw [← List.take_append_drop k (walkA N rootS), List.drop_eq_getElem_cons hk]
  rw [List.filter_append, List.filter_cons_of_pos h]
 unfold atN
 rw [if_neg (by omega), h1, hi, Int.toNat_natCast, List.getElem?_append_right (Nat.le_refl _)]
 simp
theorem atN_miss (N : List Nd) (i : Int) (h : i < 0 ∨ (((walkA N rootS).filter (writB N)).length : Int) ≤ i) : atN N i = none := by
 unfold atN
 split
 · rfl
 · rw [List.getElem?_eq_none]
   unfold wrN
   omega
set_option maxHeartbeats 8000000 in
theorem rat2_any (base R : Nat) (v : Value) (N : List Nd) (hN : TreeOk N) (hlen : N.length ≤ 1000) (i : Int) (w : World) (hT : RefT w base R v N) :
    Calls Tryz.prog 89 #[.pointer (some ⟨R, 0, none⟩), .int .i64 i] w fun e w' => e = .returned (.tuple #[.agg (encF (atD (atN N i))).toArray, .int .i64 (atE (atN N i))]) ∧ Below w.heap.size w w' := by
 have hB : Below w.heap.size w (w.alloc (.cells #[.int .u8 0, .int .u32 0] 40)) := (Below.refl _ _).alloc (Nat.le_refl _) _
 have hc := CellsAt.new w 40 [.int .u8 0, .int .u32 0]
 have hal := rall_any base R v N hN hlen _ (hT.far hB)
 have HIT : Veil (∀ (k : Nat) (hk : k < (walkA N rootS).length), writB N (walkA N rootS)[k] = true → i = ((((walkA N rootS).take k).filter (writB N)).length : Nat) → atN N i = some (walkA N rootS)[k]) := ⟨fun k hk h hi => atN_hit N k hk h i hi⟩
 have HMISS : Veil ((i < 0 ∨ (((walkA N rootS).filter (writB N)).length : Int) ≤ i) → atN N i = none) := ⟨atN_miss N i⟩
 have HMI0 : Veil (∀ x ∈ walkA N rootS, ∃ m ∈ N, m.id = x) := ⟨fun x hx => mem_walk hN.rooted rootS x hx⟩
 have HML0 : Veil ((walkA N rootS).length = N.length) := ⟨hN.len⟩
 generalize walkA N rootS = M at hal HIT HMISS HMI0 HML0
 generalize atN N i = AN at HIT HMISS ⊢
 obtain ⟨n, hn⟩ : ∃ q, N.length = q := ⟨_, rfl⟩
 rw [hn] at hal HML0 hlen
 have uD := Tryz.underlying40
 have iZ : (Tryz.prog.info? 40).map (·.size) = some [Value.int .u8 0, Value.int .u32 0].length := sizeDot
 have hz1 : ∀ v ∈ [Value.int .u8 0, Value.int .u32 0], v.oneCell' = true := encF_one (0, 0)
 have HC0 : Veil (∀ W, Below (w.alloc (.cells #[.int .u8 0, .int .u32 0] 40)).heap.size (w.alloc (.cells #[.int .u8 0, .int .u32 0] 40)) W → Below w.heap.size w W ∧ CellsAt W w.heap.size 40 [.int .u8 0, .int .u32 0]) := ⟨fun W hb => ⟨hB.trans (hb.mono hB.size), hc.farM hb⟩⟩
 have HSZ : Veil ((w.alloc (.cells #[.int .u8 0, .int .u32 0] 40)).heap.size = w.heap.size + 1) := ⟨World.size_alloc _ _⟩
 clear hT hN hn hB hc
 go_enter Tryz.func89, Tryz.ntmps89
 go_wp2_with (first
  | (go_at_call 90; refine hal.mono ?_; rintro z W1 ⟨x1, c1, rfl, ho1, hb1⟩; clear hal))
 have HO1 := Veil.mk ho1
 have HQ1 := Veil.mk (HC0.out W1 hb1)
 clear ho1 hb1 HC0
 go_loopw [7, 8] (fun p q wr => ∃ k : Nat, q = .int .i64 (k : Nat) ∧ k ≤ n ∧ p = .int .i64 (((M.take k).filter (writB N)).length : Nat) ∧ (i < 0 ∨ (((M.take k).filter (writB N)).length : Int) ≤ i) ∧ Below W1.heap.size W1 wr) (fun _ q _ => n - (intOf q).toNat)
 case atStart => exact ⟨0, rfl, Nat.zero_le _, by rw [List.take_zero]; rfl, by rw [List.take_zero]; simp; omega, Below.refl _ _⟩
 case round =>
  obtain ⟨k, rfl, hk, rfl, hno, hB⟩ := hrel
  have HFL : Veil (((M.take k).filter (writB N)).length ≤ 1000) := ⟨by have := List.length_filter_le (writB N) (M.take k); rw [List.length_take] at this; omega⟩
  obtain ⟨fl, hfl⟩ : ∃ q, ((M.take k).filter (writB N)).length = q := ⟨_, rfl⟩
  rw [hfl] at hno HFL ⊢
  have HFE := Veil.mk hfl
  clear hfl
  by_cases hlt : k < n
  · have hli : (k : Int) < (n : Int) := by omega
    have hli0 : (0 : Int) ≤ (k : Int) := by omega
    have hki : k < M.length := by rw [HML0.out]; exact hlt
    have hww : IntKind.i64.wrap ((k : Int) + 1) = (k : Int) + 1 := by rw [IntKind.wrap_i64]; omega
    have hwf : IntKind.i64.wrap ((fl : Int) + 1) = (fl : Int) + 1 := by rw [IntKind.wrap_i64]; have := HFL.out; omega
    obtain ⟨g, rfl, -, hr⟩ := (HO1.out.far hB).at_ k (by rw [List.length_map]; exact hki)
    rw [List.getElem_map] at hr
    have c5 := cF_chr hr
    have hrd := cF_id (HMI0.out _ (List.getElem_mem hki)) hr
    have HT1 := Veil.mk (take_filter (writB N) M k hki)
    have HWB : Veil (writB N M[k] = decide (chr0 N M[k] ≠ 0)) := ⟨rfl⟩
    have HH := Veil.mk (HIT.out k hki)
    generalize M[k] = x at HT1 HWB HH c5 hrd
    generalize chr0 N x = CH at HWB c5
    clear hr hki
    by_cases hc : CH = 0
    · subst hc
      have HE : Veil (((M.take (k + 1)).filter (writB N)).length = fl) := ⟨by rw [HT1.out, HWB.out]; simp only [ne_eq, not_true, decide_false, Bool.false_eq_true, if_false, List.append_nil]; exact HFE.out⟩
      have HB := Veil.mk hB
      have HNO := Veil.mk hno
      clear hB HT1 HH hno
      go_wp2_with fail
      go_roundw
      case rel =>
       refine ⟨k + 1, ?_, hlt, ?_, ?_, HB.out⟩
       · push_cast; rfl
       · rw [HE.out]
       · rw [HE.out]; exact HNO.out
      case measure => simp [intOf]; omega
    · have hcb : (CH == 0) = false := by simpa using hc
      have hwt : writB N x = true := by rw [HWB.out]; simpa using hc
      by_cases he : (fl : Int) = i
      · have HA : Veil (AN = some x) := ⟨HH.out hwt (by rw [HFE.out]; exact he.symm)⟩
        have heb : ((fl : Int) == i) = true := by simpa using he
        obtain ⟨xa, xb⟩ := x
        simp only [encF, dotC] at hrd
        have iX : (Tryz.prog.info? 40).map (·.size) = some [Value.int .u8 xa, Value.int .u32 xb].length := sizeDot
        have hx1 : ∀ v ∈ [Value.int .u8 xa, Value.int .u32 xb], v.oneCell' = true := encF_one (xa, xb)
        have hc2 := HQ1.out.2.farM hB
        have HEND : Veil (CellsAt (wr.setRow w.heap.size #[.int .u8 xa, .int .u32 xb]) w.heap.size 40 [.int .u8 xa, .int .u32 xb] ∧ Below w.heap.size w (wr.setRow w.heap.size #[.int .u8 xa, .int .u32 xb])) := ⟨hc2.setRow [.int .u8 xa, .int .u32 xb], below_setRowN (HQ1.out.1.trans (hB.mono HQ1.out.1.size)) (Nat.le_refl _) _⟩
        have HHE := Veil.mk he
        clear HT1 HH hwt he hno hB HWB hc
        go_upto_region 10 with fail
        go_wp2_with (first
         | (refine wpList_ldv rfl 40 (.tmp 32) rfl g (k * 6) rfl [.int .u8 xa, .int .u32 xb] hrd uD rfl iX ?_)
         | (refine wpList_stv rfl 40 (.tmp 4) _ rfl w.heap.size rfl (cs := [.int .u8 xa, .int .u32 xb]) rfl hc2 iX rfl hx1 ?_))
        refine bodyPost_ret (results_ct (Tryz.results89) _ rfl rfl HEND.out.1 uD rfl iX) rfl ⟨by rw [HA.out]; rfl, HEND.out.2⟩
      · have heb : ((fl : Int) == i) = false := by simpa using he
        have HE : Veil (((M.take (k + 1)).filter (writB N)).length = fl + 1) := ⟨by rw [HT1.out, hwt]; simp only [if_true, List.length_append, List.length_singleton]; rw [HFE.out]⟩
        have HB := Veil.mk hB
        have HNO : Veil (i < 0 ∨ ((fl + 1 : Nat) : Int) ≤ i) := ⟨by omega⟩
        clear hB HT1 HH hno hwt he HWB hc
        go_wp2_with fail
        go_roundw
        case rel =>
         refine ⟨k + 1, ?_, hlt, ?_, ?_, HB.out⟩
         · push_cast; rfl
         · rw [HE.out]; push_cast; rfl
         · rw [HE.out]; exact HNO.out
        case measure => simp [intOf]; omega
  · obtain rfl : k = n := by omega
    have hli : ¬ (k : Int) < (k : Int) := by omega
    have HA : Veil (AN = none) := ⟨HMISS.out (by have := HFE.out; rw [List.take_of_length_le (by rw [HML0.out]; omega)] at this; rw [this]; exact hno)⟩
    have hc2 := HQ1.out.2.farM hB
    have HEND : Veil (CellsAt (wr.setRow w.heap.size #[.int .u8 0, .int .u32 0]) w.heap.size 40 [.int .u8 0, .int .u32 0] ∧ Below w.heap.size w (wr.setRow w.heap.size #[.int .u8 0, .int .u32 0])) := ⟨hc2.setRow [.int .u8 0, .int .u32 0], below_setRowN (HQ1.out.1.trans (hB.mono HQ1.out.1.size)) (Nat.le_refl _) _⟩
    clear hno hB
    go_wp2_with (refine wpList_stv rfl 40 (.tmp 4) _ rfl w.heap.size rfl (cs := [.int .u8 0, .int .u32 0]) rfl hc2 iZ rfl hz1 ?_)
    refine bodyPost_ret (results_ct (Tryz.results89) _ rfl rfl HEND.out.1 uD rfl iZ) rfl ⟨by rw [HA.out]; rfl, HEND.out.2⟩
set_option maxHeartbeats 16000000 in
theorem rErase_any (base : Nat) (st : Ds) (p : Rp) (a i : Int) (w : World) (hD : RDocAt w base st p) (hG : GoodD st) (hR : GoodR st p.K p.G) (ha0 : 0 ≤ a) :
    Calls Tryz.prog 64 #[.pointer (some ⟨p.D, 0, none⟩), .int .u8 a, .int .i64 i] w fun r w' => r = .returned (.tuple #[.agg (tellE st a i).1.cells.toArray, .int .i64 (tellE st a i).2]) ∧ Below w.heap.size w w' := by
 have hB0 : Below w.heap.size w (w.alloc (.cells zC.toArray 44)) := (Below.refl _ _).alloc (Nat.le_refl _) _
 have hz0 := CellsAt.new w 44 zC
 have hD0 := hD.far hB0
 have HMY : Veil (∀ fit W, RDocAt W base st p → Calls Tryz.prog 87 #[.pointer (some ⟨p.D, 0, none⟩), .int .u8 a, .bool fit, .int .u8 2] W fun r w' => r = .returned (.tuple #[.agg (mayE st a fit 2).cells.toArray, .int .i64 (forbN st a fit 2)]) ∧ Below W.heap.size W w') := ⟨fun fit W h => rmay_any base st p a fit 2 W h hG hR ha0⟩
 have HPL : Veil (∀ W, RDocAt W base st p → W.cell? ⟨p.D, 10, none⟩ = some (.pointer (some ⟨p.T, 0, none⟩)) ∧ Calls Tryz.prog 89 #[.pointer (some ⟨p.T, 0, none⟩), .int .i64 i] W fun e w' => e = .returned (.tuple #[.agg (encF (atD (atN st.N i))).toArray, .int .i64 (atE (atN st.N i))]) ∧ Below W.heap.size W w') := ⟨fun W h => ⟨h.cT hG.slen, rat2_any base p.T p.tv st.N hG.tree (by have := hG.nlen; have := hG.llen; omega) i W h.tree⟩⟩
 have HBAD : Veil (forbN st a true 2 ≠ 0 → (tellE st a i).1.cells = zC ∧ (tellE st a i).2 = forbN st a true 2) := ⟨fun h => by
  have : tellE st a i = (evZ0, forbN st a true 2) := if_pos h
  rw [this]; exact ⟨rfl, rfl⟩⟩
 have HBAD2 : Veil (forbN st a true 2 = 0 → atE (atN st.N i) ≠ 0 → (tellE st a i).1.cells = zC ∧ (tellE st a i).2 = atE (atN st.N i)) := ⟨fun h h2 => by
  have : tellE st a i = (evZ0, atE (atN st.N i)) := (if_neg (by rw [h]; simp)).trans (if_pos h2)
  rw [this]; exact ⟨rfl, rfl⟩⟩
 have HOK : Veil (forbN st a true 2 = 0 → atE (atN st.N i) = 0 → (tellE st a i).2 = 0 ∧ (((mayE st a true 2).cells.set 10 (.int .u8 2)).take 11 ++ Value.int .u8 (atD (atN st.N i)).1 :: Value.int .u32 (atD (atN st.N i)).2 :: ((mayE st a true 2).cells.set 10 (.int .u8 2)).drop 13) = (tellE st a i).1.cells) := ⟨fun h h2 => by
  have e1 : tellE st a i = (nextE st a.toNat (evK 2 (atD (atN st.N i)) false 0 0 0), 0) := (if_neg (by rw [h]; simp)).trans (if_neg (by rw [h2]; simp))
  obtain ⟨s0, s1, s2, s3, s4, s5, s6, s7, hS8⟩ := eight st.S hG.slen
  rw [e1]
  refine ⟨rfl, ?_⟩
  unfold mayE
  rw [if_pos h]
  unfold nextE evZ0 evK Ev.cells dotC
  simp only [hS8]
  rfl⟩
 have HM17 : Veil (∀ fit, (mayE st a fit 2).cells.length = 17 ∧ ∀ u ∈ (mayE st a fit 2).cells, u.oneCell' = true) := ⟨fun fit => ⟨aev_len _ (mayE_past hG), aev_one _⟩⟩
 have h1T : ∀ u ∈ (tellE st a i).1.cells, u.oneCell' = true := aev_one _
 have HLT : Veil (∀ k, rdocP p k → k < w.heap.size) := ⟨hD.blockLt⟩
 obtain ⟨fit, hft⟩ : ∃ q : Bool, q = true := ⟨_, rfl⟩
 rw [← hft] at HBAD HBAD2 HOK
 have hfit : fit = true := hft
 have hmy := HMY.out fit
 obtain ⟨hlM, h1M⟩ := HM17.out fit
 generalize (mayE st a fit 2).cells = MC at hmy HOK hlM h1M
 generalize forbN st a fit 2 = FN at hmy HBAD HBAD2 HOK
 generalize (tellE st a i).1.cells = TC at HBAD HBAD2 HOK h1T ⊢
 generalize (tellE st a i).2 = TN at HBAD HBAD2 HOK ⊢
 generalize atE (atN st.N i) = pe at HPL HBAD2 HOK
 generalize atD (atN st.N i) = PD at HPL HOK
 obtain ⟨pa, pb⟩ := PD
 simp only [encF, dotC] at HPL HBAD2 HOK
 have HMC := Veil.mk hmy
 have uE := Tryz.underlying44
 have iZ : (Tryz.prog.info? 44).map (·.size) = some zC.length := by show _ = some 17; kernel_rfl
 have iM : (Tryz.prog.info? 44).map (·.size) = some MC.length := by rw [hlM]; kernel_rfl
 have h1Z := zC_one
 have HZN : Veil (∀ W : World, CellsAt (W.alloc (.cells zC.toArray 44)) W.heap.size 44 zC ∧ Below W.heap.size W ((W.alloc (.cells zC.toArray 44)).setRow W.heap.size MC.toArray)) := ⟨fun W => ⟨CellsAt.new W 44 zC, below_setRow ((Below.refl _ _).alloc (Nat.le_refl _) _) (Nat.le_refl _) _⟩⟩
 obtain ⟨Z, hZ0⟩ : ∃ Z, Z = zC := ⟨_, rfl⟩
 rw [← hZ0] at iZ h1Z HBAD HBAD2
 have hZ := hZ0
 unfold zC at hZ HZN hB0 hz0 hD0
 have HZ17 : Veil (Z.length = 17) := ⟨by rw [hZ0]; rfl⟩
 obtain ⟨D, hDD⟩ : ∃ q, p.D = q := ⟨_, rfl⟩
 rw [hDD] at HMC HPL ⊢
 clear hD hG hR hft HMY HM17 hmy hDD
 subst hfit
 all_goals
  go_enter Tryz.func64, Tryz.ntmps64
  go_upto_region 1 with fail
  refine forget (p := fun y => Code.wp _ _ _ _ y) (fun W => Below w.heap.size w W ∧ CellsAt W w.heap.size 44 Z ∧ RDocAt W base st p) ⟨hB0, by rw [hZ]; exact hz0, hD0⟩ ?_
  clear hB0 hz0 hD0
  rintro W ⟨hB, hz, hD⟩
  have hcl := HMC.out W hD
  go_upto_region 2 with (first
   | (go_at_call 87; refine hcl.mono ?_; rintro z W1 ⟨rfl, hb1⟩; have hz1 := (HZN.out W1).1; clear hcl)
   | (refine wpList_stv (cs := MC) rfl 44 _ _ rfl W1.heap.size rfl rfl hz1 iM (by rw [hlM]; rfl) h1M ?_))
  have hb2 := (HZN.out W1).2
  have hx2 := hz1.setRow MC
  have hb12 := hb1.trans (hb2.mono hb1.size)
  have HBL : Veil (w.heap.size < W1.heap.size) := ⟨by have := hz.lt; have := hb1.size; omega⟩
  refine forget (p := fun y => Code.wp _ _ _ _ y) (fun W2 => Below w.heap.size w W2 ∧ CellsAt W2 w.heap.size 44 Z ∧ RDocAt W2 base st p ∧ CellsAt W2 W1.heap.size 44 MC) ⟨hB.trans (hb12.mono hB.size), hz.farM hb12, hD.far hb12, hx2⟩ ?_
  generalize W1.heap.size = b1 at HBL
  clear hb1 hb2 hb12 hz1 hx2 hB hz hD HMC HZN W W1
  rintro W ⟨hB, hz, hD, hx⟩
  have hzz : Z = [.int .u8 0, .int .u32 0, .int .u32 0, .int .u32 0, .int .u32 0, .int .u32 0, .int .u32 0, .int .u32 0, .int .u32 0, .int .u32 0, .int .u8 0, .int .u8 0, .int .u32 0, .bool false, .int .u8 0, .int .u8 0, .int .u8 0] := hZ
  by_cases h0 : FN = 0
  rotate_left
  · have h0b : (FN == 0) = false := by simpa using h0
    have HQ := Veil.mk (HBAD.out h0)
    clear hx
    go_wp2_with (refine wpList_stv (cs := [.int .u8 0, .int .u32 0, .int .u32 0, .int .u32 0, .int .u32 0, .int .u32 0, .int .u32 0, .int .u32 0, .int .u32 0, .int .u32 0, .int .u8 0, .int .u8 0, .int .u32 0, .bool false, .int .u8 0, .int .u8 0, .int .u8 0]) rfl 44 _ _ rfl w.heap.size rfl rfl hz (by rw [← hzz]; exact iZ) (by rw [hzz]) (by rw [← hzz]; exact h1Z) ?_)
    refine bodyPost_ret (results_ct (Tryz.results64) _ rfl rfl (hz.setRow _) uE rfl (by rw [← hzz]; exact iZ)) rfl ⟨?_, below_setRow hB (Nat.le_refl _) _⟩
    rw [HQ.out.1, HQ.out.2, hzz]; rfl
  subst h0
  replace HBAD2 := Veil.mk (HBAD2.out rfl)
  replace HOK := Veil.mk (HOK.out rfl)
  have hb1l : w.heap.size ≤ b1 := Nat.le_of_lt HBL.out
  have hb1n : w.heap.size ≠ b1 := Nat.ne_of_lt HBL.out
  have c0 := hx.cell 10
  have f0 := hx.frozen 10
  rw [List.getElem?_eq_getElem (by simp [hlM])] at c0
  have d0 := hx.cell 10
  have e0 := hx.frozen 10
  rw [List.getElem?_eq_getElem (by rw [hlM]; decide)] at d0
  have hx0 := hx.set 10 (.int .u8 2)
  have HX3 := Veil.mk hx0
  have HZ3 : Veil (CellsAt (W.setCell ⟨b1, 10, none⟩ (.int .u8 2)) w.heap.size 44 Z) := ⟨(hz.setOther17 hb1n _)⟩
  have HB3 : Veil (Below w.heap.size w (W.setCell ⟨b1, 10, none⟩ (.int .u8 2))) := ⟨(hB.setCell hb1l _)⟩
  have HD3 : Veil (RDocAt (W.setCell ⟨b1, 10, none⟩ (.int .u8 2)) base st p) := ⟨hD.congr fun k q => Below.heap_setCell _ _ _ k (Nat.ne_of_lt (Nat.lt_of_lt_of_le (HLT.out k q) hb1l))⟩
  have HCL : Veil ((MC.set 10 (.int .u8 2)).length = 17) := ⟨by simp [hlM]⟩
  clear hx0 hx
  go_upto_region 5 with fail
  refine forget (p := fun y => Code.wp _ _ _ _ y) (fun W2 => Below w.heap.size w W2 ∧ CellsAt W2 w.heap.size 44 Z ∧ RDocAt W2 base st p ∧ CellsAt W2 b1 44 ((MC.set 10 (.int .u8 2)))) ⟨HB3.out, HZ3.out, HD3.out, HX3.out⟩ ?_
  clear c0 f0 d0 e0 HX3 HZ3 HB3 HD3 hz hB hD W
  generalize (MC.set 10 (.int .u8 2)) = CC at HCL HOK ⊢
  clear hlM h1M iM
  rintro W ⟨hB, hz, hD, hx⟩
  obtain ⟨ct, hpl⟩ := HPL.out W hD
  have iQ : (Tryz.prog.info? 40).map (·.size) = some [Value.int .u8 pa, Value.int .u32 pb].length := sizeDot
  have h1Q : ∀ u ∈ [Value.int .u8 pa, Value.int .u32 pb], u.oneCell' = true := fun u hu => by
   simp only [List.mem_cons, List.not_mem_nil, or_false] at hu
   rcases hu with rfl | rfl <;> rfl
  have HL6 : Veil ((CC.take 11 ++ Value.int .u8 pa :: Value.int .u32 pb :: CC.drop 13).length = 17) := ⟨by have := HCL.out; simp; omega⟩
  have HCQ : Veil (11 + [Value.int .u8 pa, Value.int .u32 pb].length ≤ CC.length) := ⟨by rw [HCL.out]; show 11 + 2 ≤ 17; decide⟩
  clear hD
  go_upto_region 6 with (first
   | (go_at_call 89; refine hpl.mono ?_; rintro z W5 ⟨rfl, hb5⟩; have hx5 := hx.farM hb5; have hz5 := hz.farM hb5; have hB5 := hB.trans (hb5.mono hB.size); clear hpl)
   | (refine wpList_stm (cs := [Value.int .u8 pa, Value.int .u32 pb]) rfl 40 _ _ rfl b1 11 rfl rfl hx5 iQ HCQ.out h1Q ?_))
  have hx7 := hx5.setRow (CC.take 11 ++ Value.int .u8 pa :: Value.int .u32 pb :: CC.drop 13)
  have hz7 : CellsAt (W5.setRow b1 (CC.take 11 ++ Value.int .u8 pa :: Value.int .u32 pb :: CC.drop 13).toArray) w.heap.size 44 Z := hz5.setRowM _ (by omega)
  have hB7 : Below w.heap.size w (W5.setRow b1 (CC.take 11 ++ Value.int .u8 pa :: Value.int .u32 pb :: CC.drop 13).toArray) := below_setRow hB5 hb1l _
  clear hx5 hz5 hB5 hb5 hx hz hB ct
  refine forget (p := fun y => Code.wp _ _ _ _ y) (fun W2 => Below w.heap.size w W2 ∧ CellsAt W2 w.heap.size 44 Z ∧ CellsAt W2 b1 44 (CC.take 11 ++ Value.int .u8 pa :: Value.int .u32 pb :: CC.drop 13)) ⟨hB7, hz7, hx7⟩ ?_
  clear hB7 hz7 hx7 W W5
  rintro W ⟨hB, hz, hx⟩
  by_cases h2p : pe = 0
  rotate_left
  · have h2b : (pe == 0) = false := by simpa using h2p
    have HQ := Veil.mk (HBAD2.out h2p)
    clear hx
    go_wp2_with (refine wpList_stv (cs := [.int .u8 0, .int .u32 0, .int .u32 0, .int .u32 0, .int .u32 0, .int .u32 0, .int .u32 0, .int .u32 0, .int .u32 0, .int .u32 0, .int .u8 0, .int .u8 0, .int .u32 0, .bool false, .int .u8 0, .int .u8 0, .int .u8 0]) rfl 44 _ _ rfl w.heap.size rfl rfl hz (by rw [← hzz]; exact iZ) (by rw [hzz]) (by rw [← hzz]; exact h1Z) ?_)
    refine bodyPost_ret (results_ct (Tryz.results64) _ rfl rfl (hz.setRow _) uE rfl (by rw [← hzz]; exact iZ)) rfl ⟨?_, below_setRow hB (Nat.le_refl _) _⟩
    rw [HQ.out.1, HQ.out.2, hzz]; rfl
  obtain ⟨q1, q2⟩ := HOK.out h2p
  subst h2p q1
  rw [q2] at hx
  have hlT : TC.length = 17 := by
   rw [← q2]; exact HL6.out
  have iT : (Tryz.prog.info? 44).map (·.size) = some TC.length := by rw [hlT]; kernel_rfl
  have HZT : Veil (Z.length = TC.length) := ⟨by rw [HZ17.out, hlT]⟩
  have hr := hx.wholeM
  clear q2 hlT hzz
  go_wp2_with (first
   | (refine wpList_ldv rfl 44 _ rfl b1 0 rfl TC hr uE rfl iT ?_)
   | (refine wpList_stv (cs := TC) rfl 44 _ _ rfl w.heap.size rfl rfl hz iT HZT.out h1T ?_))
  exact bodyPost_ret (results_ct (Tryz.results64) _ rfl rfl (hz.setRow _) uE rfl iT) rfl ⟨rfl, below_setRow hB (Nat.le_refl _) _⟩
set_option maxHeartbeats 16000000 in
theorem rGive_any (base : Nat) (st : Ds) (p : Rp) (a who role : Int) (w : World) (hD : RDocAt w base st p) (hG : GoodD st) (hR : GoodR st p.K p.G) (ha0 : 0 ≤ a) :
    Calls Tryz.prog 65 #[.pointer (some ⟨p.D, 0, none⟩), .int .u8 a, .int .u8 who, .int .u8 role] w fun r w' => r = .returned (.tuple #[.agg (tellG st a who role).1.cells.toArray, .int .i64 (tellG st a who role).2]) ∧ Below w.heap.size w w' := by
 have hB0 : Below w.heap.size w (w.alloc (.cells zC.toArray 44)) := (Below.refl _ _).alloc (Nat.le_refl _) _
 have hz0 := CellsAt.new w 44 zC
 have hD0 := hD.far hB0
 have HMY : Veil (∀ fit W, RDocAt W base st p → Calls Tryz.prog 87 #[.pointer (some ⟨p.D, 0, none⟩), .int .u8 a, .bool fit, .int .u8 3] W fun r w' => r = .returned (.tuple #[.agg (mayE st a fit 3).cells.toArray, .int .i64 (forbN st a fit 3)]) ∧ Below W.heap.size W w') := ⟨fun fit W h => rmay_any base st p a fit 3 W h hG hR ha0⟩
 have HBAD : Veil (forbN st a (decide (who < 8) && (decide (1 ≤ role) && decide (role ≤ 3))) 3 ≠ 0 → (tellG st a who role).1.cells = zC ∧ (tellG st a who role).2 = forbN st a (decide (who < 8) && (decide (1 ≤ role) && decide (role ≤ 3))) 3) := ⟨fun h => by
  have : tellG st a who role = (evZ0, forbN st a (decide (who < 8) && (decide (1 ≤ role) && decide (role ≤ 3))) 3) := if_pos h
  rw [this]; exact ⟨rfl, rfl⟩⟩
 have HOK : Veil (forbN st a (decide (who < 8) && (decide (1 ≤ role) && decide (role ≤ 3))) 3 = 0 → (tellG st a who role).2 = 0 ∧ ((((mayE st a (decide (who < 8) && (decide (1 ≤ role) && decide (role ≤ 3))) 3).cells.set 10 (.int .u8 3)).set 15 (.int .u8 who)).set 16 (.int .u8 role)) = (tellG st a who role).1.cells) := ⟨fun h => by
  have e1 : tellG st a who role = (nextE st a.toNat (evK 3 (0, 0) false 0 who role), 0) := if_neg (by rw [h]; simp)
  obtain ⟨s0, s1, s2, s3, s4, s5, s6, s7, hS8⟩ := eight st.S hG.slen
  rw [e1]
  refine ⟨rfl, ?_⟩
  unfold mayE
  rw [if_pos h]
  unfold nextE evZ0 evK Ev.cells dotC
  simp only [hS8]
  rfl⟩
 have HM17 : Veil (∀ fit, (mayE st a fit 3).cells.length = 17 ∧ ∀ u ∈ (mayE st a fit 3).cells, u.oneCell' = true) := ⟨fun fit => ⟨aev_len _ (mayE_past hG), aev_one _⟩⟩
 have h1T : ∀ u ∈ (tellG st a who role).1.cells, u.oneCell' = true := aev_one _
 have hfit : ((decide (who < 8) && (decide (1 ≤ role) && decide (role ≤ 3))) = true ∧ who ≤ 7 ∧ 1 ≤ role ∧ role ≤ 3) ∨ ((decide (who < 8) && (decide (1 ≤ role) && decide (role ≤ 3))) = false ∧ 7 < who) ∨ ((decide (who < 8) && (decide (1 ≤ role) && decide (role ≤ 3))) = false ∧ who ≤ 7 ∧ role < 1) ∨ ((decide (who < 8) && (decide (1 ≤ role) && decide (role ≤ 3))) = false ∧ who ≤ 7 ∧ 1 ≤ role ∧ 3 < role) := by
  by_cases h1 : who ≤ 7
  · by_cases h2 : 1 ≤ role
    · by_cases h3 : role ≤ 3
      · exact .inl ⟨by simp; omega, h1, h2, h3⟩
      · exact .inr (.inr (.inr ⟨by simp; omega, h1, h2, by omega⟩))
    · exact .inr (.inr (.inl ⟨by simp; omega, h1, by omega⟩))
  · exact .inr (.inl ⟨by simp; omega, by omega⟩)
 obtain ⟨fit, hft⟩ : ∃ q, (decide (who < 8) && (decide (1 ≤ role) && decide (role ≤ 3))) = q := ⟨_, rfl⟩
 rw [hft] at HBAD HOK hfit
 have hmy := HMY.out fit
 obtain ⟨hlM, h1M⟩ := HM17.out fit
 generalize (mayE st a fit 3).cells = MC at hmy HOK hlM h1M
 generalize forbN st a fit 3 = FN at hmy HBAD HOK
 generalize (tellG st a who role).1.cells = TC at HBAD HOK h1T ⊢
 generalize (tellG st a who role).2 = TN at HBAD HOK ⊢
 have HMC := Veil.mk hmy
 have uE := Tryz.underlying44
 have iZ : (Tryz.prog.info? 44).map (·.size) = some zC.length := by show _ = some 17; kernel_rfl
 have iM : (Tryz.prog.info? 44).map (·.size) = some MC.length := by rw [hlM]; kernel_rfl
 have h1Z := zC_one
 have HZN : Veil (∀ W : World, CellsAt (W.alloc (.cells zC.toArray 44)) W.heap.size 44 zC ∧ Below W.heap.size W ((W.alloc (.cells zC.toArray 44)).setRow W.heap.size MC.toArray)) := ⟨fun W => ⟨CellsAt.new W 44 zC, below_setRow ((Below.refl _ _).alloc (Nat.le_refl _) _) (Nat.le_refl _) _⟩⟩
 obtain ⟨Z, hZ0⟩ : ∃ Z, Z = zC := ⟨_, rfl⟩
 rw [← hZ0] at iZ h1Z HBAD
 have hZ := hZ0
 unfold zC at hZ HZN hB0 hz0 hD0
 have HZ17 : Veil (Z.length = 17) := ⟨by rw [hZ0]; rfl⟩
 generalize p.D = D at HMC ⊢
 clear hD hG hR hft HMY HM17 hmy
 rcases hfit with ⟨rfl, h1, h2, h3⟩ | ⟨rfl, h1⟩ | ⟨rfl, h1, h2⟩ | ⟨rfl, h1, h2, h3⟩
 all_goals
  have d1 : decide (who ≤ 7) = decide (who ≤ 7) := rfl
  first | (have g1 : decide (who ≤ 7) = true := by simp; omega) | (have g1 : decide (who ≤ 7) = false := by simp; omega)
  try first | (have g2 : decide (1 ≤ role) = true := by simp; omega) | (have g2 : decide (1 ≤ role) = false := by simp; omega)
  try first | (have g3 : decide (role ≤ 3) = true := by simp; omega) | (have g3 : decide (role ≤ 3) = false := by simp; omega)
  clear d1
  go_enter Tryz.func65, Tryz.ntmps65
  go_upto_region 1 with fail
  refine forget (p := fun y => Code.wp _ _ _ _ y) (fun W => Below w.heap.size w W ∧ CellsAt W w.heap.size 44 Z ∧ RDocAt W base st p) ⟨hB0, by rw [hZ]; exact hz0, hD0⟩ ?_
  clear hB0 hz0 hD0
  rintro W ⟨hB, hz, hD⟩
  have hcl := HMC.out W hD
  go_upto_region 2 with (first
   | (go_at_call 87; refine hcl.mono ?_; rintro z W1 ⟨rfl, hb1⟩; have hz1 := (HZN.out W1).1; clear hcl)
   | (refine wpList_stv (cs := MC) rfl 44 _ _ rfl W1.heap.size rfl rfl hz1 iM (by rw [hlM]; rfl) h1M ?_))
  have hb2 := (HZN.out W1).2
  have hx2 := hz1.setRow MC
  have hb12 := hb1.trans (hb2.mono hb1.size)
  have HBL : Veil (w.heap.size < W1.heap.size) := ⟨by have := hz.lt; have := hb1.size; omega⟩
  refine forget (p := fun y => Code.wp _ _ _ _ y) (fun W2 => Below w.heap.size w W2 ∧ CellsAt W2 w.heap.size 44 Z ∧ CellsAt W2 W1.heap.size 44 MC) ⟨hB.trans (hb12.mono hB.size), hz.farM hb12, hx2⟩ ?_
  generalize W1.heap.size = b1 at HBL
  clear hb1 hb2 hb12 hz1 hx2 hB hz hD HMC HZN W W1
  rintro W ⟨hB, hz, hx⟩
  by_cases h0 : FN = 0
  rotate_left
  · have h0b : (FN == 0) = false := by simpa using h0
    obtain ⟨q1, q2⟩ := HBAD.out h0
    have HQ := Veil.mk (And.intro q1 q2)
    have hzz : Z = [.int .u8 0, .int .u32 0, .int .u32 0, .int .u32 0, .int .u32 0, .int .u32 0, .int .u32 0, .int .u32 0, .int .u32 0, .int .u32 0, .int .u8 0, .int .u8 0, .int .u32 0, .bool false, .int .u8 0, .int .u8 0, .int .u8 0] := hZ
    clear q1 q2 hx
    go_wp2_with (refine wpList_stv (cs := [.int .u8 0, .int .u32 0, .int .u32 0, .int .u32 0, .int .u32 0, .int .u32 0, .int .u32 0, .int .u32 0, .int .u32 0, .int .u32 0, .int .u8 0, .int .u8 0, .int .u32 0, .bool false, .int .u8 0, .int .u8 0, .int .u8 0]) rfl 44 _ _ rfl w.heap.size rfl rfl hz (by rw [← hzz]; exact iZ) (by rw [hzz]) (by rw [← hzz]; exact h1Z) ?_)
    refine bodyPost_ret (results_ct (Tryz.results65) _ rfl rfl (hz.setRow _) uE rfl (by rw [← hzz]; exact iZ)) rfl ⟨?_, below_setRow hB (Nat.le_refl _) _⟩
    rw [HQ.out.1, HQ.out.2, hzz]; rfl
  obtain ⟨q1, q2⟩ := HOK.out h0
  subst h0 q1
  have HQ := Veil.mk q2
  have hlT : TC.length = 17 := by rw [← q2]; simp [hlM]
  have iT : (Tryz.prog.info? 44).map (·.size) = some TC.length := by rw [hlT]; kernel_rfl
  have hzT : Z.length = TC.length := by rw [HZ17.out, hlT]
  have HZT := Veil.mk hzT
  have hb1l : w.heap.size ≤ b1 := Nat.le_of_lt HBL.out
  have hb1n : w.heap.size ≠ b1 := Nat.ne_of_lt HBL.out
  clear q2 hzT hlT
  have c0 := hx.cell 10
  have f0 := hx.frozen 10
  rw [List.getElem?_eq_getElem (by simp [hlM])] at c0
  have d0 := hx.cell 10
  have e0 := hx.frozen 10
  rw [List.getElem?_eq_getElem (by rw [hlM]; decide)] at d0
  have hx0 := hx.set 10 (.int .u8 3)
  have c1 := hx0.cell 15
  have f1 := hx0.frozen 15
  rw [List.getElem?_eq_getElem (by simp [hlM])] at c1
  have d1 := hx.cell 15
  have e1 := hx.frozen 15
  rw [List.getElem?_eq_getElem (by rw [hlM]; decide)] at d1
  have hx1 := hx0.set 15 (.int .u8 who)
  have c2 := hx1.cell 16
  have f2 := hx1.frozen 16
  rw [List.getElem?_eq_getElem (by simp [hlM])] at c2
  have d2 := hx.cell 16
  have e2 := hx.frozen 16
  rw [List.getElem?_eq_getElem (by rw [hlM]; decide)] at d2
  have hx2 := hx1.set 16 (.int .u8 role)
  have HX3 := Veil.mk hx2
  have HZ3 : Veil (CellsAt (((W.setCell ⟨b1, 10, none⟩ (.int .u8 3)).setCell ⟨b1, 15, none⟩ (.int .u8 who)).setCell ⟨b1, 16, none⟩ (.int .u8 role)) w.heap.size 44 Z) := ⟨(((hz.setOther17 hb1n _).setOther17 hb1n _).setOther17 hb1n _)⟩
  have HB3 : Veil (Below w.heap.size w (((W.setCell ⟨b1, 10, none⟩ (.int .u8 3)).setCell ⟨b1, 15, none⟩ (.int .u8 who)).setCell ⟨b1, 16, none⟩ (.int .u8 role))) := ⟨(((hB.setCell hb1l _).setCell hb1l _).setCell hb1l _)⟩
  clear hx0 hx1 hx2 hx
  go_upto_region 5 with fail
  refine forget (p := fun y => Code.wp _ _ _ _ y) (fun W2 => Below w.heap.size w W2 ∧ CellsAt W2 w.heap.size 44 Z ∧ CellsAt W2 b1 44 TC) ⟨HB3.out, HZ3.out, by rw [← HQ.out]; exact HX3.out⟩ ?_
  clear c0 f0 d0 e0 c1 f1 d1 e1 c2 f2 d2 e2 HX3 HZ3 HB3 hz hB W
  rintro W ⟨hB, hz, hx⟩
  have hr := hx.wholeM
  go_wp2_with (first
   | (refine wpList_ldv rfl 44 _ rfl b1 0 rfl TC hr uE rfl iT ?_)
   | (refine wpList_stv (cs := TC) rfl 44 _ _ rfl w.heap.size rfl rfl hz iT HZT.out h1T ?_))
  exact bodyPost_ret (results_ct (Tryz.results65) _ rfl rfl (hz.setRow _) uE rfl iT) rfl ⟨rfl, below_setRow hB (Nat.le_refl _) _⟩
end Go.Proofs.YtmbdohnmbkpfaaaGreat
