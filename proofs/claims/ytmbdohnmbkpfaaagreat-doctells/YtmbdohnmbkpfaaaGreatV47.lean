/- De14 Fr12 Fw1 Fw2 -/
import Derived.Test.YtmbdohnmbkpfaaaGreatV43
import Derived.Test.YtmbdohnmbkpfaaaGreatV27
import Derived.Test.YtmbdohnmbkpfaaaGreatV24
import Derived.Test.YtmbdohnmbkpfaaaGreatV41
import Derived.Test.YtmbdohnmbkpfaaaGreatV34
import Derived.Test.YtmbdohnmbkpfaaaGreatV23
import Derived.Test.YtmbdohnmbkpfaaaGreatV09
import Derived.Maps.RangeWalk
import Derived.Shelf.SlMaps.Clone
namespace Go.Proofs.YtmbdohnmbkpfaaaGreat
open Go.RowKit Go.Shelf
set_option maxRecDepth 20000
set_option linter.unusedSimpArgs false
set_option maxHeartbeats 16000000 in
theorem same10_any (base : Nat) (st : Ds) (D Q : Nat) (K : List (Nat × List Value)) (w : World) (hB : BothD base w st st D Q K) :
    Calls Tryz.prog 13 #[.pointer (some ⟨D, 0, none⟩), .pointer (some ⟨Q, 0, none⟩)] w fun e w' => e = .returned (.bool true) ∧ Below w.heap.size w w' := by
 have hG := hB.good
 have hlok := hG.lok
 have hll := hG.llen
 have HFO : Veil (∀ i (hi : i < st.L.length) W, Below w.heap.size w W → (Calls Tryz.prog 19 #[.pointer (some ⟨D, 0, none⟩), .agg (encF st.L[i].dot).toArray] W fun r w' => r = .returned (.bool (decide (st.L[i].dot ∈ st.F))) ∧ Below W.heap.size W w') ∧ (Calls Tryz.prog 35 #[.pointer (some ⟨Q, 0, none⟩), .agg (encF st.L[i].dot).toArray] W fun r w' => r = .returned (.bool (decide (st.L[i].dot ∈ st.F))) ∧ Below W.heap.size W w')) := ⟨fun i hi W hb => by
  have hok := (hlok _ (List.getElem_mem hi)).dot
  obtain ⟨p, q, rfl, rfl, h⟩ := hB.far hb
  exact ⟨dForce_any base st p st.L[i].dot hok W h.d h.g1, rforce10_any base st q st.L[i].dot W h.r h.g2 h.rel⟩⟩
 obtain ⟨z, hz⟩ : ∃ q, textN st.N = q := ⟨_, rfl⟩
 obtain ⟨tn, htn⟩ : ∃ q, z.length = q := ⟨_, rfl⟩
 have HT1 : Veil (∀ W, Below w.heap.size w W → Calls Tryz.prog 20 #[.pointer (some ⟨D, 0, none⟩)] W fun e w' => ∃ tx tc, e = .returned (.slice tx tn tc) ∧ Bytes w' tx tn tc z ∧ Below W.heap.size W w') := ⟨fun W hb => by
  obtain ⟨p, q, rfl, rfl, h⟩ := hB.far hb
  refine (dText_any base st p W h.d h.g1).mono ?_
  rintro e w' ⟨v, q1, q2, q3⟩
  rw [hz] at q2
  obtain ⟨y, n, c, rfl, hn⟩ := q2.isSlice
  obtain rfl : n = tn := by rw [hn]; exact htn
  exact ⟨y, c, q1, q2.bytes.2, q3⟩⟩
 have HT2 : Veil (∀ W, Below w.heap.size w W → Calls Tryz.prog 36 #[.pointer (some ⟨Q, 0, none⟩)] W fun e w' => ∃ tx tc, e = .returned (.slice tx tn tc) ∧ Bytes w' tx tn tc z ∧ Below W.heap.size W w') := ⟨fun W hb => by
  obtain ⟨p, q, rfl, rfl, h⟩ := hB.far hb
  refine (rtext10_any base st q W h.r h.g2).mono ?_
  rintro e w' ⟨v, q1, q2, q3⟩
  rw [hz] at q2
  obtain ⟨y, n, c, rfl, hn⟩ := q2.isSlice
  obtain rfl : n = tn := by rw [hn]; exact htn
  exact ⟨y, c, q1, q2.bytes.2, q3⟩⟩
 have HME : Veil (∀ W, Below w.heap.size w W → (Calls Tryz.prog 21 #[.pointer (some ⟨D, 0, none⟩)] W fun r w' => r = .returned (.agg (row .u8 (membersL st.B st.S))) ∧ Below W.heap.size W w') ∧ (Calls Tryz.prog 37 #[.pointer (some ⟨Q, 0, none⟩)] W fun r w' => r = .returned (.agg (row .u8 (membersL st.B st.S))) ∧ Below W.heap.size W w')) := ⟨fun W hb => by
  obtain ⟨p, q, rfl, rfl, h⟩ := hB.far hb
  exact ⟨dMembers_any base st p W h.d h.g1, rmembers10_any base st q W h.r h.g2 h.rel⟩⟩
 have HVE : Veil (∀ W, Below w.heap.size w W → (Calls Tryz.prog 17 #[.pointer (some ⟨D, 0, none⟩)] W fun r w' => r = .returned (.agg (row .u32 st.S)) ∧ Below W.heap.size W w') ∧ (Calls Tryz.prog 38 #[.pointer (some ⟨Q, 0, none⟩)] W fun r w' => r = .returned (.agg (row .u32 st.S)) ∧ Below W.heap.size W w')) := ⟨fun W hb => by
  obtain ⟨p, q, rfl, rfl, h⟩ := hB.far hb
  exact ⟨dVector_any base st p W h.d h.g1, rvector10_any base st q W h.r h.g2⟩⟩
 have hmeq : ∀ wx, (Op.equalIn 10000 49 (.agg (row .u8 (membersL st.B st.S))) (.agg (row .u8 (membersL st.B st.S)))).run Tryz.prog wx = .ok true wx := fun wx => by
  have := run_equalIn_rows (P := Tryz.prog) wx 9998 (t := 49) .u8 (membersL st.B st.S) (membersL st.B st.S) Tryz.underlying49 Tryz.underlying42 (by kernel_rfl) (by kernel_rfl) (membersL_len _ _) (membersL_len _ _)
  rw [beq_self_eq_true] at this
  exact this
 have hveq : ∀ wx, (Op.equalIn 10000 37 (.agg (row .u32 st.S)) (.agg (row .u32 st.S))).run Tryz.prog wx = .ok true wx := fun wx => by
  have := run_equalIn_rows (P := Tryz.prog) wx 9998 (t := 37) .u32 st.S st.S Tryz.underlying37 Tryz.underlying35 (by kernel_rfl) (by kernel_rfl) hG.slen hG.slen
  rw [beq_self_eq_true] at this
  exact this
 have HED : Veil (∀ W, Below w.heap.size w W → Calls Tryz.prog 14 #[.pointer (some ⟨D, 0, none⟩)] W fun r w' => ∃ x c, r = .returned (.slice x st.L.length c) ∧ OwnI w' W.heap.size 44 17 (.slice x st.L.length c) (st.L.map Ev.cells) ∧ Below W.heap.size W w') := ⟨fun W hb => by
  obtain ⟨p, q, rfl, rfl, h⟩ := hB.far hb
  refine (dEvents_any base st p W h.d h.g1).mono ?_
  rintro e w' ⟨v, q1, q2, q3⟩
  obtain ⟨x, c, rfl⟩ := q2.isSlice
  rw [List.length_map] at q1 q2
  exact ⟨x, c, q1, q2, q3⟩⟩
 have HER : Calls Tryz.prog 30 #[.pointer (some ⟨Q, 0, none⟩)] w fun r w' => ∃ x c, r = .returned (.slice x st.L.length c) ∧ OwnI w' w.heap.size 44 17 (.slice x st.L.length c) (st.L.map Ev.cells) ∧ Below w.heap.size w w' := by
  obtain ⟨p, q, rfl, rfl, h⟩ := hB
  refine (revents10_any base st q w h.r h.g2).mono ?_
  rintro e w' ⟨v, q1, q2, q3⟩
  obtain ⟨x, c, rfl⟩ := q2.isSlice
  rw [List.length_map] at q1 q2
  exact ⟨x, c, q1, q2, q3⟩
 have HSM : Veil (∀ b1 b2 x1 x2 c1 c2 W, OwnI W b1 44 17 (.slice x1 st.L.length c1) (st.L.map Ev.cells) → OwnI W b2 44 17 (.slice x2 st.L.length c2) (st.L.map Ev.cells) → Calls Tryz.prog 39 #[.slice x1 st.L.length c1, .slice x2 st.L.length c2] W fun e w' => e = .returned (.bool true) ∧ Below W.heap.size W w') := ⟨fun b1 b2 x1 x2 c1 c2 W h1 h2 => same_evD st.L W b1 b2 x1 x2 c1 c2 h1 h2 hlok (by omega)⟩
 have HCV : Veil (∀ w' tx tc, Bytes w' tx tn tc z → (convert 30 9 (.slice tx tn tc)).run Tryz.prog w' = .ok (.string (strOfNums z)) w') := ⟨fun w' tx tc h => conv_bytes h⟩
 have HLT : Veil (∀ n, st.L.length = n → ∀ i (hi : i < st.L.length) W b x c, OwnI W b 44 17 (.slice x n c) (st.L.map Ev.cells) → ∃ g, x = some ⟨g, 0, none⟩ ∧ W.rangeAt g (i * 17) (encF st.L[i].dot)) := ⟨fun n hn i hi W b x c h => by
  subst hn
  obtain ⟨g, rfl, -, hr⟩ := h.at_ i (by rw [List.length_map]; exact hi)
  rw [List.getElem_map] at hr
  have hdp := (ev_parts st.L[i] (hlok _ (List.getElem_mem hi)).past).1
  exact ⟨g, rfl, fun j u hu => hr j u (by
   have hu' : (dotC st.L[i].da st.L[i].ds)[j]? = some u := hu
   rw [← hdp, List.drop_zero, List.getElem?_take] at hu'
   split at hu'
   · exact hu'
   · cases hu')⟩⟩
 generalize membersL st.B st.S = MM at HME hmeq
 generalize row .u8 MM = MR at HME hmeq
 generalize st.S = SV at HVE hveq
 generalize row .u32 SV = SR at HVE hveq
 generalize st.L.map Ev.cells = EL at HED HER HSM HLT
 generalize st.L = L at HFO HED HER HSM HLT hll
 generalize st.F = F at HFO
 obtain ⟨SZ, hSZ⟩ : ∃ q, strOfNums z = q := ⟨_, rfl⟩
 rw [hSZ] at HCV
 obtain ⟨n, hn⟩ : ∃ q, L.length = q := ⟨_, rfl⟩
 have HN := Veil.mk hn
 have hln : n ≤ 512 := by omega
 rw [hn] at HED HER HSM
 replace HLT := Veil.mk (HLT.out n hn)
 have uD := Tryz.underlying40
 clear hB hG hlok hll hz htn hSZ hn
 go_enter Tryz.func13, Tryz.ntmps13
 go_upto_region 2 with (go_at_call 30; refine HER.mono ?_; rintro y W0 ⟨x, c, rfl, ho0, hb0⟩; clear HER)
 go_wp2_with fail
 go_loopw [6] (fun p wr => ∃ i : Nat, p = .int .i64 (i : Nat) ∧ i ≤ n ∧ Below w.heap.size w wr ∧ OwnI wr w.heap.size 44 17 (.slice x n c) EL) (fun p _ => n - (intOf p).toNat)
 case atStart => exact ⟨0, rfl, Nat.zero_le _, hb0, ho0⟩
 case round =>
  obtain ⟨i, rfl, hi, hB, ho⟩ := hrel
  clear hb0 ho0
  by_cases hlt : i < n
  · have hli : (i : Int) < (n : Int) := by omega
    have hli0 : (0 : Int) ≤ (i : Int) := by omega
    have hil : i < L.length := by rw [HN.out]; exact hlt
    obtain ⟨g, rfl, hr⟩ := HLT.out i hil wr _ _ _ ho
    have HF := Veil.mk (HFO.out i hil)
    have HR : Veil (∀ W, Below wr.heap.size wr W → W.rangeAt g (i * 17) (encF L[i].dot)) := ⟨fun W hb => by
     obtain ⟨g', e, q⟩ := HLT.out i hil W _ _ _ (ho.far hb)
     injection e with e
     injection e with e
     subst e
     exact q⟩
    have HST : Veil (∀ W, Below wr.heap.size wr W → Below w.heap.size w W ∧ OwnI W w.heap.size 44 17 (.slice (some ⟨g, 0, none⟩) n c) EL) := ⟨fun W hb => ⟨hB.trans (hb.mono hB.size), ho.far hb⟩⟩
    have iH : (Tryz.prog.info? 40).map (·.size) = some (encF L[i].dot).length := sizeDot
    have hww : IntKind.i64.wrap ((i : Int) + 1) = (i : Int) + 1 := by rw [IntKind.wrap_i64]; omega
    generalize decide (L[i].dot ∈ F) = FB at HF
    generalize encF L[i].dot = DH at HF HR iH hr
    clear hB ho hil hr
    go_upto_region 5 with fail
    have hb0 : Below wr.heap.size wr wr.drew := (Below.refl _ _).drew
    have hf1 := (HF.out _ (HST.out _ hb0).1).1
    refine wp_region_gateT (fun w' => w'.rangeAt g (i * 17) DH) (fun _ => True) 99 (by kernel_rfl) ?_
    have hT : (fun w' : World => w'.rangeAt g (i * 17) DH) wr.drew := HR.out _ hb0
    have hS : (fun _ : World => True) wr.drew := trivial
    refine ghA 0 _ hT hS ?_
    simp only [Act.put, gA, gS, gZ, sI, sZ, sS]
    refine ghA 1 _ hT hS ?_
    simp only [Act.put, gA, gS, gZ, sI, sZ, sS]
    refine ghA 2 _ hT hS ?_
    simp only [Act.put, gA, gS, gZ, sI, sZ, sS]
    refine ghA 3 _ hT hS ?_
    simp only [Act.put, gA, gS, gZ, sI, sZ, sS]
    refine ghA 4 _ hT hS ?_
    simp only [Act.put, gA, gS, gZ, sI, sZ, sS]
    refine gl 5 20 40 19 g (i * 17) DH (by kernel_rfl) (by kernel_rfl) (by kernel_rfl) (fun _ _ _ h => h) hT hS (by kernel_rfl) (fun _ h => h) uD rfl iH ?_
    simp only [Act.put, gA, gS, gZ, sI, sZ, sS]
    refine ghA 7 _ hT hS ?_
    simp only [Act.put, gA, gS, gZ, sI, sZ, sS]
    refine ghA 8 _ hT hS ?_
    simp only [Act.put, gA, gS, gZ, sI, sZ, sS]
    refine ghA 9 _ hT hS ?_
    simp only [Act.put, gA, gS, gZ, sI, sZ, sS]
    refine ghA 10 _ hT hS ?_
    simp only [Act.put, gA, gS, gZ, sI, sZ, sS]
    refine ghA 11 _ hT hS ?_
    simp only [Act.put, gA, gS, gZ, sI, sZ, sS]
    refine gl 12 27 40 26 g (i * 17) DH (by kernel_rfl) (by kernel_rfl) (by kernel_rfl) (fun _ _ _ h => h) hT hS (by kernel_rfl) (fun _ h => h) uD rfl iH ?_
    simp only [Act.put, gA, gS, gZ, sI, sZ, sS]
    refine wpAnyT_one (i := 6) rfl (by kernel_rfl) (by kernel_rfl) (fun K hK => ?_)
    refine wpx_call _ _ (by kernel_rfl) (hf1.mono ?_)
    rintro y W1 ⟨rfl, hb1⟩
    refine ⟨_, rfl, ?_⟩
    replace hb1 := hb0.trans (hb1.mono hb0.size)
    have hf2 := (HF.out _ (HST.out _ hb1).1).2
    replace hT : (fun w' : World => w'.rangeAt g (i * 17) DH) W1 := HR.out _ hb1
    replace hS : (fun _ : World => True) W1 := trivial
    clear hf1 hb0
    refine hK.out _ _ hT (fun _ => hS) ?_
    clear hK K
    try simp only [Act.put, gA, gS, gZ, sI, sZ, sS]
    refine wpAnyT_one (i := 13) rfl (by kernel_rfl) (by kernel_rfl) (fun K hK => ?_)
    refine wpx_call _ _ (by kernel_rfl) (hf2.mono ?_)
    rintro y W2 ⟨rfl, hb2⟩
    refine ⟨_, rfl, ?_⟩
    replace hb2 := hb1.trans (hb2.mono hb1.size)
    have hne : (FB != FB) = false := by simp
    replace hT : (fun w' : World => w'.rangeAt g (i * 17) DH) W2 := HR.out _ hb2
    replace hS : (fun _ : World => True) W2 := trivial
    clear hf2 hb1
    refine hK.out _ _ hT (fun _ => hS) ?_
    clear hK K
    try simp only [Act.put, gA, gS, gZ, sI, sZ, sS]
    refine ghA 14 (.bool false) hT hS ?_
    simp only [Act.put, gA, gS, gZ, sI, sZ, sS]
    refine wpAnyT_done (by kernel_rfl) ?_ _
    have HQ := Veil.mk (HST.out _ hb2)
    clear hT hS hb2 hne
    go_wp2
    go_roundw
    case rel => exact ⟨i + 1, by push_cast; rfl, hlt, HQ.out.1, HQ.out.2⟩
    case measure => simp [intOf]; omega
  · obtain rfl : i = n := by omega
    have hli : ¬ (i : Int) < (i : Int) := by omega
    go_upto_region 7 with fail
    have hb0 : Below wr.heap.size wr wr.drew := (Below.refl _ _).drew
    have HST : Veil (∀ W, Below wr.heap.size wr W → Below w.heap.size w W ∧ OwnI W w.heap.size 44 17 (.slice x i c) EL) := ⟨fun W hb => ⟨hB.trans (hb.mono hB.size), ho.far hb⟩⟩
    clear hB ho HLT HFO
    refine wp_region_gateT (fun _ : World => True) (fun _ => True) 99 (by kernel_rfl) ?_
    have hT : (fun _ : World => True) wr.drew := trivial
    have hS : (fun _ : World => True) wr.drew := trivial
    refine ghA 0 _ hT hS ?_
    simp only [Act.put, gA, gS, gZ, sI, sZ, sS]
    refine ghA 3 _ hT hS ?_
    simp only [Act.put, gA, gS, gZ, sI, sZ, sS]
    refine wpAnyT_one (i := 1) rfl (by kernel_rfl) (by kernel_rfl) (fun K hK => ?_)
    refine wpx_call _ _ (by kernel_rfl) ((HT1.out _ (HST.out _ hb0).1).mono ?_)
    rintro y U1 ⟨tx, tc, rfl, hz1, hb1⟩
    refine ⟨_, rfl, ?_⟩
    have HZ1 := Veil.mk hz1
    replace hb1 := hb0.trans (hb1.mono hb0.size)
    replace hT : (fun _ : World => True) U1 := trivial
    replace hS : (fun _ : World => True) U1 := trivial
    clear hz1 hb0
    refine hK.out _ _ hT (fun _ => hS) ?_
    clear hK K
    try simp only [Act.put, gA, gS, gZ, sI, sZ, sS]
    refine wpAnyT_more (T' := fun w' : World => (convert 30 9 (.slice tx tn tc)).run Tryz.prog w' = .ok (.string SZ) w') (fun _ _ => trivial) _ _ _ _ ?_
    replace hT : (fun w' : World => (convert 30 9 (.slice tx tn tc)).run Tryz.prog w' = .ok (.string SZ) w') U1 := HCV.out _ _ _ HZ1.out
    refine ghA 2 _ hT hS ?_
    simp only [Act.put, gA, gS, gZ, sI, sZ, sS]
    refine wpAnyT_one (i := 4) rfl (by kernel_rfl) (by kernel_rfl) (fun K hK => ?_)
    refine wpx_call _ _ (by kernel_rfl) ((HT2.out _ (HST.out _ hb1).1).mono ?_)
    rintro y U2 ⟨tx2, tc2, rfl, hz2, hb2⟩
    refine ⟨_, rfl, ?_⟩
    have HZ2 := Veil.mk (And.intro (HZ1.out.below hb2) hz2)
    replace hb2 := hb1.trans (hb2.mono hb1.size)
    replace hT : (fun w' : World => (convert 30 9 (.slice tx tn tc)).run Tryz.prog w' = .ok (.string SZ) w') U2 := HCV.out _ _ _ HZ2.out.1
    replace hS : (fun _ : World => True) U2 := trivial
    clear hz2 HZ1 hb1
    refine hK.out _ _ hT (fun _ => hS) ?_
    clear hK K
    try simp only [Act.put, gA, gS, gZ, sI, sZ, sS]
    refine wpAnyT_more (T' := fun w' : World => (convert 30 9 (.slice tx tn tc)).run Tryz.prog w' = .ok (.string SZ) w' ∧ (convert 30 9 (.slice tx2 tn tc2)).run Tryz.prog w' = .ok (.string SZ) w') (fun _ h => h.1) _ _ _ _ ?_
    replace hT : (fun w' : World => (convert 30 9 (.slice tx tn tc)).run Tryz.prog w' = .ok (.string SZ) w' ∧ (convert 30 9 (.slice tx2 tn tc2)).run Tryz.prog w' = .ok (.string SZ) w') U2 := ⟨HCV.out _ _ _ HZ2.out.1, HCV.out _ _ _ HZ2.out.2⟩
    refine ghA 5 _ hT hS ?_
    simp only [Act.put, gA, gS, gZ, sI, sZ, sS]
    refine ghA 6 (.bool true) hT hS ?_
    simp only [Act.put, gA, gS, gZ, sI, sZ, sS]
    refine ghA 7 _ hT hS ?_
    simp only [Act.put, gA, gS, gZ, sI, sZ, sS]
    refine ghA 8 _ hT hS ?_
    simp only [Act.put, gA, gS, gZ, sI, sZ, sS]
    refine ghA 10 _ hT hS ?_
    simp only [Act.put, gA, gS, gZ, sI, sZ, sS]
    refine wpAnyT_one (i := 9) rfl (by kernel_rfl) (by kernel_rfl) (fun K hK => ?_)
    refine wpx_call _ _ (by kernel_rfl) (((HME.out _ (HST.out _ hb2).1).1).mono ?_)
    rintro y U3 ⟨rfl, hb3⟩
    refine ⟨_, rfl, ?_⟩
    have HZ3 := Veil.mk (And.intro (HZ2.out.1.below hb3) (HZ2.out.2.below hb3))
    replace hb3 := hb2.trans (hb3.mono hb2.size)
    replace hT : (fun w' : World => (convert 30 9 (.slice tx tn tc)).run Tryz.prog w' = .ok (.string SZ) w' ∧ (convert 30 9 (.slice tx2 tn tc2)).run Tryz.prog w' = .ok (.string SZ) w') U3 := ⟨HCV.out _ _ _ HZ3.out.1, HCV.out _ _ _ HZ3.out.2⟩
    replace hS : (fun _ : World => True) U3 := trivial
    clear HZ2 hb2
    refine hK.out _ _ hT (fun _ => hS) ?_
    clear hK K
    try simp only [Act.put, gA, gS, gZ, sI, sZ, sS]
    refine wpAnyT_one (i := 11) rfl (by kernel_rfl) (by kernel_rfl) (fun K hK => ?_)
    refine wpx_call _ _ (by kernel_rfl) (((HME.out _ (HST.out _ hb3).1).2).mono ?_)
    rintro y U4 ⟨rfl, hb4⟩
    refine ⟨_, rfl, ?_⟩
    have HZ4 := Veil.mk (And.intro (HZ3.out.1.below hb4) (HZ3.out.2.below hb4))
    replace hb4 := hb3.trans (hb4.mono hb3.size)
    replace hT : (fun w' : World => (convert 30 9 (.slice tx tn tc)).run Tryz.prog w' = .ok (.string SZ) w' ∧ (convert 30 9 (.slice tx2 tn tc2)).run Tryz.prog w' = .ok (.string SZ) w') U4 := ⟨HCV.out _ _ _ HZ4.out.1, HCV.out _ _ _ HZ4.out.2⟩
    replace hS : (fun _ : World => True) U4 := trivial
    clear HZ3 hb3
    refine hK.out _ _ hT (fun _ => hS) ?_
    clear hK K
    try simp only [Act.put, gA, gS, gZ, sI, sZ, sS]
    refine ghA 12 (.bool true) hT hS ?_
    simp only [Act.put, gA, gS, gZ, sI, sZ, sS]
    refine ghA 13 _ hT hS ?_
    simp only [Act.put, gA, gS, gZ, sI, sZ, sS]
    refine ghA 14 _ hT hS ?_
    simp only [Act.put, gA, gS, gZ, sI, sZ, sS]
    refine ghA 15 _ hT hS ?_
    simp only [Act.put, gA, gS, gZ, sI, sZ, sS]
    refine ghA 17 _ hT hS ?_
    simp only [Act.put, gA, gS, gZ, sI, sZ, sS]
    refine wpAnyT_one (i := 16) rfl (by kernel_rfl) (by kernel_rfl) (fun K hK => ?_)
    refine wpx_call _ _ (by kernel_rfl) (((HVE.out _ (HST.out _ hb4).1).1).mono ?_)
    rintro y U5 ⟨rfl, hb5⟩
    refine ⟨_, rfl, ?_⟩
    have HZ5 := Veil.mk (And.intro (HZ4.out.1.below hb5) (HZ4.out.2.below hb5))
    replace hb5 := hb4.trans (hb5.mono hb4.size)
    replace hT : (fun w' : World => (convert 30 9 (.slice tx tn tc)).run Tryz.prog w' = .ok (.string SZ) w' ∧ (convert 30 9 (.slice tx2 tn tc2)).run Tryz.prog w' = .ok (.string SZ) w') U5 := ⟨HCV.out _ _ _ HZ5.out.1, HCV.out _ _ _ HZ5.out.2⟩
    replace hS : (fun _ : World => True) U5 := trivial
    clear HZ4 hb4
    refine hK.out _ _ hT (fun _ => hS) ?_
    clear hK K
    try simp only [Act.put, gA, gS, gZ, sI, sZ, sS]
    refine wpAnyT_one (i := 18) rfl (by kernel_rfl) (by kernel_rfl) (fun K hK => ?_)
    refine wpx_call _ _ (by kernel_rfl) (((HVE.out _ (HST.out _ hb5).1).2).mono ?_)
    rintro y U6 ⟨rfl, hb6⟩
    refine ⟨_, rfl, ?_⟩
    have HZ6 := Veil.mk (And.intro (HZ5.out.1.below hb6) (HZ5.out.2.below hb6))
    replace hb6 := hb5.trans (hb6.mono hb5.size)
    replace hT : (fun w' : World => (convert 30 9 (.slice tx tn tc)).run Tryz.prog w' = .ok (.string SZ) w' ∧ (convert 30 9 (.slice tx2 tn tc2)).run Tryz.prog w' = .ok (.string SZ) w') U6 := ⟨HCV.out _ _ _ HZ6.out.1, HCV.out _ _ _ HZ6.out.2⟩
    replace hS : (fun _ : World => True) U6 := trivial
    clear HZ5 hb5
    refine hK.out _ _ hT (fun _ => hS) ?_
    clear hK K
    try simp only [Act.put, gA, gS, gZ, sI, sZ, sS]
    refine ghA 19 (.bool true) hT hS ?_
    simp only [Act.put, gA, gS, gZ, sI, sZ, sS]
    refine ghA 20 _ hT hS ?_
    simp only [Act.put, gA, gS, gZ, sI, sZ, sS]
    refine ghA 21 _ hT hS ?_
    simp only [Act.put, gA, gS, gZ, sI, sZ, sS]
    refine ghA 22 _ hT hS ?_
    simp only [Act.put, gA, gS, gZ, sI, sZ, sS]
    refine ghA 24 _ hT hS ?_
    simp only [Act.put, gA, gS, gZ, sI, sZ, sS]
    refine wpAnyT_one (i := 23) rfl (by kernel_rfl) (by kernel_rfl) (fun K hK => ?_)
    refine wpx_call _ _ (by kernel_rfl) ((HED.out _ (HST.out _ hb6).1).mono ?_)
    rintro y U7 ⟨x7, c7, rfl, ho7, hb7⟩
    refine ⟨_, rfl, ?_⟩
    have HO7 := Veil.mk ho7
    clear ho7
    have HZ7 := Veil.mk (And.intro (HZ6.out.1.below hb7) (HZ6.out.2.below hb7))
    replace hb7 := hb6.trans (hb7.mono hb6.size)
    replace hT : (fun w' : World => (convert 30 9 (.slice tx tn tc)).run Tryz.prog w' = .ok (.string SZ) w' ∧ (convert 30 9 (.slice tx2 tn tc2)).run Tryz.prog w' = .ok (.string SZ) w') U7 := ⟨HCV.out _ _ _ HZ7.out.1, HCV.out _ _ _ HZ7.out.2⟩
    replace hS : (fun _ : World => True) U7 := trivial
    clear HZ6 hb6
    refine hK.out _ _ hT (fun _ => hS) ?_
    clear hK K
    try simp only [Act.put, gA, gS, gZ, sI, sZ, sS]
    refine wpAnyT_one (i := 25) rfl (by kernel_rfl) (by kernel_rfl) (fun K hK => ?_)
    refine wpx_call _ _ (by kernel_rfl) ((HSM.out _ _ _ _ _ _ _ HO7.out (HST.out _ hb7).2).mono ?_)
    rintro y U8 ⟨rfl, hb8⟩
    refine ⟨_, rfl, ?_⟩
    have HZ8 := Veil.mk (And.intro (HZ7.out.1.below hb8) (HZ7.out.2.below hb8))
    replace hb8 := hb7.trans (hb8.mono hb7.size)
    replace hT : (fun w' : World => (convert 30 9 (.slice tx tn tc)).run Tryz.prog w' = .ok (.string SZ) w' ∧ (convert 30 9 (.slice tx2 tn tc2)).run Tryz.prog w' = .ok (.string SZ) w') U8 := ⟨HCV.out _ _ _ HZ8.out.1, HCV.out _ _ _ HZ8.out.2⟩
    replace hS : (fun _ : World => True) U8 := trivial
    clear HZ7 hb7
    refine hK.out _ _ hT (fun _ => hS) ?_
    clear hK K
    try simp only [Act.put, gA, gS, gZ, sI, sZ, sS]
    refine ghA 26 _ hT hS ?_
    simp only [Act.put, gA, gS, gZ, sI, sZ, sS]
    refine ghA 27 _ hT hS ?_
    simp only [Act.put, gA, gS, gZ, sI, sZ, sS]
    refine wpAnyT_done (by kernel_rfl) ?_ _
    have HQ := Veil.mk (HST.out _ hb8).1
    clear hT hS hb8
    go_wp2
    go_ret
    exact ⟨rfl, HQ.out⟩
theorem cellsSide : Tryz.prog.cellsOf 117 = 3 ∧ Tryz.prog.cellsOf 40 = 2 ∧ Tryz.prog.cellsOf 4 = 1 := by refine ⟨?_, ?_, ?_⟩ <;> kernel_rfl
theorem lits_bool_inv {t : TypeId} (hu : Tryz.prog.underlying t = some .bool) {d : Nat} {c : List Value} {L : List Lit} (h : Tryz.prog.keyLits d t c = some L) : ∃ b, c = [.bool b] := by
 cases d with
 | zero => cases h
 | succ d =>
  unfold Program.keyLits at h
  rw [hu] at h
  match c, h with
  | [.bool b], _ => exact ⟨b, rfl⟩
theorem lits_dot_inv {d : Nat} {c1 c2 : Value} {L : List Lit} (h : Tryz.prog.keyLits d 40 [c1, c2] = some L) : ∃ x, okDF x ∧ [c1, c2] = encF x := by
 cases d with
 | zero => cases h
 | succ m =>
  unfold Program.keyLits at h
  simp only [Tryz.underlying40, cellsDot.1, cellsDot.2.1, cellsDot.2.2] at h
  simp only [List.length_cons, List.length_nil, Nat.reduceAdd, true_and] at h
  split at h
  · simp only [List.mapM_cons, List.mapM_nil, List.drop_zero, List.take_succ_cons, List.take_zero, List.drop_succ_cons, cellsDot.2.1, cellsDot.2.2] at h
    cases h1 : Tryz.prog.keyLits m 5 [c1] with
    | none => rw [h1] at h; simp at h
    | some L1 =>
     cases h2 : Tryz.prog.keyLits m 35 [c2] with
     | none => rw [h1, h2] at h; simp at h
     | some L2 =>
      obtain ⟨a, ea, wa⟩ := lits_int_inv Tryz.underlying5 h1
      obtain ⟨s, es, ws⟩ := lits_int_inv Tryz.underlying35 h2
      injection ea with ea _
      injection es with es _
      subst ea es
      have w1 : (decide ((0 : Int) ≤ a) && decide (a ≤ 255)) = true := wa
      have w2 : (decide ((0 : Int) ≤ s) && decide (s ≤ 4294967295)) = true := ws
      simp only [Bool.and_eq_true, decide_eq_true_eq] at w1 w2
      exact ⟨(a, s), ⟨w1, w2⟩, rfl⟩
  · simp at h
theorem sideKey_inv {key : Value} {kl : Lit} (h : keyOf Tryz.prog 117 key = some kl) : ∃ x : { s : (Int × Int) × Bool // okS s }, key = .agg (sideC x.1).toArray := by
 obtain ⟨m, hm⟩ := typesBig
 unfold keyOf at h
 rw [Tryz.underlying117, hm] at h
 simp only at h
 split at h
 · rename_i hf
   obtain ⟨_, hf⟩ := Bool.and_eq_true_iff.1 hf
   cases key with
   | agg cs =>
    simp only [Value.formed, Tryz.underlying117, cellsSide.1] at hf
    obtain ⟨l⟩ := cs
    match l, hf with
    | [c1, c2, c3], _ =>
     simp only [Value.cells] at h
     unfold Program.keyLits at h
     simp only [Tryz.underlying117, cellsSide.1, cellsSide.2.1, cellsSide.2.2] at h
     simp only [List.length_cons, List.length_nil, Nat.reduceAdd, true_and] at h
     split at h
     · simp only [List.mapM_cons, List.mapM_nil, List.drop_zero, List.take_succ_cons, List.take_zero, List.drop_succ_cons, cellsSide.2.1, cellsSide.2.2] at h
       cases h1 : Tryz.prog.keyLits (m + 1) 40 [c1, c2] with
       | none => rw [h1] at h; simp at h
       | some L1 =>
        cases h2 : Tryz.prog.keyLits (m + 1) 4 [c3] with
        | none => rw [h1, h2] at h; simp at h
        | some L2 =>
         obtain ⟨x, hx, ex⟩ := lits_dot_inv h1
         obtain ⟨b, eb⟩ := lits_bool_inv Tryz.underlying4 h2
         refine ⟨⟨(x, b), hx⟩, ?_⟩
         unfold sideC
         simp only
         rw [← ex, ← eb]
         rfl
     · simp at h
   | _ => simp [Value.formed, Tryz.underlying117] at hf
 · cases h
theorem mapDotU8F : Tryz.prog.underlying 110 = some (.map 40 5) := by kernel_rfl
set_option maxHeartbeats 4000000 in
theorem cCloneF_any (b n : Nat) (M : Int × Int → Option Value) (w : World) (hM : MapX Tryz.prog 40 encDF okDF w b n M) :
    Calls Tryz.prog 108 #[.map (some b)] w fun e w' => e = .returned (.map (some w.heap.size)) ∧ MapX Tryz.prog 40 encDF okDF w' w.heap.size n M ∧ Below w.heap.size w w' := by
 obtain ⟨D, ⟨es, clock, hb, hrest⟩, hs, hD⟩ := hM
 have hq := fun w => run_eql_map_nil_sl (P := Tryz.prog) w 110 _ _ (some b) mapDotU8F
 go_enter Tryz.func108, Tryz.ntmps108
 go_wp2
 rw [run_callFunc_extern Tryz.func110 (by kernel_rfl) (by kernel_rfl) (by kernel_rfl) (e := Extern.MapsClone.clone) (by kernel_rfl), run_maps_clone_sl w 110 hb]
 simp only [Result.andThen]
 rw [Oper.upon_value]
 go_wp2
 rw [run_typeAssert_map_sl _ 110 _ _ _ _ mapDotU8F]
 simp only [Result.andThen]
 rw [Oper.upon_value]
 go_wp2
 go_ret
 exact ⟨rfl, ⟨D, ⟨es, clock, heap_alloc_new w _, hrest⟩, hs, hD⟩, (Below.refl _ _).alloc (Nat.le_refl _) _⟩
set_option maxHeartbeats 4000000 in
theorem dCloneF_any (base : Nat) (w : World) (u : Value) (Q : List (Int × Int)) (hu : OwnI w base 40 2 u (Q.map encF)) (hl : Q.length ≤ 1000) :
    Calls Tryz.prog 107 #[u] w fun e w' => ∃ v', e = .returned v' ∧ OwnI w' w.heap.size 40 2 v' (Q.map encF) ∧ Below w.heap.size w w' := by
 rcases hu.own.2 with ⟨rfl, h0⟩ | ⟨g, cap, cur, rfl, hbg, hrest⟩
 · have hL : Q.map encF = [] := List.length_eq_zero_iff.1 h0
   have hnil : ∀ wx : World, (binOp BinOp.eql 139 (.slice none 0 0) (.slice none 0 0)).run Tryz.prog wx = .ok (.bool true) wx := fun _ => by kernel_rfl
   rw [hL]
   clear hu hL h0
   go_enter Tryz.func107, Tryz.ntmps107
   go_wp2
   go_ret
   exact ⟨_, rfl, OwnI.nil _ _ _ _, Below.refl _ _⟩
 · have hB : Below w.heap.size w (w.alloc (.cells #[] 40)) := (Below.refl _ _).alloc (Nat.le_refl _) _
   have hE := OwnI.empty w 40 2
   have hu1 := hu.far hB
   have hone : ∀ c ∈ Q.map encF, ∀ u ∈ c, u.oneCell' = true := fun c hc u hu => by
    obtain ⟨q, _, rfl⟩ := List.mem_map.1 hc
    exact encF_one q u hu
   have hap := hE.apps (P := Tryz.prog) 139 139 Tryz.underlying139 infoD2 (by rfl) (by decide) (Q.map encF) hu.each hone base _ hu1 (by simp; omega) (by decide) (by simp)
   rw [List.nil_append] at hap
   have hnil : ∀ (n : Nat) (wx : World), (binOp BinOp.eql 139 (.slice (some ⟨g, 0, none⟩) n cap) (.slice none 0 0)).run Tryz.prog wx = .ok (.bool false) wx := fun _ _ => by kernel_rfl
   have HAP := Veil.mk hap
   generalize (Q.map encF).length = n at HAP hnil ⊢
   have hnl := hnil n
   clear hu hE hu1 hone hrest hnil hap
   go_enter Tryz.func107, Tryz.ntmps107
   go_wp2_with (at_builtin; obtain ⟨v1, w1, hr1, ho1, hg1, _⟩ := HAP.out; refine wpList_appx rfl _ _ 139 139 rfl _ _ _ _ rfl rfl hr1 ?_)
   go_ret
   refine ⟨_, rfl, ho1, ?_⟩
   exact hB.grown hg1 (by simp) (fun k hk => by cases hk; exact Nat.le_refl _)
structure ForkV (wr : World) (B : Nat) (N : List Nd) (left : Lit → Bool) (M : (Int × Int) × Bool → Option Value) (V : (Int × Int) × Bool → Value) : Prop where
 tab : ∀ s, okS s → ∀ l, keyOf Tryz.prog 117 (encS s) = some l → M s = if left l = true then none else sideM N V s
 yes : ∀ s, okS s → ∀ l, keyOf Tryz.prog 117 (encS s) = some l → left l = false → OwnI wr (B + 2) 40 2 (V s) ((kids N s).map encF)
 no : ∀ s, okS s → ∀ l, keyOf Tryz.prog 117 (encS s) = some l → left l = true ∨ kids N s = [] → V s = .slice none 0 0
 apart : ∀ s t, okS s → okS t → s ≠ t → ∀ k, (V s).ownBlock = some k → (V t).ownBlock ≠ some k
 lt : ∀ s, okS s → ∀ k, (V s).ownBlock = some k → B + 2 ≤ k ∧ k < wr.heap.size
theorem ForkV.start (wr : World) (B : Nat) (N : List Nd) (left : Lit → Bool) (V0 : (Int × Int) × Bool → Value) (h : ∀ s, okS s → ∀ l, keyOf Tryz.prog 117 (encS s) = some l → left l = (sideM N V0 s).isSome) : ForkV wr B N left (fun _ => none) (fun _ => .slice none 0 0) := by
 have key : ∀ s, okS s → ∀ l, keyOf Tryz.prog 117 (encS s) = some l → left l = false → kids N s = [] := fun s hs l hl h0 => by
  rw [h s hs l hl] at h0
  unfold sideM at h0
  split at h0
  · assumption
  · cases h0
 refine ⟨fun s hs l hl => ?_, fun s hs l hl h0 => ?_, fun _ _ _ _ _ => rfl, fun s t _ _ _ k hk => (by cases hk), fun s _ k hk => (by cases hk)⟩
 · cases hq : left l with
   | true => rfl
   | false => rw [if_neg (by simp)]; unfold sideM; rw [if_pos (key s hs l hl hq)]
 · rw [key s hs l hl h0]; exact OwnI.nil _ _ _ _
theorem ForkV.step {wr W' : World} {B : Nat} {N : List Nd} {left : Lit → Bool} {M : (Int × Int) × Bool → Option Value} {V : (Int × Int) × Bool → Value} (h : ForkV wr B N left M V) {s0 : (Int × Int) × Bool} (hs0 : okS s0) {l0 : Lit} (hl0 : keyOf Tryz.prog 117 (encS s0) = some l0) (hk0 : kids N s0 ≠ []) {v : Value} (hv : OwnI W' wr.heap.size 40 2 v ((kids N s0).map encF)) (hB : B + 2 ≤ wr.heap.size) (hkeep : ∀ k, B + 2 ≤ k → k < wr.heap.size → W'.heap[k]? = wr.heap[k]?) (hz : wr.heap.size ≤ W'.heap.size) :
    ForkV W' B N (fun z => left z && !z.sameKey l0) (putG M s0 v) (putV V s0 v) := by
 have same : ∀ s, okS s → ∀ l, keyOf Tryz.prog 117 (encS s) = some l → s ≠ s0 → (left l && !l.sameKey l0) = left l := fun s hs l hl hne => by
  have : l ≠ l0 := fun e => hne (keyEncS.lit_inj hs hs0 hl (by rw [e]; exact hl0))
  rw [Maps.sameKey_ne this]; simp
 have self : ∀ l, keyOf Tryz.prog 117 (encS s0) = some l → (left l && !l.sameKey l0) = false := fun l hl => by
  rw [hl0] at hl
  injection hl with hl
  subst hl
  have : l0.sameKey l0 = true := WideAt.sameKey_self (keyEncS.keyed.key hl0)
  rw [this]; simp
 have vother : ∀ s, s ≠ s0 → putV V s0 v s = V s := fun s hne => by unfold putV; rw [if_neg hne]
 have vself : putV V s0 v s0 = v := by unfold putV; rw [if_pos rfl]
 have ownV : ∀ s, okS s → ∀ k, (V s).ownBlock = some k → W'.heap[k]? = wr.heap[k]? := fun s hs k hk => by obtain ⟨h1, h2⟩ := h.lt s hs k hk; exact hkeep k h1 h2
 refine ⟨fun s hs l hl => ?_, fun s hs l hl h0 => ?_, fun s hs l hl h0 => ?_, fun s t hs ht hne k hk => ?_, fun s hs k hk => ?_⟩
 · by_cases e : s = s0
   · subst e
     have := self l hl
     simp only [this, Bool.false_eq_true, if_false]
     unfold putG sideM
     rw [if_pos rfl, if_neg hk0, vself]
   · have := same s hs l hl e
     simp only [this]
     have h1 : sideM N (putV V s0 v) s = sideM N V s := by unfold sideM; rw [vother s e]
     rw [h1, ← h.tab s hs l hl]
     unfold putG; rw [if_neg e]
 · by_cases e : s = s0
   · subst e
     rw [vself]
     exact hv.less hB
   · rw [vother s e]
     have h1 := same s hs l hl e
     rw [h1] at h0
     exact (h.yes s hs l hl h0).congr (ownV s hs)
 · by_cases e : s = s0
   · subst e
     have h1 := self l hl
     rw [h1] at h0
     rcases h0 with q | q
     · cases q
     · exact absurd q hk0
   · rw [vother s e]
     have h1 := same s hs l hl e
     rw [h1] at h0
     exact h.no s hs l hl h0
 · by_cases e : s = s0
   · by_cases e2 : t = s0
     · exact absurd (e.trans e2.symm) hne
     · rw [vother t e2]
       rw [e, vself] at hk
       intro q
       have h1 := (h.lt t ht k q).2
       have h2 := (hv.blockLt k hk).2.1
       omega
   · rw [vother s e] at hk
     by_cases e2 : t = s0
     · rw [e2, vself]
       intro q
       have h1 := (h.lt s hs k hk).2
       have h2 := (hv.blockLt k q).2.1
       omega
     · rw [vother t e2]; exact h.apart s t hs ht hne k hk
 · by_cases e : s = s0
   · rw [e, vself] at hk
     have h2 := hv.blockLt k hk
     exact ⟨by omega, h2.1⟩
   · rw [vother s e] at hk
     obtain ⟨h1, h2⟩ := h.lt s hs k hk
     exact ⟨h1, by omega⟩
end Go.Proofs.YtmbdohnmbkpfaaaGreat
