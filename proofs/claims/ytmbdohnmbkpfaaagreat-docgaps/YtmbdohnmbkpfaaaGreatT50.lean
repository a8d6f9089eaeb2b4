/- De13 De14 -/
import Derived.Test.YtmbdohnmbkpfaaaGreatT49
import Derived.Test.YtmbdohnmbkpfaaaGreatT09
import Derived.Test.YtmbdohnmbkpfaaaGreatT41
import Derived.Test.YtmbdohnmbkpfaaaGreatT31
import Derived.Test.YtmbdohnmbkpfaaaGreatT26
namespace Go.Proofs.YtmbdohnmbkpfaaaGreat
open Go.RowKit Go.Shelf
set_option maxRecDepth 20000
set_option linter.unusedSimpArgs false
def playX (L : List Ed) : Ds := L.foldl stepX newS
theorem playX_snoc (L : List Ed) (d : Ed) : playX (L ++ [d]) = stepX (playX L) d := by unfold playX; rw [List.foldl_append]; rfl
structure PlayX (w : World) (L : List Ed) (v0 : Value) (w' : World) : Prop where
  out : ∃ D Q, v0 = .tuple #[.pointer (some ⟨D, 0, none⟩), .pointer (some ⟨Q, 0, none⟩), .bool true] ∧ BothD w.heap.size w' (playX (L.take 50)) (playX (L.take 50)) D Q [] ∧ Below w.heap.size w w'
set_option maxHeartbeats 8000000 in
theorem play10_any (x : Option Addr) (len cap : Nat) (L : List Ed) (w : World) (hL : EdsAt w x len cap L) :
    Calls Tryz.prog 11 #[.slice x len cap] w fun e w' => ∃ v0, e = .returned v0 ∧ PlayX w L v0 w' := by
  have hnew := dNew_any w
  have HRN : Veil (∀ W, Calls Tryz.prog 34 #[] W fun r w' => ∃ p, r = .returned (.pointer (some ⟨p.D, 0, none⟩)) ∧ RDocAt w' W.heap.size newS p ∧ GoodR newS p.K p.G ∧ Below W.heap.size W w' ∧ ∀ k, rdocP p k → W.heap.size ≤ k) := ⟨fun W => rnew10_any W⟩
  have HL := Veil.mk hL
  have hle := hL.le
  have htop := hL.top
  have HLE := Veil.mk hL.len_eq
  clear hL
  go_enter Tryz.func11, Tryz.ntmps11
  go_upto_region 2 with (first
    | (go_at_call 15; refine hnew.mono ?_; rintro z W1 ⟨p, rfl, hT, hb1, hl1⟩; have hrn := HRN.out W1; clear hnew)
    | (go_at_call 34; refine hrn.mono ?_; rintro z W2 ⟨q, rfl, hQ, hR, hb2, hl2⟩))
  have hz1 := hb1.size
  have hBT : BothD w.heap.size W2 (playX (L.take 0)) (playX (L.take 0)) p.D q.D [] := by
    refine ⟨p, q, rfl, rfl, ⟨hT.far hb2, ⟨hQ.box, ⟨hQ.tree.box, hQ.tree.own.less hz1, hQ.tree.len⟩, ⟨hQ.book.cells, hQ.book.ev.less hz1, hQ.book.bo.less hz1⟩, hQ.evs.less hz1, hQ.flags.less hz1, hQ.apart1, hQ.apart2⟩, GoodD.new, GoodD.new, hR, hl1, fun k hk => Nat.le_trans hz1 (hl2 k hk), fun k hk hq => ?_, fun x hx => by cases hx⟩⟩
    have := hT.blockLt k hk
    have := hl2 k hq
    omega
  have hB2 : Below w.heap.size w W2 := hb1.trans (hb2.mono hb1.size)
  refine forget (p := fun y => Code.wp _ _ _ _ y) (fun W => BothD w.heap.size W (playX (L.take 0)) (playX (L.take 0)) p.D q.D [] ∧ Below w.heap.size w W) ⟨hBT, hB2⟩ ?_
  generalize p.D = D
  generalize q.D = Q
  clear hBT hB2 hb1 hb2 hT hQ hR hrn hz1 HRN hl1 hl2 W1 W2 p q
  rintro W0 h0
  go_wp2_with fail
  go_loopw [7] (fun p wr => ∃ (i : Nat), p = .int .i64 (i : Nat) ∧ i ≤ len ∧ i ≤ 50 ∧ BothD w.heap.size wr (playX (L.take i)) (playX (L.take i)) D Q [] ∧ Below w.heap.size w wr) (fun p _ => 50 - (intOf p).toNat)
  case atStart => exact ⟨0, rfl, Nat.zero_le _, Nat.zero_le _, h0.1, h0.2⟩
  case round =>
    obtain ⟨i, rfl, hi, hi60, hBT, hB⟩ := hrel
    clear h0
    have HB := Veil.mk hB
    have HBT := Veil.mk hBT
    clear hB hBT
    by_cases hlt : i < len
    · have hli : decide ((i : Int) < (len : Int)) = true := by simp; omega
      by_cases h60 : i < 50
      · have hl6 : decide ((i : Int) < 50) = true := by simp; omega
        have hil : i < L.length := by have := HLE.out; omega
        have hi0 : (0 : Int) ≤ (i : Int) := by omega
        have hlti : (i : Int) < (len : Int) := by omega
        obtain ⟨g, off, hxg, hcl⟩ : ∃ g off, x = some ⟨g, off, none⟩ ∧ wr.rangeAt g (off + i * 23) L[i].cells := by
          rcases (HL.out.below HB.out).at_ with h | ⟨g, off, hx, hc⟩
          · omega
          · exact ⟨g, off, hx, fun q u hu => hc i hil q u hu⟩
        have hok := HL.out.ok _ (List.getElem_mem hil)
        have hdo := do10_any w.heap.size (playX (L.take i)) D Q L[i] wr HBT.out hok HB.out.size
        have HNX : Veil (stepX (playX (L.take i)) L[i] = playX (L.take (i + 1))) := ⟨by rw [List.take_succ_eq_append_getElem hil, playX_snoc]⟩
        have iC : (Tryz.prog.info? 56).map (·.size) = some L[i].cells.length := by rw [(ed_parts L[i] hok.e.past).2.2.2.2.2.2.2.2]; kernel_rfl
        have uC := Tryz.underlying56
        generalize stepX (playX (L.take i)) L[i] = DO at hdo HNX
        generalize L[i].cells = DC at hcl hdo iC
        have hww : IntKind.i64.wrap ((i : Int) + 1) = (i : Int) + 1 := by rw [IntKind.wrap_i64]; omega
        clear hil hok
        subst hxg
        go_wp2_with (first
          | (refine wpList_ldv rfl 56 (.tmp 24) rfl g (off + i * 23) rfl DC hcl uC rfl iC ?_)
          | (go_at_call 33; refine hdo.mono ?_; rintro z W3 ⟨rfl, hq3⟩; have HQ3 := Veil.mk hq3; clear hq3 hdo))
        go_roundw
        case rel => exact ⟨i + 1, by push_cast; rfl, hlt, h60, by rw [← HNX.out]; exact HQ3.out.1, HB.out.trans HQ3.out.2⟩
        case measure => simp [intOf]; omega
      · have hl6 : decide ((i : Int) < 50) = false := by simp; omega
        have HE : Veil (L.take i = L.take 50) := ⟨by rw [show i = 50 by omega]⟩
        have HPR : Veil (PlayX w L (.tuple #[.pointer (some ⟨D, 0, none⟩), .pointer (some ⟨Q, 0, none⟩), .bool true]) wr) := ⟨⟨D, Q, rfl, by rw [← HE.out]; exact HBT.out, HB.out⟩⟩
        go_wp2
        refine bodyPost_ret (results_tmp3 rfl _ _ _) rfl ?_
        exact ⟨_, rfl, HPR.out⟩
    · have hli : decide ((i : Int) < (len : Int)) = false := by simp; omega
      have HE : Veil (L.take i = L.take 50) := ⟨by have := HLE.out; rw [List.take_of_length_le (by omega), List.take_of_length_le (by omega)]⟩
      have HPR : Veil (PlayX w L (.tuple #[.pointer (some ⟨D, 0, none⟩), .pointer (some ⟨Q, 0, none⟩), .bool true]) wr) := ⟨⟨D, Q, rfl, by rw [← HE.out]; exact HBT.out, HB.out⟩⟩
      go_wp2
      refine bodyPost_ret (results_tmp3 rfl _ _ _) rfl ?_
      exact ⟨_, rfl, HPR.out⟩
set_option maxHeartbeats 16000000 in
theorem same10_any (base : Nat) (st : Ds) (D Q : Nat) (K : List (Nat × List Value)) (w : World) (hB : BothD base w st st D Q K) :
    Calls Tryz.prog 13 #[.pointer (some ⟨D, 0, none⟩), .pointer (some ⟨Q, 0, none⟩)] w fun e w' => e = .returned (.bool true) ∧ Below w.heap.size w w' := by
  have hG := hB.good
  have hlok := hG.lok
  have hll := hG.llen
  have HFO : Veil (∀ i (hi : i < st.L.length) W, Below w.heap.size w W → (Calls Tryz.prog 19 #[.pointer (some ⟨D, 0, none⟩), .agg (encF st.L[i].dot).toArray] W fun r w' => r = .returned (.bool (decide (st.L[i].dot ∈ st.F))) ∧ Below W.heap.size W w') ∧ (Calls Tryz.prog 35 #[.pointer (some ⟨Q, 0, none⟩), .agg (encF st.L[i].dot).toArray] W fun r w' => r = .returned (.bool (decide (st.L[i].dot ∈ st.F))) ∧ Below W.heap.size W w')) := ⟨fun i hi W hb => by
    have hok := (hlok _ (List.getElem_mem hi)).dot
    obtain ⟨p, q, rfl, rfl, h⟩ := hB.far hb
    exact ⟨dForce_any base st p st.L[i].dot hok W h.d h.g1, rforce10_any base st q st.L[i].dot W h.r h.g2 h.rel⟩⟩
  obtain ⟨z, hz⟩ : ∃ q, textN st.N = q := ⟨_, rfl⟩
  obtain ⟨tn, htn⟩ : ∃ q, z.length = q := ⟨_, rfl⟩
  have HT1 : Veil (∀ W, Below w.heap.size w W → Calls Tryz.prog 20 #[.pointer (some ⟨D, 0, none⟩)] W fun e w' => ∃ tx tc, e = .returned (.slice tx tn tc) ∧ Bytes w' tx tn tc z ∧ Below W.heap.size W w') := ⟨fun W hb => by
    obtain ⟨p, q, rfl, rfl, h⟩ := hB.far hb
    refine (dText_any base st p W h.d h.g1).mono ?_
    rintro e w' ⟨v, q1, q2, q3⟩
    rw [hz] at q2
    obtain ⟨y, n, c, rfl, hn⟩ := q2.isSlice
    obtain rfl : n = tn := by rw [hn]; exact htn
    exact ⟨y, c, q1, q2.bytes.2, q3⟩⟩
  have HT2 : Veil (∀ W, Below w.heap.size w W → Calls Tryz.prog 36 #[.pointer (some ⟨Q, 0, none⟩)] W fun e w' => ∃ tx tc, e = .returned (.slice tx tn tc) ∧ Bytes w' tx tn tc z ∧ Below W.heap.size W w') := ⟨fun W hb => by
    obtain ⟨p, q, rfl, rfl, h⟩ := hB.far hb
    refine (rtext10_any base st q W h.r h.g2).mono ?_
    rintro e w' ⟨v, q1, q2, q3⟩
    rw [hz] at q2
    obtain ⟨y, n, c, rfl, hn⟩ := q2.isSlice
    obtain rfl : n = tn := by rw [hn]; exact htn
    exact ⟨y, c, q1, q2.bytes.2, q3⟩⟩
  have HME : Veil (∀ W, Below w.heap.size w W → (Calls Tryz.prog 21 #[.pointer (some ⟨D, 0, none⟩)] W fun r w' => r = .returned (.agg (row .u8 (membersL st.B st.S))) ∧ Below W.heap.size W w') ∧ (Calls Tryz.prog 37 #[.pointer (some ⟨Q, 0, none⟩)] W fun r w' => r = .returned (.agg (row .u8 (membersL st.B st.S))) ∧ Below W.heap.size W w')) := ⟨fun W hb => by
    obtain ⟨p, q, rfl, rfl, h⟩ := hB.far hb
    exact ⟨dMembers_any base st p W h.d h.g1, rmembers10_any base st q W h.r h.g2 h.rel⟩⟩
  have HVE : Veil (∀ W, Below w.heap.size w W → (Calls Tryz.prog 17 #[.pointer (some ⟨D, 0, none⟩)] W fun r w' => r = .returned (.agg (row .u32 st.S)) ∧ Below W.heap.size W w') ∧ (Calls Tryz.prog 38 #[.pointer (some ⟨Q, 0, none⟩)] W fun r w' => r = .returned (.agg (row .u32 st.S)) ∧ Below W.heap.size W w')) := ⟨fun W hb => by
    obtain ⟨p, q, rfl, rfl, h⟩ := hB.far hb
    exact ⟨dVector_any base st p W h.d h.g1, rvector10_any base st q W h.r h.g2⟩⟩
  have hmeq : ∀ wx, (Op.equalIn 10000 49 (.agg (row .u8 (membersL st.B st.S))) (.agg (row .u8 (membersL st.B st.S)))).run Tryz.prog wx = .ok true wx := fun wx => by
    have := run_equalIn_rows (P := Tryz.prog) wx 9998 (t := 49) .u8 (membersL st.B st.S) (membersL st.B st.S) Tryz.underlying49 Tryz.underlying42 (by kernel_rfl) (by kernel_rfl) (membersL_len _ _) (membersL_len _ _)
    rw [beq_self_eq_true] at this
    exact this
  have hveq : ∀ wx, (Op.equalIn 10000 37 (.agg (row .u32 st.S)) (.agg (row .u32 st.S))).run Tryz.prog wx = .ok true wx := fun wx => by
    have := run_equalIn_rows (P := Tryz.prog) wx 9998 (t := 37) .u32 st.S st.S Tryz.underlying37 Tryz.underlying35 (by kernel_rfl) (by kernel_rfl) hG.slen hG.slen
    rw [beq_self_eq_true] at this
    exact this
  have HED : Veil (∀ W, Below w.heap.size w W → Calls Tryz.prog 14 #[.pointer (some ⟨D, 0, none⟩)] W fun r w' => ∃ x c, r = .returned (.slice x st.L.length c) ∧ OwnI w' W.heap.size 44 17 (.slice x st.L.length c) (st.L.map Ev.cells) ∧ Below W.heap.size W w') := ⟨fun W hb => by
    obtain ⟨p, q, rfl, rfl, h⟩ := hB.far hb
    refine (dEvents_any base st p W h.d h.g1).mono ?_
    rintro e w' ⟨v, q1, q2, q3⟩
    obtain ⟨x, c, rfl⟩ := q2.isSlice
    rw [List.length_map] at q1 q2
    exact ⟨x, c, q1, q2, q3⟩⟩
  have HER : Calls Tryz.prog 30 #[.pointer (some ⟨Q, 0, none⟩)] w fun r w' => ∃ x c, r = .returned (.slice x st.L.length c) ∧ OwnI w' w.heap.size 44 17 (.slice x st.L.length c) (st.L.map Ev.cells) ∧ Below w.heap.size w w' := by
    obtain ⟨p, q, rfl, rfl, h⟩ := hB
    refine (revents10_any base st q w h.r h.g2).mono ?_
    rintro e w' ⟨v, q1, q2, q3⟩
    obtain ⟨x, c, rfl⟩ := q2.isSlice
    rw [List.length_map] at q1 q2
    exact ⟨x, c, q1, q2, q3⟩
  have HSM : Veil (∀ b1 b2 x1 x2 c1 c2 W, OwnI W b1 44 17 (.slice x1 st.L.length c1) (st.L.map Ev.cells) → OwnI W b2 44 17 (.slice x2 st.L.length c2) (st.L.map Ev.cells) → Calls Tryz.prog 39 #[.slice x1 st.L.length c1, .slice x2 st.L.length c2] W fun e w' => e = .returned (.bool true) ∧ Below W.heap.size W w') := ⟨fun b1 b2 x1 x2 c1 c2 W h1 h2 => same_evD st.L W b1 b2 x1 x2 c1 c2 h1 h2 hlok (by omega)⟩
  have HCV : Veil (∀ w' tx tc, Bytes w' tx tn tc z → (convert 30 9 (.slice tx tn tc)).run Tryz.prog w' = .ok (.string (strOfNums z)) w') := ⟨fun w' tx tc h => conv_bytes h⟩
  have HLT : Veil (∀ n, st.L.length = n → ∀ i (hi : i < st.L.length) W b x c, OwnI W b 44 17 (.slice x n c) (st.L.map Ev.cells) → ∃ g, x = some ⟨g, 0, none⟩ ∧ W.rangeAt g (i * 17) (encF st.L[i].dot)) := ⟨fun n hn i hi W b x c h => by
    subst hn
    obtain ⟨g, rfl, -, hr⟩ := h.at_ i (by rw [List.length_map]; exact hi)
    rw [List.getElem_map] at hr
    have hdp := (ev_parts st.L[i] (hlok _ (List.getElem_mem hi)).past).1
    exact ⟨g, rfl, fun j u hu => hr j u (by
      have hu' : (dotC st.L[i].da st.L[i].ds)[j]? = some u := hu
      rw [← hdp, List.drop_zero, List.getElem?_take] at hu'
      split at hu'
      · exact hu'
      · cases hu')⟩⟩
  generalize membersL st.B st.S = MM at HME hmeq
  generalize row .u8 MM = MR at HME hmeq
  generalize st.S = SV at HVE hveq
  generalize row .u32 SV = SR at HVE hveq
  generalize st.L.map Ev.cells = EL at HED HER HSM HLT
  generalize st.L = L at HFO HED HER HSM HLT hll
  generalize st.F = F at HFO
  obtain ⟨SZ, hSZ⟩ : ∃ q, strOfNums z = q := ⟨_, rfl⟩
  rw [hSZ] at HCV
  obtain ⟨n, hn⟩ : ∃ q, L.length = q := ⟨_, rfl⟩
  have HN := Veil.mk hn
  have hln : n ≤ 512 := by omega
  rw [hn] at HED HER HSM
  replace HLT := Veil.mk (HLT.out n hn)
  have uD := Tryz.underlying40
  clear hB hG hlok hll hz htn hSZ hn
  go_enter Tryz.func13, Tryz.ntmps13
  go_upto_region 2 with (go_at_call 30; refine HER.mono ?_; rintro y W0 ⟨x, c, rfl, ho0, hb0⟩; clear HER)
  go_wp2_with fail
  go_loopw [6] (fun p wr => ∃ i : Nat, p = .int .i64 (i : Nat) ∧ i ≤ n ∧ Below w.heap.size w wr ∧ OwnI wr w.heap.size 44 17 (.slice x n c) EL) (fun p _ => n - (intOf p).toNat)
  case atStart => exact ⟨0, rfl, Nat.zero_le _, hb0, ho0⟩
  case round =>
    obtain ⟨i, rfl, hi, hB, ho⟩ := hrel
    clear hb0 ho0
    by_cases hlt : i < n
    · have hli : (i : Int) < (n : Int) := by omega
      have hli0 : (0 : Int) ≤ (i : Int) := by omega
      have hil : i < L.length := by rw [HN.out]; exact hlt
      obtain ⟨g, rfl, hr⟩ := HLT.out i hil wr _ _ _ ho
      have HF := Veil.mk (HFO.out i hil)
      have HR : Veil (∀ W, Below wr.heap.size wr W → W.rangeAt g (i * 17) (encF L[i].dot)) := ⟨fun W hb => by
        obtain ⟨g', e, q⟩ := HLT.out i hil W _ _ _ (ho.far hb)
        injection e with e
        injection e with e
        subst e
        exact q⟩
      have HST : Veil (∀ W, Below wr.heap.size wr W → Below w.heap.size w W ∧ OwnI W w.heap.size 44 17 (.slice (some ⟨g, 0, none⟩) n c) EL) := ⟨fun W hb => ⟨hB.trans (hb.mono hB.size), ho.far hb⟩⟩
      have iH : (Tryz.prog.info? 40).map (·.size) = some (encF L[i].dot).length := sizeDot
      have hww : IntKind.i64.wrap ((i : Int) + 1) = (i : Int) + 1 := by rw [IntKind.wrap_i64]; omega
      generalize decide (L[i].dot ∈ F) = FB at HF
      generalize encF L[i].dot = DH at HF HR iH hr
      clear hB ho hil hr
      go_upto_region 5 with fail
      have hb0 : Below wr.heap.size wr wr.drew := (Below.refl _ _).drew
      have hf1 := (HF.out _ (HST.out _ hb0).1).1
      refine wp_region_gateT (fun w' => w'.rangeAt g (i * 17) DH) (fun _ => True) 99 (by kernel_rfl) ?_
      have hT : (fun w' : World => w'.rangeAt g (i * 17) DH) wr.drew := HR.out _ hb0
      have hS : (fun _ : World => True) wr.drew := trivial
      refine gh 0 ?_ hT hS ?_ ?_
      rotate_left
      · intro wx hSw; go_split_ands; go_simp; try with_reducible rfl
      simp only [Act.put, gA, gS, gZ, sI, sZ, sS]
      refine gh 1 ?_ hT hS ?_ ?_
      rotate_left
      · intro wx hSw; go_split_ands; go_simp; try with_reducible rfl
      simp only [Act.put, gA, gS, gZ, sI, sZ, sS]
      refine gh 2 ?_ hT hS ?_ ?_
      rotate_left
      · intro wx hSw; go_split_ands; go_simp; try with_reducible rfl
      simp only [Act.put, gA, gS, gZ, sI, sZ, sS]
      refine gh 3 ?_ hT hS ?_ ?_
      rotate_left
      · intro wx hSw; go_split_ands; go_simp; try with_reducible rfl
      simp only [Act.put, gA, gS, gZ, sI, sZ, sS]
      refine gh 4 ?_ hT hS ?_ ?_
      rotate_left
      · intro wx hSw; go_split_ands; go_simp; try with_reducible rfl
      simp only [Act.put, gA, gS, gZ, sI, sZ, sS]
      refine gl 5 20 40 19 g (i * 17) DH (by kernel_rfl) (by kernel_rfl) (by kernel_rfl) (fun _ _ _ h => h) hT hS (by kernel_rfl) (fun _ h => h) uD rfl iH ?_
      simp only [Act.put, gA, gS, gZ, sI, sZ, sS]
      refine gh 7 ?_ hT hS ?_ ?_
      rotate_left
      · intro wx hSw; go_split_ands; go_simp; try with_reducible rfl
      simp only [Act.put, gA, gS, gZ, sI, sZ, sS]
      refine gh 8 ?_ hT hS ?_ ?_
      rotate_left
      · intro wx hSw; go_split_ands; go_simp; try with_reducible rfl
      simp only [Act.put, gA, gS, gZ, sI, sZ, sS]
      refine gh 9 ?_ hT hS ?_ ?_
      rotate_left
      · intro wx hSw; go_split_ands; go_simp; try with_reducible rfl
      simp only [Act.put, gA, gS, gZ, sI, sZ, sS]
      refine gh 10 ?_ hT hS ?_ ?_
      rotate_left
      · intro wx hSw; go_split_ands; go_simp; try with_reducible rfl
      simp only [Act.put, gA, gS, gZ, sI, sZ, sS]
      refine gh 11 ?_ hT hS ?_ ?_
      rotate_left
      · intro wx hSw; go_split_ands; go_simp; try with_reducible rfl
      simp only [Act.put, gA, gS, gZ, sI, sZ, sS]
      refine gl 12 27 40 26 g (i * 17) DH (by kernel_rfl) (by kernel_rfl) (by kernel_rfl) (fun _ _ _ h => h) hT hS (by kernel_rfl) (fun _ h => h) uD rfl iH ?_
      simp only [Act.put, gA, gS, gZ, sI, sZ, sS]
      refine wpAnyT_one (i := 6) rfl (by kernel_rfl) (by kernel_rfl) (fun K hK => ?_)
      refine wpx_call _ _ (by kernel_rfl) (hf1.mono ?_)
      rintro y W1 ⟨rfl, hb1⟩
      refine ⟨_, rfl, ?_⟩
      replace hb1 := hb0.trans (hb1.mono hb0.size)
      have hf2 := (HF.out _ (HST.out _ hb1).1).2
      replace hT : (fun w' : World => w'.rangeAt g (i * 17) DH) W1 := HR.out _ hb1
      replace hS : (fun _ : World => True) W1 := trivial
      clear hf1 hb0
      refine hK.out _ _ hT (fun _ => hS) ?_
      clear hK K
      try simp only [Act.put, gA, gS, gZ, sI, sZ, sS]
      refine wpAnyT_one (i := 13) rfl (by kernel_rfl) (by kernel_rfl) (fun K hK => ?_)
      refine wpx_call _ _ (by kernel_rfl) (hf2.mono ?_)
      rintro y W2 ⟨rfl, hb2⟩
      refine ⟨_, rfl, ?_⟩
      replace hb2 := hb1.trans (hb2.mono hb1.size)
      have hne : (FB != FB) = false := by simp
      replace hT : (fun w' : World => w'.rangeAt g (i * 17) DH) W2 := HR.out _ hb2
      replace hS : (fun _ : World => True) W2 := trivial
      clear hf2 hb1
      refine hK.out _ _ hT (fun _ => hS) ?_
      clear hK K
      try simp only [Act.put, gA, gS, gZ, sI, sZ, sS]
      refine gh 14 (.bool false) hT hS ?_ ?_
      · intro wx hSw; go_split_ands; go_simp
      simp only [Act.put, gA, gS, gZ, sI, sZ, sS]
      refine wpAnyT_done (by kernel_rfl) ?_ _
      have HQ := Veil.mk (HST.out _ hb2)
      clear hT hS hb2 hne
      go_wp2
      go_roundw
      case rel => exact ⟨i + 1, by push_cast; rfl, hlt, HQ.out.1, HQ.out.2⟩
      case measure => simp [intOf]; omega
    · obtain rfl : i = n := by omega
      have hli : ¬ (i : Int) < (i : Int) := by omega
      go_upto_region 7 with fail
      have hb0 : Below wr.heap.size wr wr.drew := (Below.refl _ _).drew
      have HST : Veil (∀ W, Below wr.heap.size wr W → Below w.heap.size w W ∧ OwnI W w.heap.size 44 17 (.slice x i c) EL) := ⟨fun W hb => ⟨hB.trans (hb.mono hB.size), ho.far hb⟩⟩
      clear hB ho HLT HFO
      refine wp_region_gateT (fun _ : World => True) (fun _ => True) 99 (by kernel_rfl) ?_
      have hT : (fun _ : World => True) wr.drew := trivial
      have hS : (fun _ : World => True) wr.drew := trivial
      refine gh 0 ?_ hT hS ?_ ?_
      rotate_left
      · intro wx hSw; go_split_ands; go_simp; try with_reducible rfl
      simp only [Act.put, gA, gS, gZ, sI, sZ, sS]
      refine gh 3 ?_ hT hS ?_ ?_
      rotate_left
      · intro wx hSw; go_split_ands; go_simp; try with_reducible rfl
      simp only [Act.put, gA, gS, gZ, sI, sZ, sS]
      refine wpAnyT_one (i := 1) rfl (by kernel_rfl) (by kernel_rfl) (fun K hK => ?_)
      refine wpx_call _ _ (by kernel_rfl) ((HT1.out _ (HST.out _ hb0).1).mono ?_)
      rintro y U1 ⟨tx, tc, rfl, hz1, hb1⟩
      refine ⟨_, rfl, ?_⟩
      have HZ1 := Veil.mk hz1
      replace hb1 := hb0.trans (hb1.mono hb0.size)
      replace hT : (fun _ : World => True) U1 := trivial
      replace hS : (fun _ : World => True) U1 := trivial
      clear hz1 hb0
      refine hK.out _ _ hT (fun _ => hS) ?_
      clear hK K
      try simp only [Act.put, gA, gS, gZ, sI, sZ, sS]
      refine wpAnyT_more (T' := fun w' : World => (convert 30 9 (.slice tx tn tc)).run Tryz.prog w' = .ok (.string SZ) w') (fun _ _ => trivial) _ _ _ _ ?_
      replace hT : (fun w' : World => (convert 30 9 (.slice tx tn tc)).run Tryz.prog w' = .ok (.string SZ) w') U1 := HCV.out _ _ _ HZ1.out
      refine gh 2 ?_ hT hS ?_ ?_
      rotate_left
      · intro wx hSw; go_split_ands; go_simp; try with_reducible rfl
      simp only [Act.put, gA, gS, gZ, sI, sZ, sS]
      refine wpAnyT_one (i := 4) rfl (by kernel_rfl) (by kernel_rfl) (fun K hK => ?_)
      refine wpx_call _ _ (by kernel_rfl) ((HT2.out _ (HST.out _ hb1).1).mono ?_)
      rintro y U2 ⟨tx2, tc2, rfl, hz2, hb2⟩
      refine ⟨_, rfl, ?_⟩
      have HZ2 := Veil.mk (And.intro (HZ1.out.below hb2) hz2)
      replace hb2 := hb1.trans (hb2.mono hb1.size)
      replace hT : (fun w' : World => (convert 30 9 (.slice tx tn tc)).run Tryz.prog w' = .ok (.string SZ) w') U2 := HCV.out _ _ _ HZ2.out.1
      replace hS : (fun _ : World => True) U2 := trivial
      clear hz2 HZ1 hb1
      refine hK.out _ _ hT (fun _ => hS) ?_
      clear hK K
      try simp only [Act.put, gA, gS, gZ, sI, sZ, sS]
      refine wpAnyT_more (T' := fun w' : World => (convert 30 9 (.slice tx tn tc)).run Tryz.prog w' = .ok (.string SZ) w' ∧ (convert 30 9 (.slice tx2 tn tc2)).run Tryz.prog w' = .ok (.string SZ) w') (fun _ h => h.1) _ _ _ _ ?_
      replace hT : (fun w' : World => (convert 30 9 (.slice tx tn tc)).run Tryz.prog w' = .ok (.string SZ) w' ∧ (convert 30 9 (.slice tx2 tn tc2)).run Tryz.prog w' = .ok (.string SZ) w') U2 := ⟨HCV.out _ _ _ HZ2.out.1, HCV.out _ _ _ HZ2.out.2⟩
      refine gh 5 ?_ hT hS ?_ ?_
      rotate_left
      · intro wx hSw; go_split_ands; go_simp; try with_reducible rfl
      simp only [Act.put, gA, gS, gZ, sI, sZ, sS]
      refine gh 6 (.bool true) hT hS ?_ ?_
      · intro wx hSw; go_split_ands; go_simp
      simp only [Act.put, gA, gS, gZ, sI, sZ, sS]
      refine gh 7 ?_ hT hS ?_ ?_
      rotate_left
      · intro wx hSw; go_split_ands; go_simp; try with_reducible rfl
      simp only [Act.put, gA, gS, gZ, sI, sZ, sS]
      refine gh 8 ?_ hT hS ?_ ?_
      rotate_left
      · intro wx hSw; go_split_ands; go_simp; try with_reducible rfl
      simp only [Act.put, gA, gS, gZ, sI, sZ, sS]
      refine gh 10 ?_ hT hS ?_ ?_
      rotate_left
      · intro wx hSw; go_split_ands; go_simp; try with_reducible rfl
      simp only [Act.put, gA, gS, gZ, sI, sZ, sS]
      refine wpAnyT_one (i := 9) rfl (by kernel_rfl) (by kernel_rfl) (fun K hK => ?_)
      refine wpx_call _ _ (by kernel_rfl) (((HME.out _ (HST.out _ hb2).1).1).mono ?_)
      rintro y U3 ⟨rfl, hb3⟩
      refine ⟨_, rfl, ?_⟩
      have HZ3 := Veil.mk (And.intro (HZ2.out.1.below hb3) (HZ2.out.2.below hb3))
      replace hb3 := hb2.trans (hb3.mono hb2.size)
      replace hT : (fun w' : World => (convert 30 9 (.slice tx tn tc)).run Tryz.prog w' = .ok (.string SZ) w' ∧ (convert 30 9 (.slice tx2 tn tc2)).run Tryz.prog w' = .ok (.string SZ) w') U3 := ⟨HCV.out _ _ _ HZ3.out.1, HCV.out _ _ _ HZ3.out.2⟩
      replace hS : (fun _ : World => True) U3 := trivial
      clear HZ2 hb2
      refine hK.out _ _ hT (fun _ => hS) ?_
      clear hK K
      try simp only [Act.put, gA, gS, gZ, sI, sZ, sS]
      refine wpAnyT_one (i := 11) rfl (by kernel_rfl) (by kernel_rfl) (fun K hK => ?_)
      refine wpx_call _ _ (by kernel_rfl) (((HME.out _ (HST.out _ hb3).1).2).mono ?_)
      rintro y U4 ⟨rfl, hb4⟩
      refine ⟨_, rfl, ?_⟩
      have HZ4 := Veil.mk (And.intro (HZ3.out.1.below hb4) (HZ3.out.2.below hb4))
      replace hb4 := hb3.trans (hb4.mono hb3.size)
      replace hT : (fun w' : World => (convert 30 9 (.slice tx tn tc)).run Tryz.prog w' = .ok (.string SZ) w' ∧ (convert 30 9 (.slice tx2 tn tc2)).run Tryz.prog w' = .ok (.string SZ) w') U4 := ⟨HCV.out _ _ _ HZ4.out.1, HCV.out _ _ _ HZ4.out.2⟩
      replace hS : (fun _ : World => True) U4 := trivial
      clear HZ3 hb3
      refine hK.out _ _ hT (fun _ => hS) ?_
      clear hK K
      try simp only [Act.put, gA, gS, gZ, sI, sZ, sS]
      refine gh 12 (.bool true) hT hS ?_ ?_
      · intro wx hSw; go_split_ands; go_simp
      simp only [Act.put, gA, gS, gZ, sI, sZ, sS]
      refine gh 13 ?_ hT hS ?_ ?_
      rotate_left
      · intro wx hSw; go_split_ands; go_simp; try with_reducible rfl
      simp only [Act.put, gA, gS, gZ, sI, sZ, sS]
      refine gh 14 ?_ hT hS ?_ ?_
      rotate_left
      · intro wx hSw; go_split_ands; go_simp; try with_reducible rfl
      simp only [Act.put, gA, gS, gZ, sI, sZ, sS]
      refine gh 15 ?_ hT hS ?_ ?_
      rotate_left
      · intro wx hSw; go_split_ands; go_simp; try with_reducible rfl
      simp only [Act.put, gA, gS, gZ, sI, sZ, sS]
      refine gh 17 ?_ hT hS ?_ ?_
      rotate_left
      · intro wx hSw; go_split_ands; go_simp; try with_reducible rfl
      simp only [Act.put, gA, gS, gZ, sI, sZ, sS]
      refine wpAnyT_one (i := 16) rfl (by kernel_rfl) (by kernel_rfl) (fun K hK => ?_)
      refine wpx_call _ _ (by kernel_rfl) (((HVE.out _ (HST.out _ hb4).1).1).mono ?_)
      rintro y U5 ⟨rfl, hb5⟩
      refine ⟨_, rfl, ?_⟩
      have HZ5 := Veil.mk (And.intro (HZ4.out.1.below hb5) (HZ4.out.2.below hb5))
      replace hb5 := hb4.trans (hb5.mono hb4.size)
      replace hT : (fun w' : World => (convert 30 9 (.slice tx tn tc)).run Tryz.prog w' = .ok (.string SZ) w' ∧ (convert 30 9 (.slice tx2 tn tc2)).run Tryz.prog w' = .ok (.string SZ) w') U5 := ⟨HCV.out _ _ _ HZ5.out.1, HCV.out _ _ _ HZ5.out.2⟩
      replace hS : (fun _ : World => True) U5 := trivial
      clear HZ4 hb4
      refine hK.out _ _ hT (fun _ => hS) ?_
      clear hK K
      try simp only [Act.put, gA, gS, gZ, sI, sZ, sS]
      refine wpAnyT_one (i := 18) rfl (by kernel_rfl) (by kernel_rfl) (fun K hK => ?_)
      refine wpx_call _ _ (by kernel_rfl) (((HVE.out _ (HST.out _ hb5).1).2).mono ?_)
      rintro y U6 ⟨rfl, hb6⟩
      refine ⟨_, rfl, ?_⟩
      have HZ6 := Veil.mk (And.intro (HZ5.out.1.below hb6) (HZ5.out.2.below hb6))
      replace hb6 := hb5.trans (hb6.mono hb5.size)
      replace hT : (fun w' : World => (convert 30 9 (.slice tx tn tc)).run Tryz.prog w' = .ok (.string SZ) w' ∧ (convert 30 9 (.slice tx2 tn tc2)).run Tryz.prog w' = .ok (.string SZ) w') U6 := ⟨HCV.out _ _ _ HZ6.out.1, HCV.out _ _ _ HZ6.out.2⟩
      replace hS : (fun _ : World => True) U6 := trivial
      clear HZ5 hb5
      refine hK.out _ _ hT (fun _ => hS) ?_
      clear hK K
      try simp only [Act.put, gA, gS, gZ, sI, sZ, sS]
      refine gh 19 (.bool true) hT hS ?_ ?_
      · intro wx hSw; go_split_ands; go_simp
      simp only [Act.put, gA, gS, gZ, sI, sZ, sS]
      refine gh 20 ?_ hT hS ?_ ?_
      rotate_left
      · intro wx hSw; go_split_ands; go_simp; try with_reducible rfl
      simp only [Act.put, gA, gS, gZ, sI, sZ, sS]
      refine gh 21 ?_ hT hS ?_ ?_
      rotate_left
      · intro wx hSw; go_split_ands; go_simp; try with_reducible rfl
      simp only [Act.put, gA, gS, gZ, sI, sZ, sS]
      refine gh 22 ?_ hT hS ?_ ?_
      rotate_left
      · intro wx hSw; go_split_ands; go_simp; try with_reducible rfl
      simp only [Act.put, gA, gS, gZ, sI, sZ, sS]
      refine gh 24 ?_ hT hS ?_ ?_
      rotate_left
      · intro wx hSw; go_split_ands; go_simp; try with_reducible rfl
      simp only [Act.put, gA, gS, gZ, sI, sZ, sS]
      refine wpAnyT_one (i := 23) rfl (by kernel_rfl) (by kernel_rfl) (fun K hK => ?_)
      refine wpx_call _ _ (by kernel_rfl) ((HED.out _ (HST.out _ hb6).1).mono ?_)
      rintro y U7 ⟨x7, c7, rfl, ho7, hb7⟩
      refine ⟨_, rfl, ?_⟩
      have HO7 := Veil.mk ho7
      clear ho7
      have HZ7 := Veil.mk (And.intro (HZ6.out.1.below hb7) (HZ6.out.2.below hb7))
      replace hb7 := hb6.trans (hb7.mono hb6.size)
      replace hT : (fun w' : World => (convert 30 9 (.slice tx tn tc)).run Tryz.prog w' = .ok (.string SZ) w' ∧ (convert 30 9 (.slice tx2 tn tc2)).run Tryz.prog w' = .ok (.string SZ) w') U7 := ⟨HCV.out _ _ _ HZ7.out.1, HCV.out _ _ _ HZ7.out.2⟩
      replace hS : (fun _ : World => True) U7 := trivial
      clear HZ6 hb6
      refine hK.out _ _ hT (fun _ => hS) ?_
      clear hK K
      try simp only [Act.put, gA, gS, gZ, sI, sZ, sS]
      refine wpAnyT_one (i := 25) rfl (by kernel_rfl) (by kernel_rfl) (fun K hK => ?_)
      refine wpx_call _ _ (by kernel_rfl) ((HSM.out _ _ _ _ _ _ _ HO7.out (HST.out _ hb7).2).mono ?_)
      rintro y U8 ⟨rfl, hb8⟩
      refine ⟨_, rfl, ?_⟩
      have HZ8 := Veil.mk (And.intro (HZ7.out.1.below hb8) (HZ7.out.2.below hb8))
      replace hb8 := hb7.trans (hb8.mono hb7.size)
      replace hT : (fun w' : World => (convert 30 9 (.slice tx tn tc)).run Tryz.prog w' = .ok (.string SZ) w' ∧ (convert 30 9 (.slice tx2 tn tc2)).run Tryz.prog w' = .ok (.string SZ) w') U8 := ⟨HCV.out _ _ _ HZ8.out.1, HCV.out _ _ _ HZ8.out.2⟩
      replace hS : (fun _ : World => True) U8 := trivial
      clear HZ7 hb7
      refine hK.out _ _ hT (fun _ => hS) ?_
      clear hK K
      try simp only [Act.put, gA, gS, gZ, sI, sZ, sS]
      refine gh 26 ?_ hT hS ?_ ?_
      rotate_left
      · intro wx hSw; go_split_ands; go_simp; try with_reducible rfl
      simp only [Act.put, gA, gS, gZ, sI, sZ, sS]
      refine gh 27 ?_ hT hS ?_ ?_
      rotate_left
      · intro wx hSw; go_split_ands; go_simp; try with_reducible rfl
      simp only [Act.put, gA, gS, gZ, sI, sZ, sS]
      refine wpAnyT_done (by kernel_rfl) ?_ _
      have HQ := Veil.mk (HST.out _ hb8).1
      clear hT hS hb8
      go_wp2
      go_ret
      exact ⟨rfl, HQ.out⟩
end Go.Proofs.YtmbdohnmbkpfaaaGreat
