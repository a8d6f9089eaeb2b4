/- CausalAny, walked. -/
import Derived.Test.YtmoabomoodddkaaCfl
import Derived.Test.YtmoabomoodddkaaSm
import Derived.Test.YtmoabomoodddkaaGoC
import Derived.Test.YtmoabomoodddkaaCausalOrderW
namespace Go.Proofs.Ytmoabomoodddkaa
open Go.RowKit Go.Shelf
set_option maxRecDepth 20000
set_option linter.unusedSimpArgs false
theorem EvsAt.cut {w : World} {x : Option Addr} {len cap : Nat} {ds : List Ev} (h : EvsAt w x len cap ds) (n : Nat) (hn : n ≤ len) : EvsAt w x n cap (ds.take n) := by
  have hl := h.len_eq
  refine ⟨by rw [List.length_take]; omega, by have := h.le; omega, h.top, ?_, fun d hd => h.ok d (List.mem_of_mem_take hd)⟩
  rcases h.at_ with h0 | ⟨b, off, hx, hc⟩
  · left; omega
  · right
    refine ⟨b, off, hx, fun j hj i v hv => hc j (by rw [List.length_take] at hj; omega) i v ?_⟩
    rw [List.getElem_take] at hv; exact hv
theorem BufC.turn {w w' : World} {H b H' b' : Nat} {S : List Int} {L : List Ev} (h : BufC w H b S L) (hT : Turn (fun k => k = b' ∨ k = H') w w') (h1 : H ≠ H') (h2 : H ≠ b') (h3 : b ≠ H') (h4 : b ≠ b') : BufC w' H b S L :=
  h.congr (hT.block H h.cells.lt (fun q => q.elim h2 h1)) (hT.block b h.wait.lt (fun q => q.elim h4 h3))
set_option maxHeartbeats 16000000 in
theorem can_walk (x : Option Addr) (len cap : Nat) (ds : List Ev) (w : World) (hd : EvsAt w x len cap ds) :
    Calls Try.prog 8 #[.slice x len cap] w fun e w' => e = .returned (.bool true) ∧ Below w.heap.size w w' := by
  have uE := Try.underlying37
  have uV := Try.underlying24
  have hcase : (∃ n : Nat, n = 16 ∧ 16 < len) ∨ (∃ n : Nat, n = len ∧ ¬ 16 < len) := by
    by_cases h : 16 < len
    · exact .inl ⟨_, rfl, h⟩
    · exact .inr ⟨_, rfl, h⟩
  go_enter Try.func8, Try.ntmps8
  rcases hcase with ⟨n, hn, h16⟩ | ⟨n, hn, h16⟩
  · have h16i : (16 : Int) < (len : Int) := by omega
    have hle := hd.le
    have hci : (16 : Int) ≤ (cap : Int) := by omega
    go_upto_region 3 with fail
    rw [show Value.slice x 16 cap = Value.slice x n cap by rw [hn]]
    have HD : Veil (∃ ls, n ≤ 16 ∧ EvsAt w x n cap ls) := ⟨_, by omega, hd.cut n (by omega)⟩
    clear hd hn h16 h16i hle hci
    obtain ⟨ls, hn16, hd⟩ := HD.out
    clear HD
    have hdl := hd.len_eq
    have HDL := Veil.mk hdl
    clear hdl
    go_wp2_with (first
      | (go_at_call 27; refine (new_any w1).mono ?_; rintro e w2 ⟨Hb, bb, rfl, hCb, hBb, hbb, hHb⟩)
      | (go_at_call 27; refine (new_any w).mono ?_; rintro e w1 ⟨Ha, ba, rfl, hCa, hBa, hba, hHa⟩))
    have hd1 : Ha < w1.heap.size := hCa.cells.lt
    have hd2 : ba < w1.heap.size := hCa.wait.lt
    have hCa2 := hCa.far hBb
    have hBw := hBa.trans (hBb.mono hBa.size)
    have hw1s := hBa.size
    clear hCa hBa hBb
    go_loopw [5] (fun p wr => ∃ k : Nat, k ≤ n ∧ p = .int .i64 (k : Nat) ∧ ∃ S L T M, BufC wr Ha ba S L ∧ Good k S L ∧ BufC wr Hb bb T M ∧ Good k T M ∧ Inv (fun e => e ∈ ls.take k) S L ∧ Inv (fun e => e ∈ ls.drop (n - k)) T M ∧ Below w.heap.size w wr) (fun p _ => n - (intOf p).toNat)
    case atStart =>
      refine ⟨0, Nat.zero_le _, rfl, _, _, _, _, hCa2, Good.zero, hCb, Good.zero, Inv.zero.of_iff fun e => by simp, Inv.zero.of_iff fun e => ?_, hBw⟩
      rw [List.drop_of_length_le (by have := HDL.out; omega)]; simp
    case round =>
      obtain ⟨k, hk, rfl, S, L, T, M, hCS, hGS, hCT, hGT, hIS, hIT, hB⟩ := hrel
      clear hCa2 hCb hBw
      by_cases hkn : k < n
      · have hki : (k : Int) < (n : Int) := by omega
        have hkd : k < ls.length := by have := HDL.out; omega
        have hmd : n - 1 - k < ls.length := by have := HDL.out; omega
        obtain ⟨eb, off, rfl, hre⟩ := (hd.below hB).rng k hkd
        have hrf0 := hd.rng (n - 1 - k) hmd
        obtain ⟨eb2, off2, hx2, hrf⟩ := hrf0
        obtain ⟨rfl, rfl⟩ : eb = eb2 ∧ off = off2 := by cases hx2; exact ⟨rfl, rfl⟩
        clear hx2
        have hok := hd.ok ls[k] (List.getElem_mem hkd)
        have hokf := hd.ok ls[n - 1 - k] (List.getElem_mem hmd)
        have HQ1 : Veil (∀ e, (e ∈ ls.take k ∨ e = ls[k]) ↔ e ∈ ls.take (k + 1)) := ⟨fun e => by rw [List.take_succ_eq_append_getElem hkd, List.mem_append, List.mem_singleton]⟩
        have HQ2 : Veil (∀ e, (e ∈ ls.drop (n - k) ∨ e = ls[n - 1 - k]) ↔ e ∈ ls.drop (n - (k + 1))) := ⟨fun e => by
          rw [show n - (k + 1) = n - 1 - k by omega, List.drop_eq_getElem_cons hmd, show n - 1 - k + 1 = n - k by omega, List.mem_cons]
          exact Or.comm⟩
        have hput := put_any k Ha ba S L ls[k] wr hCS hGS hok (by omega)
        have iE : (Try.prog.info? 37).map (·.size) = some ls[k].cells.length := by rw [ev_len _ hok.past]; kernel_rfl
        have iF : (Try.prog.info? 37).map (·.size) = some ls[n - 1 - k].cells.length := by rw [ev_len _ hokf.past]; kernel_rfl
        have hwA : IntKind.i64.wrap ((n : Int) - 1) = (n : Int) - 1 := by rw [IntKind.wrap_i64]; omega
        have hwB : IntKind.i64.wrap ((n : Int) - 1 - (k : Int)) = ((n - 1 - k : Nat) : Int) := by rw [IntKind.wrap_i64]; omega
        have hw1 : IntKind.i64.wrap ((k : Int) + 1) = (k : Int) + 1 := by rw [IntKind.wrap_i64]; omega
        have hmi : ((n - 1 - k : Nat) : Int) < (n : Int) := by omega
        have hmn : n - 1 - k < n := by omega
        have HPB : Veil (∀ W1, Turn (fun q => q = ba ∨ q = Ha) wr W1 → BufC W1 Hb bb T M) := ⟨fun W1 hT => hCT.turn hT (by omega) (by omega) (by omega) (by omega)⟩
        generalize ls[k] = ek at hre hput iE hok HQ1
        generalize ls[n - 1 - k] = fk at hrf iF hokf HQ2
        generalize n - 1 - k = m at hrf hwB hmi hmn
        obtain ⟨RA, hRA⟩ : ∃ r, refN S L ek = r := ⟨_, rfl⟩
        obtain ⟨RB, hRB⟩ : ∃ r, refN T M fk = r := ⟨_, rfl⟩
        rw [hRA] at hput
        have HOK := Veil.mk hok
        have HOKF := Veil.mk hokf
        have HRA := Veil.mk hRA
        have HRB := Veil.mk hRB
        obtain ⟨E, hE⟩ : ∃ E, ek.cells = E := ⟨_, rfl⟩
        obtain ⟨F, hF⟩ : ∃ F, fk.cells = F := ⟨_, rfl⟩
        rw [hE] at hre hput iE
        rw [hF] at hrf iF
        have HF := Veil.mk hF
        clear hE hF hok hokf hRA hRB hmd hkd
        go_upto_region 8 with (first
          | (refine wpList_ldv rfl 37 _ rfl eb (off + k * 17) rfl E hre uE rfl iE ?_)
          | (go_at_call 28; refine hput.mono ?_; rintro e W1 ⟨y, c, xs, S2, L2, rfl, hP, hG2, hxo, hC2, hO, hT⟩))
        have hB1 : Below w.heap.size w W1 := hB.trans (hT.below hB.size (fun q hq => by rcases hq with rfl | rfl <;> assumption))
        have hputB := put_any k Hb bb T M fk W1 (HPB.out W1 hT) hGT HOKF.out (by omega)
        rw [HF.out, HRB.out] at hputB
        have hrf1 : W1.rangeAt eb (off + m * 17) F := fun i v hv => (hB1.cell (block_lt_of_cell (hrf i v hv))).trans (hrf i v hv)
        clear hput hre hrf hT hO HPB hCS hCT
        go_upto_region 9 with (first
          | (refine wpList_ldv rfl 37 _ rfl eb (off + m * 17) rfl F hrf1 uE rfl iF ?_)
          | (go_at_call 28; refine hputB.mono ?_; rintro e W2 ⟨y2, c2, xs2, T2, M2, rfl, hP2, hG3, hxo2, hC3, hO2, hT2⟩))
        have hB2 : Below w.heap.size w W2 := hB1.trans (hT2.below hB1.size (fun q hq => by rcases hq with rfl | rfl <;> omega))
        have hC4 : BufC W2 Ha ba S2 L2 := hC2.turn hT2 (by omega) (by omega) (by omega) (by omega)
        clear hputB hrf1 hT2 hO2
        by_cases hA : RA = 0
        · by_cases hBz : RB = 0
          · subst hA hBz
            go_wp2
            go_roundw
            case rel => exact ⟨k + 1, hkn, by push_cast; rfl, S2, L2, T2, M2, hC4, hG2, hC3, hG3, (hP.inv hIS HOK.out HRA.out).of_iff HQ1.out, (hP2.inv hIT HOKF.out HRB.out).of_iff HQ2.out, hB2⟩
            case measure => simp [intOf]; omega
          · subst hA
            have hz2 : (RB == 0) = false := by simpa using hBz
            go_wp2_with (go_at_call 12; refine (clive_any _).mono ?_; rintro e W4 ⟨rfl, hb4⟩)
            go_ret
            exact ⟨rfl, hB2.trans (hb4.mono hB2.size)⟩
        · have hz2 : (RA == 0) = false := by simpa using hA
          go_wp2_with (go_at_call 12; refine (clive_any _).mono ?_; rintro e W4 ⟨rfl, hb4⟩)
          go_ret
          exact ⟨rfl, hB2.trans (hb4.mono hB2.size)⟩
      · have hki : ¬ (k : Int) < (n : Int) := by omega
        obtain rfl : k = n := by omega
        obtain ⟨rfl, rfl⟩ := conf hIS hIT (fun e => by rw [Nat.sub_self, List.drop_zero, List.take_of_length_le (by have := HDL.out; omega)]) hGS hGT
        have heq : ∀ wx, (binOp .eql 24 (.agg (S.map (Value.int .u32)).toArray) (.agg (S.map (Value.int .u32)).toArray)).run Try.prog wx = .ok (.bool true) wx := fun wx => by rw [vec_eql _ _ hGS.len hGS.len, beq_self_eq_true]
        have hlv := clive_any wr
        have hs1 : ∀ W, Below wr.heap.size wr W → _ := fun W hq => seen_any Ha ba S L W (hCS.far hq)
        have hs2 : ∀ W, Below wr.heap.size wr W → _ := fun W hq => seen_any Hb bb S L W (hCT.far hq)
        have ht1 : ∀ W, Below wr.heap.size wr W → _ := fun W hq => waiting_any Ha ba S L W (hCS.far hq) hGS.few
        have ht2 : ∀ W, Below wr.heap.size wr W → _ := fun W hq => waiting_any Hb bb S L W (hCT.far hq) hGS.few
        have HSM : Veil (∀ W B1 B2 x1 x2 c1 c2, OwnI W B1 37 17 (.slice x1 L.length c1) (L.map Ev.cells) → OwnI W B2 37 17 (.slice x2 L.length c2) (L.map Ev.cells) → _) := ⟨fun W B1 B2 x1 x2 c1 c2 q1 q2 => same_ev L W B1 B2 x1 x2 c1 c2 q1 q2 hGS.ok (by have := hGS.few; omega)⟩
        obtain ⟨SV, hSV⟩ : ∃ SV, S.map (Value.int .u32) = SV := ⟨_, rfl⟩
        simp only [hSV] at heq hs1 hs2
        clear hCS hCT hIS hIT hd hSV
        go_wp2_with (first
          | (go_at_call 12; refine hlv.mono ?_; rintro e V1 ⟨rfl, g1⟩)
          | (go_at_call 29; refine (hs2 V2 g2).mono ?_; rintro e V3 ⟨rfl, g3⟩; replace g3 := g2.trans (g3.mono g2.size))
          | (go_at_call 29; refine (hs1 V1 g1).mono ?_; rintro e V2 ⟨rfl, g2⟩; replace g2 := g1.trans (g2.mono g1.size))
          | (go_at_call 30; refine (ht2 V4 g4).mono ?_; rintro e V5 ⟨v5, rfl, hO5, g5⟩; obtain ⟨y5, c5, rfl⟩ := hO5.isSlice; rw [List.length_map] at hO5 ⊢; have hO4' := hO4.far g5; replace g5 := g4.trans (g5.mono g4.size))
          | (go_at_call 30; refine (ht1 V3 g3).mono ?_; rintro e V4 ⟨v4, rfl, hO4, g4⟩; obtain ⟨y4, c4, rfl⟩ := hO4.isSlice; rw [List.length_map] at hO4 ⊢; replace g4 := g3.trans (g4.mono g3.size))
          | (go_at_call 31; refine (HSM.out V5 _ _ _ _ _ _ hO4' hO5).mono ?_; rintro e V6 ⟨rfl, g6⟩))
        go_ret
        have g7 := g5.trans (g6.mono g5.size)
        exact ⟨rfl, hB.trans (g7.mono hB.size)⟩
  · have h16i : ¬ (16 : Int) < (len : Int) := by omega
    go_upto_region 3 with fail
    have HD : Veil (∃ ls, n ≤ 16 ∧ EvsAt w x n cap ls) := ⟨_, by omega, by rw [hn]; exact hd⟩
    rw [← hn]
    clear hd hn h16 h16i
    obtain ⟨ls, hn16, hd⟩ := HD.out
    clear HD
    have hdl := hd.len_eq
    have HDL := Veil.mk hdl
    clear hdl
    go_wp2_with (first
      | (go_at_call 27; refine (new_any w1).mono ?_; rintro e w2 ⟨Hb, bb, rfl, hCb, hBb, hbb, hHb⟩)
      | (go_at_call 27; refine (new_any w).mono ?_; rintro e w1 ⟨Ha, ba, rfl, hCa, hBa, hba, hHa⟩))
    have hd1 : Ha < w1.heap.size := hCa.cells.lt
    have hd2 : ba < w1.heap.size := hCa.wait.lt
    have hCa2 := hCa.far hBb
    have hBw := hBa.trans (hBb.mono hBa.size)
    have hw1s := hBa.size
    clear hCa hBa hBb
    go_loopw [5] (fun p wr => ∃ k : Nat, k ≤ n ∧ p = .int .i64 (k : Nat) ∧ ∃ S L T M, BufC wr Ha ba S L ∧ Good k S L ∧ BufC wr Hb bb T M ∧ Good k T M ∧ Inv (fun e => e ∈ ls.take k) S L ∧ Inv (fun e => e ∈ ls.drop (n - k)) T M ∧ Below w.heap.size w wr) (fun p _ => n - (intOf p).toNat)
    case atStart =>
      refine ⟨0, Nat.zero_le _, rfl, _, _, _, _, hCa2, Good.zero, hCb, Good.zero, Inv.zero.of_iff fun e => by simp, Inv.zero.of_iff fun e => ?_, hBw⟩
      rw [List.drop_of_length_le (by have := HDL.out; omega)]; simp
    case round =>
      obtain ⟨k, hk, rfl, S, L, T, M, hCS, hGS, hCT, hGT, hIS, hIT, hB⟩ := hrel
      clear hCa2 hCb hBw
      by_cases hkn : k < n
      · have hki : (k : Int) < (n : Int) := by omega
        have hkd : k < ls.length := by have := HDL.out; omega
        have hmd : n - 1 - k < ls.length := by have := HDL.out; omega
        obtain ⟨eb, off, rfl, hre⟩ := (hd.below hB).rng k hkd
        have hrf0 := hd.rng (n - 1 - k) hmd
        obtain ⟨eb2, off2, hx2, hrf⟩ := hrf0
        obtain ⟨rfl, rfl⟩ : eb = eb2 ∧ off = off2 := by cases hx2; exact ⟨rfl, rfl⟩
        clear hx2
        have hok := hd.ok ls[k] (List.getElem_mem hkd)
        have hokf := hd.ok ls[n - 1 - k] (List.getElem_mem hmd)
        have HQ1 : Veil (∀ e, (e ∈ ls.take k ∨ e = ls[k]) ↔ e ∈ ls.take (k + 1)) := ⟨fun e => by rw [List.take_succ_eq_append_getElem hkd, List.mem_append, List.mem_singleton]⟩
        have HQ2 : Veil (∀ e, (e ∈ ls.drop (n - k) ∨ e = ls[n - 1 - k]) ↔ e ∈ ls.drop (n - (k + 1))) := ⟨fun e => by
          rw [show n - (k + 1) = n - 1 - k by omega, List.drop_eq_getElem_cons hmd, show n - 1 - k + 1 = n - k by omega, List.mem_cons]
          exact Or.comm⟩
        have hput := put_any k Ha ba S L ls[k] wr hCS hGS hok (by omega)
        have iE : (Try.prog.info? 37).map (·.size) = some ls[k].cells.length := by rw [ev_len _ hok.past]; kernel_rfl
        have iF : (Try.prog.info? 37).map (·.size) = some ls[n - 1 - k].cells.length := by rw [ev_len _ hokf.past]; kernel_rfl
        have hwA : IntKind.i64.wrap ((n : Int) - 1) = (n : Int) - 1 := by rw [IntKind.wrap_i64]; omega
        have hwB : IntKind.i64.wrap ((n : Int) - 1 - (k : Int)) = ((n - 1 - k : Nat) : Int) := by rw [IntKind.wrap_i64]; omega
        have hw1 : IntKind.i64.wrap ((k : Int) + 1) = (k : Int) + 1 := by rw [IntKind.wrap_i64]; omega
        have hmi : ((n - 1 - k : Nat) : Int) < (n : Int) := by omega
        have hmn : n - 1 - k < n := by omega
        have HPB : Veil (∀ W1, Turn (fun q => q = ba ∨ q = Ha) wr W1 → BufC W1 Hb bb T M) := ⟨fun W1 hT => hCT.turn hT (by omega) (by omega) (by omega) (by omega)⟩
        generalize ls[k] = ek at hre hput iE hok HQ1
        generalize ls[n - 1 - k] = fk at hrf iF hokf HQ2
        generalize n - 1 - k = m at hrf hwB hmi hmn
        obtain ⟨RA, hRA⟩ : ∃ r, refN S L ek = r := ⟨_, rfl⟩
        obtain ⟨RB, hRB⟩ : ∃ r, refN T M fk = r := ⟨_, rfl⟩
        rw [hRA] at hput
        have HOK := Veil.mk hok
        have HOKF := Veil.mk hokf
        have HRA := Veil.mk hRA
        have HRB := Veil.mk hRB
        obtain ⟨E, hE⟩ : ∃ E, ek.cells = E := ⟨_, rfl⟩
        obtain ⟨F, hF⟩ : ∃ F, fk.cells = F := ⟨_, rfl⟩
        rw [hE] at hre hput iE
        rw [hF] at hrf iF
        have HF := Veil.mk hF
        clear hE hF hok hokf hRA hRB hmd hkd
        go_upto_region 8 with (first
          | (refine wpList_ldv rfl 37 _ rfl eb (off + k * 17) rfl E hre uE rfl iE ?_)
          | (go_at_call 28; refine hput.mono ?_; rintro e W1 ⟨y, c, xs, S2, L2, rfl, hP, hG2, hxo, hC2, hO, hT⟩))
        have hB1 : Below w.heap.size w W1 := hB.trans (hT.below hB.size (fun q hq => by rcases hq with rfl | rfl <;> assumption))
        have hputB := put_any k Hb bb T M fk W1 (HPB.out W1 hT) hGT HOKF.out (by omega)
        rw [HF.out, HRB.out] at hputB
        have hrf1 : W1.rangeAt eb (off + m * 17) F := fun i v hv => (hB1.cell (block_lt_of_cell (hrf i v hv))).trans (hrf i v hv)
        clear hput hre hrf hT hO HPB hCS hCT
        go_upto_region 9 with (first
          | (refine wpList_ldv rfl 37 _ rfl eb (off + m * 17) rfl F hrf1 uE rfl iF ?_)
          | (go_at_call 28; refine hputB.mono ?_; rintro e W2 ⟨y2, c2, xs2, T2, M2, rfl, hP2, hG3, hxo2, hC3, hO2, hT2⟩))
        have hB2 : Below w.heap.size w W2 := hB1.trans (hT2.below hB1.size (fun q hq => by rcases hq with rfl | rfl <;> omega))
        have hC4 : BufC W2 Ha ba S2 L2 := hC2.turn hT2 (by omega) (by omega) (by omega) (by omega)
        clear hputB hrf1 hT2 hO2
        by_cases hA : RA = 0
        · by_cases hBz : RB = 0
          · subst hA hBz
            go_wp2
            go_roundw
            case rel => exact ⟨k + 1, hkn, by push_cast; rfl, S2, L2, T2, M2, hC4, hG2, hC3, hG3, (hP.inv hIS HOK.out HRA.out).of_iff HQ1.out, (hP2.inv hIT HOKF.out HRB.out).of_iff HQ2.out, hB2⟩
            case measure => simp [intOf]; omega
          · subst hA
            have hz2 : (RB == 0) = false := by simpa using hBz
            go_wp2_with (go_at_call 12; refine (clive_any _).mono ?_; rintro e W4 ⟨rfl, hb4⟩)
            go_ret
            exact ⟨rfl, hB2.trans (hb4.mono hB2.size)⟩
        · have hz2 : (RA == 0) = false := by simpa using hA
          go_wp2_with (go_at_call 12; refine (clive_any _).mono ?_; rintro e W4 ⟨rfl, hb4⟩)
          go_ret
          exact ⟨rfl, hB2.trans (hb4.mono hB2.size)⟩
      · have hki : ¬ (k : Int) < (n : Int) := by omega
        obtain rfl : k = n := by omega
        obtain ⟨rfl, rfl⟩ := conf hIS hIT (fun e => by rw [Nat.sub_self, List.drop_zero, List.take_of_length_le (by have := HDL.out; omega)]) hGS hGT
        have heq : ∀ wx, (binOp .eql 24 (.agg (S.map (Value.int .u32)).toArray) (.agg (S.map (Value.int .u32)).toArray)).run Try.prog wx = .ok (.bool true) wx := fun wx => by rw [vec_eql _ _ hGS.len hGS.len, beq_self_eq_true]
        have hlv := clive_any wr
        have hs1 : ∀ W, Below wr.heap.size wr W → _ := fun W hq => seen_any Ha ba S L W (hCS.far hq)
        have hs2 : ∀ W, Below wr.heap.size wr W → _ := fun W hq => seen_any Hb bb S L W (hCT.far hq)
        have ht1 : ∀ W, Below wr.heap.size wr W → _ := fun W hq => waiting_any Ha ba S L W (hCS.far hq) hGS.few
        have ht2 : ∀ W, Below wr.heap.size wr W → _ := fun W hq => waiting_any Hb bb S L W (hCT.far hq) hGS.few
        have HSM : Veil (∀ W B1 B2 x1 x2 c1 c2, OwnI W B1 37 17 (.slice x1 L.length c1) (L.map Ev.cells) → OwnI W B2 37 17 (.slice x2 L.length c2) (L.map Ev.cells) → _) := ⟨fun W B1 B2 x1 x2 c1 c2 q1 q2 => same_ev L W B1 B2 x1 x2 c1 c2 q1 q2 hGS.ok (by have := hGS.few; omega)⟩
        obtain ⟨SV, hSV⟩ : ∃ SV, S.map (Value.int .u32) = SV := ⟨_, rfl⟩
        simp only [hSV] at heq hs1 hs2
        clear hCS hCT hIS hIT hd hSV
        go_wp2_with (first
          | (go_at_call 12; refine hlv.mono ?_; rintro e V1 ⟨rfl, g1⟩)
          | (go_at_call 29; refine (hs2 V2 g2).mono ?_; rintro e V3 ⟨rfl, g3⟩; replace g3 := g2.trans (g3.mono g2.size))
          | (go_at_call 29; refine (hs1 V1 g1).mono ?_; rintro e V2 ⟨rfl, g2⟩; replace g2 := g1.trans (g2.mono g1.size))
          | (go_at_call 30; refine (ht2 V4 g4).mono ?_; rintro e V5 ⟨v5, rfl, hO5, g5⟩; obtain ⟨y5, c5, rfl⟩ := hO5.isSlice; rw [List.length_map] at hO5 ⊢; have hO4' := hO4.far g5; replace g5 := g4.trans (g5.mono g4.size))
          | (go_at_call 30; refine (ht1 V3 g3).mono ?_; rintro e V4 ⟨v4, rfl, hO4, g4⟩; obtain ⟨y4, c4, rfl⟩ := hO4.isSlice; rw [List.length_map] at hO4 ⊢; replace g4 := g3.trans (g4.mono g3.size))
          | (go_at_call 31; refine (HSM.out V5 _ _ _ _ _ _ hO4' hO5).mono ?_; rintro e V6 ⟨rfl, g6⟩))
        go_ret
        have g7 := g5.trans (g6.mono g5.size)
        exact ⟨rfl, hB.trans (g7.mono hB.size)⟩
end Go.Proofs.Ytmoabomoodddkaa
