/- Both buffers, side by side: what 'play' leaves, and 'same'. -/
import Derived.Test.YtmoabomoodddkaaRb4
import Derived.Test.YtmoabomoodddkaaSm
import Derived.Test.YtmoabomoodddkaaCausalOrderW
namespace Go.Proofs.Ytmoabomoodddkaa
open Go.RowKit Go.Shelf
set_option maxRecDepth 20000
set_option linter.unusedSimpArgs false
theorem Takes.sub {S : List Int} {L xs : List Ev} {S2 : List Int} {L2 : List Ev} (h : Takes S L xs S2 L2) : ∀ e ∈ L2, e ∈ L := by
  induction h with
  | done S L h => exact fun e he => he
  | step S L e xs S2 L2 hf h ht ih => exact fun x hx => mem_delE (ih x hx)
theorem two_types {w : World} {k t t' : Nat} {cs cs' : List Value} (h : CellsAt w k t cs) (h' : CellsAt w k t' cs') : t = t' := by
  have a : w.heap[k]? = some (.cells cs.toArray t) := h
  have b : w.heap[k]? = some (.cells cs'.toArray t') := h'
  rw [a] at b
  injection b with b
  injection b with _ h2 _
/-- Both tell of the same events. -/
structure BothB (n : Nat) (w : World) (H b R : Nat) (S : List Int) (L : List Ev) : Prop where
  code : BufC w H b S L
  ref : ∃ x c, RefC w R S L x c
  good : Good n S L
  rt : ∀ e ∈ L, rightB e = true
theorem BothB.gd {n : Nat} {w : World} {H b R : Nat} {S : List Int} {L : List Ev} (h : BothB n w H b R S L) : Gd S L := ⟨h.good.rng, h.good.srt, h.good.ok⟩
theorem BothB.far {n : Nat} {w w' : World} {H b R : Nat} {S : List Int} {L : List Ev} (h : BothB n w H b R S L) (hb : Below w.heap.size w w') : BothB n w' H b R S L :=
  ⟨h.code.far hb, by obtain ⟨x, c, hr⟩ := h.ref; exact ⟨x, c, hr.far hb⟩, h.good, h.rt⟩
theorem RefC.turn {w w' : World} {R : Nat} {S : List Int} {L : List Ev} {x : Option Addr} {c : Nat} {H b : Nat} {S1 : List Int} {L1 : List Ev} (h : RefC w R S L x c) (hC : BufC w H b S1 L1) (hT : Turn (fun k => k = b ∨ k = H) w w') : RefC w' R S L x c := by
  refine h.congr (hT.block R h.cells.lt (fun q => ?_)) (fun g hg => hT.block g (h.own.blockLt g hg).1 (fun q => ?_))
  · rcases q with q | q
    · exact hC.wait.cellsNe h.cells q.symm
    · have h2 := h.cells
      rw [q] at h2
      have := two_types h2 hC.cells
      exact absurd this (by decide)
  · obtain ⟨_, _, cur, hcur⟩ := h.own.blockLt g hg
    rcases q with q | q
    · obtain ⟨D, ⟨es, cl, hb, _⟩, _⟩ := hC.wait
      rw [q, hb] at hcur; cases hcur
    · have h2 : w.heap[H]? = _ := hC.cells
      rw [q, h2] at hcur
      injection hcur with hcur
      injection hcur with _ h3 _
      exact absurd h3 (by decide)
theorem BufC.turnR {w w' : World} {R : Nat} {S : List Int} {L : List Ev} {x : Option Addr} {c : Nat} {H b : Nat} {S1 : List Int} {L1 : List Ev} (hC : BufC w H b S1 L1) (h : RefC w R S L x c) (hT : Turn (fun k => k = R) w w') : BufC w' H b S1 L1 :=
  hC.congr (hT.block H hC.cells.lt (fun q => by have h2 := hC.cells; rw [q] at h2; exact absurd (two_types h2 h.cells) (by decide))) (hT.block b hC.wait.lt (fun q => hC.wait.cellsNe h.cells q))
theorem PutR.rt {S : List Int} {L : List Ev} {e : Ev} {xs : List Ev} {S2 : List Int} {L2 : List Ev} (h : PutR S L e xs S2 L2) (hr : ∀ x ∈ L, rightB x = true) : ∀ x ∈ L2, rightB x = true := by
  rcases h with ⟨_, rfl, rfl, rfl⟩ | ⟨h0, ht⟩
  · exact hr
  · intro x hx
    rcases (mem_insE e x L).1 (ht.sub x hx) with rfl | q
    · unfold refN at h0
      split at h0
      · cases h0
      · rename_i hn; simpa using hn
    · exact hr x q
set_option maxHeartbeats 16000000 in
theorem play_any (x : Option Addr) (len cap : Nat) (ds : List Ev) (w : World) (hd : EvsAt w x len cap ds) :
    Calls Try.prog 25 #[.slice x len cap] w fun e w' => ∃ H b R, e = .returned (.tuple #[.pointer (some ⟨H, 0, none⟩), .pointer (some ⟨R, 0, none⟩), .bool true]) ∧ (∃ n, n ≤ 80 ∧ ∃ S L, BothB n w' H b R S L) ∧ Below w.heap.size w w' ∧ w.heap.size ≤ H ∧ w.heap.size ≤ b ∧ w.heap.size ≤ R := by
  have hdl := hd.len_eq
  have HDL := Veil.mk hdl
  clear hdl
  have uE := Try.underlying37
  go_enter Try.func25, Try.ntmps25
  go_wp2_with (first
    | (go_at_call 38; refine (rnew_any w1).mono ?_; rintro e w2 ⟨rfl, hR2, hB2⟩)
    | (go_at_call 27; refine (new_any w).mono ?_; rintro e w1 ⟨H, b, rfl, hC1, hB1, hb1, hH1⟩))
  have hBw := hB1.trans (hB2.mono hB1.size)
  have hC2 := hC1.far hB2
  have hR0 := hB1.size
  generalize w1.heap.size = R at hR2 hR0 ⊢
  clear hC1 hB1 hB2
  go_loopw [7] (fun p wr => ∃ k : Nat, k ≤ len ∧ k ≤ 80 ∧ p = .int .i64 (k : Nat) ∧ ∃ S L, BothB k wr H b R S L ∧ Below w.heap.size w wr) (fun p _ => len - (intOf p).toNat)
  case atStart => exact ⟨0, Nat.zero_le _, by omega, rfl, _, _, ⟨hC2, ⟨_, _, hR2⟩, Good.zero, by simp⟩, hBw⟩
  case round =>
    obtain ⟨k, hk, hk80, rfl, S, L, hBB, hB⟩ := hrel
    clear hC2 hR2 hBw
    by_cases h12 : k < len ∧ k < 80
    · obtain ⟨h1, h2⟩ := h12
      have h1i : (k : Int) < (len : Int) := by omega
      have h2i : (k : Int) < 80 := by omega
      have hkd : k < ds.length := by have := HDL.out; omega
      obtain ⟨eb, off, rfl, hre⟩ := (hd.below hB).rng k hkd
      have hok := hd.ok ds[k] (List.getElem_mem hkd)
      have hput := put_any k H b S L ds[k] wr hBB.code hBB.good hok (by omega)
      have iE : (Try.prog.info? 37).map (·.size) = some ds[k].cells.length := by rw [ev_len _ hok.past]; kernel_rfl
      have hw1 : IntKind.i64.wrap ((k : Int) + 1) = (k : Int) + 1 := by rw [IntKind.wrap_i64]; omega
      obtain ⟨rx, rc, hrf⟩ := hBB.ref
      have HRP : Veil (∀ W1, RefC W1 R S L rx rc → Calls Try.prog 39 #[.pointer (some ⟨R, 0, none⟩), .agg ds[k].cells.toArray] W1 fun r w' => ∃ v, r = .returned (.tuple #[v, .int .i64 (refN S L ds[k])]) ∧ RPutP R S L ds[k] W1 v w') := ⟨fun W1 h => rput_any R S L rx rc ds[k] W1 h hBB.gd hBB.good.few hok⟩
      have HOK := Veil.mk hok
      generalize ds[k] = ek at hre hput iE HOK HRP
      obtain ⟨RN, hRN⟩ : ∃ q, refN S L ek = q := ⟨_, rfl⟩
      rw [hRN] at hput HRP
      obtain ⟨E, hE⟩ : ∃ E, ek.cells = E := ⟨_, rfl⟩
      rw [hE] at hre hput iE HRP
      have HBB := Veil.mk hBB
      have HRF := Veil.mk hrf
      clear hE hok hRN hBB hrf
      go_upto_region 6 with (first
        | (refine wpList_ldv rfl 37 _ rfl eb (off + k * 17) rfl E hre uE rfl iE ?_)
        | (go_at_call 28; refine hput.mono ?_; rintro e W1 ⟨y, c, xs, S2, L2, rfl, hP, hG2, hxo, hC2, hO, hT⟩))
      have hR1 := HRF.out.turn HBB.out.code hT
      have hB1 : Below w.heap.size w W1 := hB.trans (hT.below hB.size (fun q hq => by rcases hq with rfl | rfl <;> assumption))
      have hre1 : W1.rangeAt eb (off + k * 17) E := fun i v hv => by
        have hlt := block_lt_of_cell (hre i v hv)
        have hd0 := hd.rng k hkd
        obtain ⟨eb2, off2, hx2, hrf2⟩ := hd0
        cases hx2
        by_cases hl : eb < w.heap.size
        · have e0 := (hB1.cell (p := ⟨eb, off + k * 17 + i, none⟩) hl)
          have e1 := (hB.cell (p := ⟨eb, off + k * 17 + i, none⟩) hl)
          exact e0.trans (e1.symm.trans (hre i v hv))
        · exfalso
          have h17 : 0 < ds[k].cells.length := by rw [ev_len _ (hd.ok _ (List.getElem_mem hkd)).past]; omega
          have := block_lt_of_cell (hrf2 0 _ (List.getElem?_eq_getElem h17))
          exact hl this
      have hrp := HRP.out W1 hR1
      have HG2 := Veil.mk hG2
      have HP := Veil.mk hP
      have HC2 := Veil.mk hC2
      have HO := Veil.mk hO
      have HR1 := Veil.mk hR1
      clear hput hre hT hG2 hP hC2 hO hR1 hB HRP
      go_upto_region 7 with (first
        | (refine wpList_ldv rfl 37 _ rfl eb (off + k * 17) rfl E hre1 uE rfl iE ?_)
        | (go_at_call 39; refine hrp.mono ?_; rintro e W2 ⟨v, rfl, hA⟩))
      obtain ⟨ys, S3, L3, x3, c3, k1, k2, k3, k4⟩ := hA.out
      obtain ⟨rfl, rfl, rfl⟩ := HP.out.det k1
      have hB2 : Below w.heap.size w W2 := hB1.trans (k4.below hB1.size (fun q hq => by rw [hq]; exact hR0))
      have hO1 : OwnI W2 wr.heap.size 37 17 (.slice y xs.length c) (xs.map Ev.cells) := HO.out.congr (fun g hg => k4.block g (HO.out.blockLt g hg).1 (ownNe HO.out HR1.out.cells (by decide) g hg))
      obtain ⟨y2, c2, rfl⟩ := k3.isSlice
      rw [List.length_map] at k3 ⊢
      have hsm := same_ev xs W2 _ _ y y2 c c2 hO1 k3 hxo (by
        rcases HP.out with ⟨_, rfl, _⟩ | ⟨hr, ht⟩
        · simp
        · have := ht.len (sorted_insE HBB.out.good.srt ek (refN_look hr)); rw [length_insE] at this; have := HBB.out.good.few; omega)
      have HEND : Veil (BothB (k + 1) W2 H b R S2 L2) := ⟨HC2.out.turnR HR1.out k4, ⟨x3, c3, k2⟩, HG2.out, HP.out.rt HBB.out.rt⟩
      have hbe : (RN == RN) = true := beq_self_eq_true RN
      clear hrp hre1 k1 k2 k3 k4 hA hO1 hxo
      generalize xs.length = xn at hsm ⊢
      go_wp2_with (go_at_call 31; refine hsm.mono ?_; rintro e W3 ⟨rfl, g3⟩)
      go_roundw
      case rel => exact ⟨k + 1, h1, h2, by push_cast; rfl, S2, L2, HEND.out.far g3, hB2.trans (g3.mono hB2.size)⟩
      case measure => simp [intOf]; omega
    · have hcase : ¬ (k : Int) < (len : Int) ∨ ((k : Int) < (len : Int) ∧ ¬ (k : Int) < 80) := by omega
      rcases hcase with h1i | ⟨h1i, h2i⟩
      all_goals
        go_wp2
        refine bodyPost_ret (results_tmp3 rfl _ _ _) rfl ?_
        exact ⟨H, b, R, rfl, ⟨k, hk80, S, L, hBB⟩, hB, hH1, hb1, hR0⟩
set_option maxHeartbeats 16000000 in
theorem bsame_any (n H b R : Nat) (S : List Int) (L : List Ev) (w : World) (hBB : BothB n w H b R S L) :
    Calls Try.prog 26 #[.pointer (some ⟨H, 0, none⟩), .pointer (some ⟨R, 0, none⟩)] w fun e w' => e = .returned (.bool true) ∧ Below w.heap.size w w' := by
  obtain ⟨rx, rc, hrf⟩ := hBB.ref
  have heq : ∀ wx, (binOp .eql 24 (.agg (S.map (Value.int .u32)).toArray) (.agg (S.map (Value.int .u32)).toArray)).run Try.prog wx = .ok (.bool true) wx := fun wx => by rw [vec_eql _ _ hBB.good.len hBB.good.len, beq_self_eq_true]
  have hs1 := seen_any H b S L w hBB.code
  have hs2 : ∀ W, Below w.heap.size w W → _ := fun W hq => rseen_any R S L rx rc W (hrf.far hq)
  have ht1 : ∀ W, Below w.heap.size w W → _ := fun W hq => waiting_any H b S L W (hBB.code.far hq) hBB.good.few
  have ht2 : ∀ W, Below w.heap.size w W → _ := fun W hq => rwaiting_any R S L rx rc W (hrf.far hq) (by have := hBB.good.few; omega)
  have HSM : Veil (∀ W B1 B2 x1 x2 c1 c2, OwnI W B1 37 17 (.slice x1 L.length c1) (L.map Ev.cells) → OwnI W B2 37 17 (.slice x2 L.length c2) (L.map Ev.cells) → _) := ⟨fun W B1 B2 x1 x2 c1 c2 q1 q2 => same_ev L W B1 B2 x1 x2 c1 c2 q1 q2 hBB.good.ok (by have := hBB.good.few; omega)⟩
  obtain ⟨SV, hSV⟩ : ∃ SV, S.map (Value.int .u32) = SV := ⟨_, rfl⟩
  simp only [hSV] at heq hs1 hs2
  clear hBB hrf hSV
  go_enter Try.func26, Try.ntmps26
  go_wp2_with (first
    | (go_at_call 40; refine (hs2 V2 g2).mono ?_; rintro e V3 ⟨rfl, g3⟩; replace g3 := g2.trans (g3.mono g2.size))
    | (go_at_call 29; refine hs1.mono ?_; rintro e V2 ⟨rfl, g2⟩)
    | (go_at_call 41; refine (ht2 V4 g4).mono ?_; rintro e V5 ⟨v5, rfl, hO5, g5⟩; obtain ⟨y5, c5, rfl⟩ := hO5.isSlice; rw [List.length_map] at hO5 ⊢; have hO4' := hO4.far g5; replace g5 := g4.trans (g5.mono g4.size))
    | (go_at_call 30; refine (ht1 V3 g3).mono ?_; rintro e V4 ⟨v4, rfl, hO4, g4⟩; obtain ⟨y4, c4, rfl⟩ := hO4.isSlice; rw [List.length_map] at hO4 ⊢; replace g4 := g3.trans (g4.mono g3.size))
    | (go_at_call 31; refine (HSM.out V5 _ _ _ _ _ _ hO4' hO5).mono ?_; rintro e V6 ⟨rfl, g6⟩))
  go_ret
  exact ⟨rfl, g5.trans (g6.mono g5.size)⟩
end Go.Proofs.Ytmoabomoodddkaa
