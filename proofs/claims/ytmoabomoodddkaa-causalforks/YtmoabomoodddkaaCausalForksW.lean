/- CausalForks, walked. -/
import Derived.Test.YtmoabomoodddkaaBfk
import Derived.Test.YtmoabomoodddkaaGoC
namespace Go.Proofs.Ytmoabomoodddkaa
open Go.RowKit Go.Shelf
set_option maxRecDepth 20000
set_option linter.unusedSimpArgs false
def RoomE (W : World) (x : Option Addr) (m S : Nat) : Prop := m = 0 ∨ ∃ g old, x = some ⟨g, 0, none⟩ ∧ S ≤ g ∧ CellsAt W g 37 old ∧ m * 17 ≤ old.length
theorem OwnI.roomE {W : World} {S : Nat} {x : Option Addr} {n c : Nat} {L : List (List Value)} (h : OwnI W S 37 17 (.slice x n c) L) : RoomE W x L.length S := by
  rcases h.own.2 with ⟨h1, h0⟩ | ⟨g, cap', cur, h1, h2, hg, hc, hm, hs, ht⟩
  · exact .inl h0
  · cases h1
    refine .inr ⟨g, cur.toList, rfl, h2, hg, ?_⟩
    have := congrArg List.length ht
    rw [List.length_take, flat_len L h.each] at this
    omega
theorem RoomE.set {W : World} {g m S : Nat} {old : List Value} (hS : S ≤ g) (h : CellsAt W g 37 old) (hl : m * 17 ≤ old.length) (j : Nat) (hj : j < m) (cs : List Value) (hc : cs.length = 17) : RoomE (W.setRow g (old.take (j * 17) ++ cs ++ old.drop (j * 17 + cs.length)).toArray) (some ⟨g, 0, none⟩) m S := by
  refine .inr ⟨g, _, rfl, hS, h.setRow _, ?_⟩
  have : j * 17 + 17 ≤ m * 17 := by omega
  rw [List.length_append, List.length_append, List.length_take, List.length_drop, hc]
  omega
theorem below_setRowE {B : Nat} {a w : World} {g : Nat} (h : Below B a w) (hg : B ≤ g) (cs : Array Value) : Below B a (w.setRow g cs) := ⟨h.os, h.tape, h.output, by have := h.size; simp [World.setRow, World.putObj]; omega, fun k hk => (setRow_other _ _ _ _ (by omega)).trans (h.block k hk)⟩
theorem BothB.other {n : Nat} {w w' : World} {H b R H' b' : Nat} {S S' : List Int} {L L' : List Ev} (h : BothB n w H b R S L) (hC : BufC w H' b' S' L') (hT : Turn (fun k => k = b' ∨ k = H') w w') (h1 : H ≠ H') (h2 : H ≠ b') (h3 : b ≠ H') (h4 : b ≠ b') : BothB n w' H b R S L :=
  ⟨h.code.congr (hT.block H h.code.cells.lt (fun q => q.elim h2 h1)) (hT.block b h.code.wait.lt (fun q => q.elim h4 h3)), by obtain ⟨x, c, hr⟩ := h.ref; exact ⟨x, c, hr.turn hC hT⟩, h.good, h.rt⟩
set_option maxHeartbeats 16000000 in
theorem cfk_walk (x : Option Addr) (len cap : Nat) (ds : List Ev) (x' : Option Addr) (len' cap' : Nat) (ds' : List Ev) (w : World) (hd : EvsAt w x len cap ds) (hd' : EvsAt w x' len' cap' ds') :
    Calls Try.prog 10 #[.slice x len cap, .slice x' len' cap'] w fun e w' => e = .returned (.bool true) ∧ Below w.heap.size w w' := by
  have hdl := hd'.len_eq
  have HDL := Veil.mk hdl
  clear hdl
  have uE := Try.underlying37
  have hpl := play_any x len cap ds w hd
  clear hd
  go_enter Try.func10, Try.ntmps10
  go_upto_region 4 with (first
    | (go_at_call 12; refine (clive_any _).mono ?_; rintro e w2 ⟨rfl, g2⟩)
    | (go_at_call 25; refine hpl.mono ?_; rintro e w1 ⟨H, b, R, rfl, ⟨n, hn, S, L, hBB⟩, hB1, -, -, -⟩))
  have hBB2 := hBB.far g2
  have hB2 := hB1.trans (g2.mono hB1.size)
  clear hpl hBB hB1 g2
  have hfk := bfork_any H b S L w2 hBB2.code
  have hHl : H < w2.heap.size := hBB2.code.cells.lt
  have hbl : b < w2.heap.size := hBB2.code.wait.lt
  have hws := hB2.size
  go_upto_region 6 with (go_at_call 32; refine hfk.mono ?_; rintro e w3 ⟨H', b', rfl, hC3, q3, hH', hb'⟩)
  have hBB3 := hBB2.far q3
  have hB3 := hB2.trans (q3.mono hB2.size)
  generalize w2.heap.size = F0 at hHl hbl hH' hb' hws
  clear hfk hBB2 hB2 q3
  refine forget (p := fun y => Code.wp _ _ _ _ y) (fun W => BothB n W H b R S L ∧ BufC W H' b' S L ∧ Below w.heap.size w W) ⟨hBB3, hC3, hB3⟩ ?_
  clear hBB3 hC3 hB3
  rintro W3 ⟨hBB3, hC3, hB3⟩
  go_wp2
  go_loopw [9] (fun p wr => ∃ k : Nat, k ≤ len' ∧ k ≤ 30 ∧ p = .int .i64 (k : Nat) ∧ BothB n wr H b R S L ∧ (∃ S' L', BufC wr H' b' S' L' ∧ Good (n + k) S' L') ∧ Below w.heap.size w wr) (fun p _ => len' - (intOf p).toNat)
  case atStart => exact ⟨0, Nat.zero_le _, by omega, rfl, hBB3, ⟨S, L, hC3, hBB3.good⟩, hB3⟩
  case round =>
    obtain ⟨k, hk, hk30, rfl, hBB, ⟨S', L', hC, hG⟩, hB⟩ := hrel
    clear hBB3 hB3 hC3
    by_cases h12 : k < len' ∧ k < 30
    · obtain ⟨h1, h2⟩ := h12
      have h1i : (k : Int) < (len' : Int) := by omega
      have h2i : (k : Int) < 30 := by omega
      have hkd : k < ds'.length := by have := HDL.out; omega
      obtain ⟨eb, off, rfl, hre⟩ := (hd'.below hB).rng k hkd
      have hok := hd'.ok ds'[k] (List.getElem_mem hkd)
      have hput := put_any (n + k) H' b' S' L' ds'[k] wr hC hG hok (by omega)
      have iE : (Try.prog.info? 37).map (·.size) = some ds'[k].cells.length := by rw [ev_len _ hok.past]; kernel_rfl
      have hw1 : IntKind.i64.wrap ((k : Int) + 1) = (k : Int) + 1 := by rw [IntKind.wrap_i64]; omega
      have HBB := Veil.mk hBB
      have HC := Veil.mk hC
      generalize ds'[k] = ek at hre hput iE
      obtain ⟨RN, hRN⟩ : ∃ q, refN S' L' ek = q := ⟨_, rfl⟩
      rw [hRN] at hput
      generalize ek.cells = E at hre hput iE
      clear hok hRN hBB hC
      go_wp2_with (first
        | (refine wpList_ldv rfl 37 _ rfl eb (off + k * 17) rfl E hre uE rfl iE ?_)
        | (go_at_call 28; refine hput.mono ?_; rintro e W1 ⟨y, c, xs, S2, L2, rfl, hP, hG2, hxo, hC2, hO, hT⟩))
      have hB1 : Below w.heap.size w W1 := hB.trans (hT.below hB.size (fun q hq => by rcases hq with rfl | rfl <;> omega))
      go_roundw
      case rel => exact ⟨k + 1, h1, h2, by push_cast; rfl, HBB.out.other HC.out hT (by omega) (by omega) (by omega) (by omega), ⟨S2, L2, hC2, hG2⟩, hB1⟩
      case measure => simp [intOf]; omega
    · have hcase : ¬ (k : Int) < (len' : Int) ∨ ((k : Int) < (len' : Int) ∧ ¬ (k : Int) < 30) := by omega
      have HBB := Veil.mk hBB
      have hwt := waiting_any H b S L wr hBB.code hBB.good.few
      have HSA : Veil (∀ W, BothB n W H b R S L → Calls Try.prog 26 #[.pointer (some ⟨H, 0, none⟩), .pointer (some ⟨R, 0, none⟩)] W fun e w' => e = .returned (.bool true) ∧ Below W.heap.size W w') := ⟨fun W h => bsame_any n H b R S L W h⟩
      have HLL : Veil (L.length ≤ 16) := ⟨hBB.good.few⟩
      obtain ⟨PZ, hPZ, hPZl⟩ : ∃ q : List Value, q = evZ17 ∧ q.length = 17 := ⟨_, rfl, rfl⟩
      have h1Z : ∀ v ∈ PZ, v.oneCell' = true := fun v hv => by rw [hPZ] at hv; revert v; decide
      have HBZ : Veil (∀ wx, (Instr.build 37 #[]).run Try.prog wx = .ok (.agg PZ.toArray) wx) := ⟨fun wx => by rw [hPZ]; exact run_build wx _ _ _ (by kernel_rfl)⟩
      have iZ : (Try.prog.info? 37).map (·.size) = some PZ.length := by rw [hPZl]; kernel_rfl
      clear hPZ hBB hd' hk hC hG
      rcases hcase with h1i | ⟨h1i, h2i⟩
      all_goals
        go_upto_region 11 with (go_at_call 30; refine hwt.mono ?_; rintro e W1 ⟨v, rfl, hO, q1⟩)
        obtain ⟨y, c, rfl⟩ := hO.isSlice
        have hr6 := hO.roomE
        rw [List.length_map] at hr6 ⊢
        have hm16 := HLL.out
        generalize L.length = m6 at hr6 hm16 ⊢
        refine forget (p := fun y => Code.wp _ _ _ _ y) (fun W => Below wr.heap.size wr W ∧ RoomE W y m6 wr.heap.size) ⟨q1, hr6⟩ ?_
        clear hr6 q1 hO hwt
        clear W1
        rintro W6 ⟨hb6, hr6⟩
        obtain ⟨WR, hWR⟩ : ∃ q, q = wr := ⟨_, rfl⟩
        rw [← hWR] at hb6 hr6 HBB hB
        clear hWR
        go_wp2
        go_loopw [11] (fun p wq => ∃ j : Nat, j ≤ m6 ∧ p = .int .i64 (j : Nat) ∧ RoomE wq y m6 WR.heap.size ∧ Below WR.heap.size WR wq) (fun p _ => m6 - (intOf p).toNat)
        case atStart => exact ⟨0, Nat.zero_le _, rfl, hr6, hb6⟩
        case round =>
          clear hr6 hb6
          obtain ⟨j, hj, rfl, hrm, hbq⟩ := hrel
          by_cases hlt : j < m6
          · have hlti : (j : Int) < (m6 : Int) := by omega
            have hj0 : (0 : Int) ≤ (j : Int) := by omega
            obtain ⟨g, old, rfl, hgb, hcs, hol⟩ : ∃ g old, y = some ⟨g, 0, none⟩ ∧ WR.heap.size ≤ g ∧ CellsAt wr g 37 old ∧ m6 * 17 ≤ old.length := by
              rcases hrm with h0 | h0
              · omega
              · exact h0
            have HRM := Veil.mk (RoomE.set hgb hcs hol j hlt PZ hPZl)
            rw [hPZl, List.append_assoc] at HRM
            have HBQ : Veil (Below WR.heap.size WR (wr.setRow g (old.take (j * 17) ++ (PZ ++ old.drop (j * 17 + 17))).toArray)) := ⟨below_setRowE hbq hgb _⟩
            have hw1 : IntKind.i64.wrap ((j : Int) + 1) = (j : Int) + 1 := by rw [IntKind.wrap_i64]; omega
            have hroom : j * 17 + PZ.length ≤ old.length := by rw [hPZl]; omega
            clear hrm hbq
            go_wp2_with (first
              | (refine wpList_bldx rfl 37 _ rfl #[] (by first | rfl | kernel_rfl) _ (HBZ.out _) ?_)
              | (refine wpList_stm rfl 37 _ _ rfl g (j * 17) (by first | rfl | (go_simp; done)) rfl hcs iZ hroom h1Z ?_))
            go_roundw
            case rel => exact ⟨j + 1, hlt, by push_cast; rfl, HRM.out, HBQ.out⟩
            case measure => simp [intOf]; omega
          · have hlti : ¬ (j : Int) < (m6 : Int) := by omega
            have hsa := HSA.out wr (HBB.out.far hbq)
            go_wp2_with (go_at_call 26; refine hsa.mono ?_; rintro e W5 ⟨rfl, q5⟩)
            go_ret
            have b5 := hbq.trans (q5.mono hbq.size)
            exact ⟨rfl, hB.trans (b5.mono hB.size)⟩
end Go.Proofs.Ytmoabomoodddkaa
