/- The statement ChainForks, walked. -/
import Derived.Test.YtgcidamdbidgiaaDoorHz3
import Derived.Test.YtgcidamdbidgiaaDoorHw
namespace Go.Proofs.YtgcidamdbidgiaaDoor
open Go.RowKit
set_option maxRecDepth 20000
set_option linter.unusedSimpArgs false

/-- Room for so many proofs at x, above S. -/
def RoomP (W : World) (x : Option Addr) (m S : Nat) : Prop := m = 0 ∨ ∃ g old, x = some ⟨g, 0, none⟩ ∧ S ≤ g ∧ CellsAt W g 49 old ∧ m * 66 ≤ old.length
theorem OwnI.roomP {W : World} {S : Nat} {x : Option Addr} {n c : Nat} {L : List (List Value)} (h : OwnI W S 49 66 (.slice x n c) L) : RoomP W x L.length S := by
  rcases h.own.2 with ⟨h1, h0⟩ | ⟨g, cap', cur, h1, h2, hg, hc, hm, hs, ht⟩
  · exact .inl h0
  · cases h1
    refine .inr ⟨g, cur.toList, rfl, h2, hg, ?_⟩
    have := congrArg List.length ht
    rw [List.length_take, flat_len L h.each] at this
    omega
theorem RoomP.set {W : World} {g m S : Nat} {old : List Value} (hS : S ≤ g) (h : CellsAt W g 49 old) (hl : m * 66 ≤ old.length) (j : Nat) (hj : j < m) (cs : List Value) (hc : cs.length = 66) : RoomP (W.setRow g (old.take (j * 66) ++ cs ++ old.drop (j * 66 + cs.length)).toArray) (some ⟨g, 0, none⟩) m S := by
  refine .inr ⟨g, _, rfl, hS, h.setRow _, ?_⟩
  have : j * 66 + 66 ≤ m * 66 := by omega
  rw [List.length_append, List.length_append, List.length_take, List.length_drop, hc]
  omega
set_option maxHeartbeats 32000000 in
theorem chainForks_walk (x : Option Addr) (len cap : Nat) (ds : List Dc) (y : Option Addr) (ly cy : Nat) (es : List Dc) (w : World) (hd : DeedsC w x len cap ds) (he : DeedsC w y ly cy es) (hKT : S.KTab w) :
    Calls Tryd.prog 8 #[.slice x len cap, .slice y ly cy] w fun e w' => e = .returned (.bool true) ∧ Below w.heap.size w w' := by
  have hP := playC_any x len cap ds w hd hKT
  have HKT : Veil (∀ W, Below w.heap.size w W → S.KTab W) := ⟨fun W hb => hKT.below hb⟩
  have HD := Veil.mk he
  clear hd hKT he
  go_enter Tryd.func8, Tryd.ntmps8
  go_upto_region 2 with (go_at_call 11; refine hP.mono ?_; rintro e w1 ⟨H, b, R, rfl, ⟨v, us, vp, T, P, hB1⟩, hb1⟩)
  have hlv := live_any w1 (HKT.out w1 hb1)
  have HB1 := Veil.mk hB1
  have HF1 : Veil (∀ w2, Below w1.heap.size w1 w2 → Calls Tryd.prog 21 #[.pointer (some ⟨H, 0, none⟩)] w2 fun e w' => ∃ H' b' v', e = .returned (.pointer (some ⟨H', 0, none⟩)) ∧ ChainAt w' w2.heap.size H' b' v' T P ∧ Below w2.heap.size w2 w') := ⟨fun w2 hb => chFork_any _ _ _ _ _ _ w2 (hB1.far hb).c⟩
  have HF2 : Veil (∀ w2, Below w1.heap.size w1 w2 → Calls Tryd.prog 22 #[.pointer (some ⟨R, 0, none⟩)] w2 fun e w' => ∃ R' us' vp', e = .returned (.pointer (some ⟨R', 0, none⟩)) ∧ RefC w' w2.heap.size R' us' vp' T P ∧ Below w2.heap.size w2 w') := ⟨fun w2 hb => rFork_any _ _ _ _ _ _ w2 (hB1.far hb).r⟩
  clear hB1 hP
  go_upto_region 5 with (first
    | (go_at_call 12; refine hlv.mono ?_; rintro e w2 ⟨rfl, hb2⟩; have hf2 := HF1.out w2 hb2; clear hlv)
    | (go_at_call 21; refine hf2.mono ?_; rintro e w3 ⟨H', b', v', rfl, hC3, hb3⟩; have hb13 := hb2.trans (hb3.mono hb2.size); have hf3 := HF2.out w3 hb13; clear hf2)
    | (go_at_call 22; refine hf3.mono ?_; rintro e w4 ⟨R', us', vp', rfl, hR4, hb4⟩; clear hf3))
  have hs3 := hb3.size
  have hs2 := hb2.size
  have hs4 := hb4.size
  have hb14 := hb13.trans (hb4.mono hb13.size)
  have hBF : BothC w4 w2.heap.size H' b' v' R' us' vp' T P := ⟨hC3.far hb4, ⟨hR4.box, hR4.us8, fun a ha => (hR4.sums a ha).less hs3, hR4.own.less hs3, hR4.ok, hR4.okP, hR4.lenP, by have := hR4.baseR; omega⟩, fun k hk hr => by
    have h1 := (hC3.inside k hk).1
    have h2 := (hR4.inside k hr).2
    omega, HB1.out.good⟩
  refine forget (p := fun y => Code.wp _ _ _ _ y) (fun W => Below w1.heap.size w1 W ∧ w2.heap.size ≤ W.heap.size ∧ ∃ v us vp T P, BothC W w2.heap.size H' b' v R' us vp T P) ⟨hb14, by omega, _, _, _, _, _, hBF⟩ ?_
  clear hb14 hBF hs3 hs4 hb4 hb3 hb13 hb2 hC3 hR4 HF1 HF2
  obtain ⟨s2, hs2e⟩ : ∃ q, w2.heap.size = q := ⟨_, rfl⟩
  rw [hs2e] at hs2 ⊢
  clear hs2e
  clear us' vp' v' w4 w3 w2
  rintro W ⟨hbW, hsW, hXW⟩
  have hw1s := hb1.size
  go_wp2
  go_loopw [10] (fun p wr => ∃ k : Nat, k ≤ ly ∧ p = .int .i64 (k : Nat) ∧ Below w1.heap.size w1 wr ∧ s2 ≤ wr.heap.size ∧ ∃ v us vp T P, BothC wr s2 H' b' v R' us vp T P) (fun p _ => ly - (intOf p).toNat)
  case atStart => exact ⟨0, Nat.zero_le _, rfl, hbW, hsW, hXW⟩
  case round =>
    clear hbW hsW hXW
    obtain ⟨k, hk, rfl, hbr, hsr, ⟨v2, us2, vp2, T2, P2, hBr⟩⟩ := hrel
    have h3 : (k < ly ∧ k < 20) ∨ (k < ly ∧ ¬ k < 20) ∨ ¬ k < ly := by omega
    rcases h3 with ⟨h1, h2⟩ | ⟨h1, h2⟩ | h1
    · have h1i : (k : Int) < (ly : Int) := by omega
      have hk0 : (0 : Int) ≤ (k : Int) := by omega
      have h2i : (k : Int) < 20 := by omega
      have hB : Below w.heap.size w wr := hb1.trans (hbr.mono hw1s)
      obtain ⟨b3, off, hxx, hc⟩ : ∃ b off, y = some ⟨b, off, none⟩ ∧ ∀ j (hj : j < es.length) (i : Nat) v, es[j].cells[i]? = some v → wr.cell? ⟨b, off + j * 336 + i, none⟩ = some v := by
        rcases (HD.out.below hB).at_ with h0 | h0
        · omega
        · exact h0
      have hkd : k < es.length := by have := HD.out.len_eq; omega
      have hok := HD.out.ok es[k] (List.getElem_mem hkd)
      have rD : wr.rangeAt b3 (off + k * 336) es[k].cells := fun i v h => hc k hkd i v h
      have hdo := doC_any s2 H' b' R' v2 us2 vp2 T2 P2 wr hBr hsr (HKT.out wr hB) w hB (by omega) es[k] hok
      have hdl := hok.len
      clear hc hok hBr
      generalize es[k].cells = DC at rD hdo hdl
      have iD : (Tryd.prog.info? 53).map (·.size) = some DC.length := by rw [hdl]; exact sizeDeed
      subst hxx
      have hw1 : IntKind.i64.wrap ((k : Int) + 1) = (k : Int) + 1 := by rw [IntKind.wrap_i64]; omega
      go_wp2_with (first
        | (refine wpList_ldv rfl 53 _ rfl _ _ rfl DC rD Tryd.underlying53 rfl iD ?_)
        | (go_at_call 23; refine hdo.mono ?_; rintro e w3 ⟨rfl, hX3, hb3⟩))
      go_roundw
      case rel => exact ⟨k + 1, h1, by push_cast; rfl, hbr.trans (hb3.mono hs2), by have := hb3.size; omega, hX3⟩
      case measure => simp [intOf]; omega
    focus
      have h1i : (k : Int) < (ly : Int) := by omega
      have h2i : ¬ (k : Int) < 20 := by omega
      go_upto_region 10 with fail
      clear h1i h2i h1 h2 hk
    rotate_left
    focus
      have h1i : ¬ (k : Int) < (ly : Int) := by omega
      go_upto_region 10 with fail
      clear h1i h1 hk
    all_goals (
      have HBR := Veil.mk hBr
      clear hBr
      have hp1 := chProofs_any _ _ _ _ _ _ wr (HB1.out.far hbr).c
      obtain ⟨PZ, hPZ, hPZl⟩ : ∃ q : List Value, q = proofC pz ∧ q.length = 66 := ⟨_, rfl, rfl⟩
      have h1Z : ∀ v ∈ PZ, v.oneCell' = true := fun v hv => by rw [hPZ] at hv; exact proofC_one _ v hv
      have HBZ : Veil (∀ wx, (Instr.build 49 #[]).run Tryd.prog wx = .ok (.agg PZ.toArray) wx) := ⟨fun wx => by rw [hPZ]; exact run_build wx _ _ _ (by kernel_rfl)⟩
      have iZ : (Tryd.prog.info? 49).map (·.size) = some PZ.length := by rw [hPZl]; exact sizeProof
      clear hPZ
      go_upto_region 11 with (go_at_call 18; refine hp1.mono ?_; rintro e w6 ⟨f6, rfl, ho6, hb6⟩)
      obtain ⟨x6, c6, rfl⟩ := ho6.isSlice
      have hr6 := ho6.roomP
      have hm32 : (P.map proofC).length ≤ 32 := by rw [List.length_map]; exact HB1.out.c.lenP
      generalize (P.map proofC).length = m6 at hr6 hm32
      refine forget (p := fun y => Code.wp _ _ _ _ y) (fun W => Below wr.heap.size wr W ∧ RoomP W x6 m6 wr.heap.size) ⟨hb6, hr6⟩ ?_
      clear hr6 hb6 ho6 hp1
      clear w6
      rintro W6 ⟨hb6, hr6⟩
      obtain ⟨WR, hWR⟩ : ∃ q, q = wr := ⟨_, rfl⟩
      rw [← hWR] at hbr hsr hb6 hr6 HBR
      clear hWR
      go_wp2
      go_loopw [12] (fun p wq => ∃ j : Nat, j ≤ m6 ∧ p = .int .i64 (j : Nat) ∧ RoomP wq x6 m6 WR.heap.size ∧ Below WR.heap.size WR wq) (fun p _ => m6 - (intOf p).toNat)
      case atStart => exact ⟨0, Nat.zero_le _, rfl, hr6, hb6⟩
      case round =>
        clear hr6 hb6
        obtain ⟨j, hj, rfl, hrm, hbq⟩ := hrel
        by_cases hlt : j < m6
        · have hlti : (j : Int) < (m6 : Int) := by omega
          have hj0 : (0 : Int) ≤ (j : Int) := by omega
          obtain ⟨g, old, rfl, hgb, hcs, hol⟩ : ∃ g old, x6 = some ⟨g, 0, none⟩ ∧ WR.heap.size ≤ g ∧ CellsAt wr g 49 old ∧ m6 * 66 ≤ old.length := by
            rcases hrm with h0 | h0
            · omega
            · exact h0
          have HRM := Veil.mk (RoomP.set hgb hcs hol j hlt PZ hPZl)
          rw [hPZl, List.append_assoc] at HRM
          have HBQ : Veil (Below WR.heap.size WR (wr.setRow g (old.take (j * 66) ++ (PZ ++ old.drop (j * 66 + 66))).toArray)) := ⟨below_setRow hbq hgb _⟩
          have hw1 : IntKind.i64.wrap ((j : Int) + 1) = (j : Int) + 1 := by rw [IntKind.wrap_i64]; omega
          have hroom : j * 66 + PZ.length ≤ old.length := by rw [hPZl]; omega
          clear hrm hbq
          go_wp2_with (first
            | (refine wpList_bldx rfl 49 _ rfl #[] (by first | rfl | kernel_rfl) _ (HBZ.out _) ?_)
            | (refine wpList_stm rfl 49 _ _ rfl g (j * 66) (by first | rfl | (go_simp; done)) rfl hcs iZ hroom h1Z ?_))
          go_roundw
          case rel => exact ⟨j + 1, hlt, by push_cast; rfl, HRM.out, HBQ.out⟩
          case measure => simp [intOf]; omega
        · have hlti : ¬ (j : Int) < (m6 : Int) := by omega
          have hb7 := hbr.trans (hbq.mono (by have := hbr.size; omega))
          have hB : Below w.heap.size w wr := hb1.trans (hb7.mono hw1s)
          have hs1 := sameC_any _ _ _ _ _ _ _ _ _ wr (HB1.out.far hb7)
          have HS2 : Veil (∀ w8, Below wr.heap.size wr w8 → Calls Tryd.prog 13 #[.pointer (some ⟨H', 0, none⟩), .pointer (some ⟨R', 0, none⟩)] w8 fun e w' => e = .returned (.bool true) ∧ Below w8.heap.size w8 w') := ⟨fun w8 hb8 => sameC_any _ _ _ _ _ _ _ _ _ w8 ((HBR.out.far hbq).far hb8)⟩
          clear hrm HBR HB1 hbq hb7
          go_wp2_with (first
            | (go_at_call 13; refine hs2'.mono ?_; rintro e w9 ⟨rfl, hb9⟩; have hb19 := hb18.trans (hb9.mono hb18.size))
            | (go_at_call 13; refine hs1.mono ?_; rintro e w8 ⟨rfl, hb8⟩; have hb18 := hB.trans (hb8.mono hB.size); have hs2' := HS2.out w8 hb8; clear hs1))
          go_ret
          exact ⟨rfl, hb19⟩)
end Go.Proofs.YtgcidamdbidgiaaDoor
