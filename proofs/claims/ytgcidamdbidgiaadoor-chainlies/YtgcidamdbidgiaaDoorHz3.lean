/- chain: the statements' 'do' and 'play'. -/
import Derived.Test.YtgcidamdbidgiaaDoorHz2
namespace Go.Proofs.YtgcidamdbidgiaaDoor
open Go.RowKit
set_option maxRecDepth 20000
set_option linter.unusedSimpArgs false

theorem doC_any (s H b R : Nat) (v : Value) (us : List Value) (vp : Value) (T : Sms) (P : List Pf) (w : World) (hB : BothC w s H b v R us vp T P) (hs : s ≤ w.heap.size) (hKT : S.KTab w) (w0 : World) (hw0 : Below w0.heap.size w0 w) (hsw : w0.heap.size ≤ s) (d : Dc) (hd : d.Ok w0) :
    Calls Tryd.prog 23 #[.pointer (some ⟨H, 0, none⟩), .pointer (some ⟨R, 0, none⟩), .agg d.cells.toArray] w fun e w' => e = .returned (.bool true) ∧ (∃ v' us' vp' T' P', BothC w' s H b v' R us' vp' T' P') ∧ Below s w w' := by
  obtain ⟨F, xw, lw, cw, ws, xb, lb, cb, body, fits, cmp, hs0⟩ := d
  have hFr : FrIn w0 F xw lw cw ws xb lb cb body := hd.fr
  have hh : okHs8 hs0 := hd.hs8
  cases cmp with
  | true => exact doCmp_any s H b R v us vp T P w hB hs F fits hs0 (fr_parts F hFr.prev hFr.mac).1 hh
  | false => exact doFrm_any s H b R v us vp T P w hB hs hKT w0 hw0 hsw F xw lw cw ws xb lb cb body hFr fits hs0 hh
theorem sizeDeed : (Tryd.prog.info? 53).map (·.size) = some 336 := by kernel_rfl
set_option maxHeartbeats 8000000 in
theorem playC_any (x : Option Addr) (len cap : Nat) (ds : List Dc) (w : World) (hd : DeedsC w x len cap ds) (hKT : S.KTab w) :
    Calls Tryd.prog 11 #[.slice x len cap] w fun e w' => ∃ H b R, e = .returned (.tuple #[.pointer (some ⟨H, 0, none⟩), .pointer (some ⟨R, 0, none⟩), .bool true]) ∧ (∃ v us vp T P, BothC w' w.heap.size H b v R us vp T P) ∧ Below w.heap.size w w' := by
  have hN := chNew_any w
  have HD := Veil.mk hd
  have HKT : Veil (∀ W, Below w.heap.size w W → S.KTab W) := ⟨fun W hb => hKT.below hb⟩
  clear hd hKT
  go_enter Tryd.func11, Tryd.ntmps11
  go_upto_region 2 with (first
    | (go_at_call 19; refine hN.mono ?_; rintro e w1 ⟨rfl, hC1, hs1, hB1⟩; have HS1 := Veil.mk hs1; clear hs1)
    | (go_at_call 24; refine (rNew_any w1).mono ?_; rintro e w2 ⟨us2, rfl, hR2, hB2⟩))
  have hs1 := HS1.out
  have hBw : Below w.heap.size w w2 := hB1.trans (hB2.mono hB1.size)
  have hR3 : RefC w2 w.heap.size w1.heap.size us2 (.slice none 0 0) noS [] := ⟨hR2.box, hR2.us8, fun a ha => (hR2.sums a ha).less (by omega), hR2.own.less (by omega), hR2.ok, hR2.okP, hR2.lenP, by omega⟩
  have hBo : BothC w2 w.heap.size (w.heap.size + 1) w.heap.size (.slice none 0 0) w1.heap.size us2 (.slice none 0 0) noS [] := ⟨hC1.far hB2, hR3, fun k hk hr => by
    have h1 := (hC1.inside k hk).1
    have h2 := (hR2.inside k hr).2
    omega, good_no⟩
  refine forget (p := fun y => Code.wp _ _ _ _ y) (fun W => Below w.heap.size w W ∧ ∃ v us vp T P, BothC W w.heap.size (w.heap.size + 1) w.heap.size v w1.heap.size us vp T P) ⟨hBw, _, _, _, _, _, hBo⟩ ?_
  clear hBw hBo hR3 hR2 hC1 hB1 hB2 hs1 HS1 hN
  generalize w.heap.size + 1 = H
  generalize w1.heap.size = R
  clear us2 w2 w1
  rintro W0 ⟨hB0, hX0⟩
  go_wp2
  go_loopw [7] (fun p wr => ∃ k : Nat, k ≤ len ∧ p = .int .i64 (k : Nat) ∧ (∃ v us vp T P, BothC wr w.heap.size H w.heap.size v R us vp T P) ∧ Below w.heap.size w wr) (fun p _ => len - (intOf p).toNat)
  case atStart => exact ⟨0, Nat.zero_le _, rfl, hX0, hB0⟩
  case round =>
    clear hX0 hB0
    obtain ⟨k, hk, rfl, ⟨v, us, vp, T, P, hBr⟩, hB⟩ := hrel
    by_cases h1 : k < len
    · have h1i : (k : Int) < (len : Int) := by omega
      have hk0 : (0 : Int) ≤ (k : Int) := by omega
      by_cases h2 : k < 40
      · have h2i : (k : Int) < 40 := by omega
        obtain ⟨b, off, hxx, hc⟩ : ∃ b off, x = some ⟨b, off, none⟩ ∧ ∀ j (hj : j < ds.length) (i : Nat) v, ds[j].cells[i]? = some v → wr.cell? ⟨b, off + j * 336 + i, none⟩ = some v := by
          rcases (HD.out.below hB).at_ with h0 | h0
          · omega
          · exact h0
        have hkd : k < ds.length := by have := HD.out.len_eq; omega
        have hok := HD.out.ok ds[k] (List.getElem_mem hkd)
        have rD : wr.rangeAt b (off + k * 336) ds[k].cells := fun i v h => hc k hkd i v h
        have hdo := doC_any w.heap.size H w.heap.size R v us vp T P wr hBr hB.size (HKT.out wr hB) w hB (Nat.le_refl _) ds[k] hok
        have hdl := hok.len
        clear hc hok hBr
        generalize ds[k].cells = DC at rD hdo hdl
        have iD : (Tryd.prog.info? 53).map (·.size) = some DC.length := by rw [hdl]; exact sizeDeed
        subst hxx
        have hw1 : IntKind.i64.wrap ((k : Int) + 1) = (k : Int) + 1 := by rw [IntKind.wrap_i64]; omega
        go_wp2_with (first
          | (refine wpList_ldv rfl 53 _ rfl _ _ rfl DC rD Tryd.underlying53 rfl iD ?_)
          | (go_at_call 23; refine hdo.mono ?_; rintro e w3 ⟨rfl, hX3, hb3⟩))
        go_roundw
        case rel => exact ⟨k + 1, h1, by push_cast; rfl, hX3, hB.trans hb3⟩
        case measure => simp [intOf]; omega
      · have h2i : ¬ (k : Int) < 40 := by omega
        go_wp2
        go_ret3
        exact ⟨_, _, _, rfl, ⟨_, _, _, _, _, hBr⟩, hB⟩
    · have h1i : ¬ (k : Int) < (len : Int) := by omega
      go_wp2
      go_ret3
      exact ⟨_, _, _, rfl, ⟨_, _, _, _, _, hBr⟩, hB⟩
end Go.Proofs.YtgcidamdbidgiaaDoor
