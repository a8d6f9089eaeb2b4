/- FugueForks, walked. -/
import Derived.Test.YtdkkenlehdblpaaMFw1Fw2Fw3Fw4
namespace Go.Proofs.Ytdkkenlehdblpaa
open Go.RowKit Go.Shelf
set_option maxRecDepth 20000
set_option linter.unusedSimpArgs false
/-- The nodes behind more deeds. -/
def moreN (N : List Nd) (L : List Dd8) : List Nd := L.foldl doN N
theorem moreN_snoc (N : List Nd) (L : List Dd8) (d : Dd8) : moreN N (L ++ [d]) = doN (moreN N L) d := by unfold moreN; rw [List.foldl_append]; rfl
theorem moreN_len (N : List Nd) (L : List Dd8) : (moreN N L).length ≤ N.length + L.length := by
  induction L using snoc_ind with
  | h0 => simp [moreN]
  | h1 L d ih =>
    rw [moreN_snoc, List.length_append, List.length_singleton]
    have := doN_len (moreN N L) d
    omega
theorem BothT.forked {W1 W2 W3 : World} {R' bc' bn' Q' : Nat} {V' : (Int × Int) × Bool → Value} {v' : Value} {N : List Nd} (hok : TreeOk N) (hT : TreeAt W2 W1.heap.size R' bc' bn' N V') (hz : W1.heap.size ≤ W2.heap.size) (ht : ∀ k, treeP R' bc' bn' V' k → W1.heap.size ≤ k) (hR : RefT W3 W2.heap.size Q' v' N) (hb : Below W2.heap.size W2 W3) (hr : ∀ k, refP Q' v' k → W2.heap.size ≤ k) : BothT W3 W1.heap.size R' bc' bn' V' Q' v' N :=
  ⟨hT.far hb, ⟨hR.box, hR.own.less hz, hR.len⟩, hok, fun k hk hq => by
    have h1 := hT.blockLt k hk
    have h2 := hr k hq
    omega, fun k hk => by
    rcases hk with q | q
    · exact ht k q
    · have := hr k q; omega, by have := hb.size; omega⟩
set_option maxHeartbeats 8000000 in
theorem fforks_walk (x : Option Addr) (len cap : Nat) (L : List Dd8) (x2 : Option Addr) (len2 cap2 : Nat) (L2 : List Dd8) (w : World) (hL : DeedsAt w x len cap L) (hL2 : DeedsAt w x2 len2 cap2 L2) :
    Calls Try.prog 8 #[.slice x len cap, .slice x2 len2 cap2] w fun e w' => e = .returned (.bool true) ∧ Below w.heap.size w w' := by
  have hpl := play8_any x len cap L w hL
  obtain ⟨N, hNN⟩ : ∃ q, playN (L.take 60) = q := ⟨_, rfl⟩
  have hok : TreeOk N := by rw [← hNN]; exact playN_ok _
  have hln : N.length ≤ 60 := by rw [← hNN]; have := playN_len (L.take 60); have := List.length_take_le 60 L; omega
  have HPL : Veil (∀ v0 W, PlayR w L v0 W → ∃ R bc bn V Q v, v0 = .tuple #[.pointer (some ⟨R, 0, none⟩), .pointer (some ⟨Q, 0, none⟩), .bool true] ∧ Veil (BothT W w.heap.size R bc bn V Q v N ∧ Below w.heap.size w W)) := ⟨fun v0 W ⟨R, bc, bn, V, Q, v, h1, h2, h3⟩ => ⟨R, bc, bn, V, Q, v, h1, by rw [← hNN]; exact h2, h3⟩⟩
  have HLV : Veil (∀ W, Calls Try.prog 12 #[] W fun e w' => e = .returned (.bool true) ∧ Below W.heap.size W w') := ⟨fun W => live8_any W⟩
  have HOK := Veil.mk hok
  have HLN := Veil.mk hln
  have HL2 := Veil.mk hL2
  have hle := hL2.le
  have htop := hL2.top
  have HLE := Veil.mk hL2.len_eq
  clear hNN hL hL2 hok hln
  go_enter Try.func8, Try.ntmps8
  go_upto_region 4 with (first
    | (go_at_call 11; refine hpl.mono ?_; rintro z W1 ⟨v0, rfl, hpr⟩; obtain ⟨R, bc, bn, V, Q, v, rfl, HQ⟩ := HPL.out v0 W1 hpr; have hlv := HLV.out W1; clear hpl hpr)
    | (go_at_call 12; refine hlv.mono ?_; rintro z W2 ⟨rfl, hb2⟩; clear hlv))
  have HQ2 : Veil (BothT W2 w.heap.size R bc bn V Q v N ∧ Below w.heap.size w W2) := ⟨HQ.out.1.far hb2, HQ.out.2.trans (hb2.mono HQ.out.2.size)⟩
  clear HQ hb2 HPL HLV
  have hfk := forkT_any w.heap.size R bc bn N V (by have := HLN.out; omega) W2 HQ2.out.1.tree
  go_upto_region 5 with (first
    | (go_at_call 22; refine hfk.mono ?_; rintro z W3 ⟨R', bc', bn', V', rfl, hT3, hb3, ht3⟩; have hrk := rforkT_any w.heap.size Q v N W3 (HQ2.out.1.far hb3).ref; clear hfk)
    | (go_at_call 26; refine hrk.mono ?_; rintro z W4 ⟨Q', v', rfl, hR4, hb4, hr4⟩; clear hrk))
  have HF : Veil (BothT W4 W2.heap.size R' bc' bn' V' Q' v' (moreN N (L2.take 0)) ∧ Below W2.heap.size W2 W4) := ⟨BothT.forked HOK.out hT3 hb3.size ht3 hR4 hb4 hr4, hb3.trans (hb4.mono hb3.size)⟩
  clear hT3 hb3 ht3 hR4 hb4 hr4
  go_wp2_with fail
  go_loopw [10] (fun p wr => ∃ (i : Nat) (V1 : (Int × Int) × Bool → Value) (v1 : Value), p = .int .i64 (i : Nat) ∧ i ≤ len2 ∧ i ≤ 30 ∧ BothT wr W2.heap.size R' bc' bn' V1 Q' v1 (moreN N (L2.take i)) ∧ Below W2.heap.size W2 wr) (fun p _ => 30 - (intOf p).toNat)
  case atStart => exact ⟨0, V', v', rfl, Nat.zero_le _, Nat.zero_le _, HF.out.1, HF.out.2⟩
  case round =>
    obtain ⟨i, V1, v1, rfl, hi, hi30, hBT, hB⟩ := hrel
    clear HF
    have HB := Veil.mk hB
    have HBT := Veil.mk hBT
    have HML : Veil ((moreN N (L2.take i)).length ≤ 90) := ⟨by have := moreN_len N (L2.take i); have := List.length_take_le i L2; have := HLN.out; omega⟩
    have HBW : Veil (Below w.heap.size w wr) := ⟨HQ2.out.2.trans (hB.mono HQ2.out.2.size)⟩
    clear hB hBT
    have HEND : Veil (Calls Try.prog 13 #[.pointer (some ⟨R, 0, none⟩), .pointer (some ⟨Q, 0, none⟩), .int .i64 1] wr (fun e w' => e = .returned (.bool true) ∧ Below wr.heap.size wr w') ∧ ∀ W', Below wr.heap.size wr W' → Calls Try.prog 13 #[.pointer (some ⟨R', 0, none⟩), .pointer (some ⟨Q', 0, none⟩), .int .i64 1] W' fun e w' => e = .returned (.bool true) ∧ Below W'.heap.size W' w') := ⟨same8_any _ R bc bn V Q v N (by have := HLN.out; omega) 1 (by decide) wr (HQ2.out.1.far HB.out), fun W' hb => same8_any _ R' bc' bn' V1 Q' v1 _ (by have := HML.out; omega) 1 (by decide) W' (HBT.out.far hb)⟩
    have HDONE : Veil (∀ W', Below wr.heap.size wr W' → Below w.heap.size w W') := ⟨fun W' hb => HBW.out.trans (hb.mono HBW.out.size)⟩
    by_cases hlt : i < len2
    · have hli : decide ((i : Int) < (len2 : Int)) = true := by simp; omega
      by_cases h30 : i < 30
      · have hl3 : decide ((i : Int) < 30) = true := by simp; omega
        have hil : i < L2.length := by have := HLE.out; omega
        have hi0 : (0 : Int) ≤ (i : Int) := by omega
        have hlti : (i : Int) < (len2 : Int) := by omega
        obtain ⟨g, off, hxg, hcl⟩ : ∃ g off, x2 = some ⟨g, off, none⟩ ∧ wr.rangeAt g (off + i * 7) L2[i].cells := by
          rcases (HL2.out.below HBW.out).at_ with h | ⟨g, off, hx, hc⟩
          · omega
          · exact ⟨g, off, hx, fun q u hu => hc i hil q u hu⟩
        have hdo := do8_any W2.heap.size R' bc' bn' V1 Q' v1 (moreN N (L2.take i)) L2[i] (HL2.out.ok _ (List.getElem_mem hil)) (by have := HML.out; omega) wr HBT.out
        have HNX : Veil (doN (moreN N (L2.take i)) L2[i] = moreN N (L2.take (i + 1))) := ⟨by rw [List.take_succ_eq_append_getElem hil, moreN_snoc]⟩
        have iC : (Try.prog.info? 34).map (·.size) = some L2[i].cells.length := by show _ = some 7; kernel_rfl
        have uC := Try.underlying34
        generalize doN (moreN N (L2.take i)) L2[i] = DO at hdo HNX
        generalize L2[i].cells = DC at hcl hdo iC
        have hww : IntKind.i64.wrap ((i : Int) + 1) = (i : Int) + 1 := by rw [IntKind.wrap_i64]; omega
        clear hil HEND HDONE
        subst hxg
        go_wp2_with (first
          | (refine wpList_ldv rfl 34 (.tmp 41) rfl g (off + i * 7) rfl DC hcl uC rfl iC ?_)
          | (go_at_call 27; refine hdo.mono ?_; rintro z W5 ⟨rfl, hq5⟩; have HQ5 := Veil.mk hq5; clear hq5 hdo))
        go_roundw
        case rel =>
          obtain ⟨V5, v5, h1, h2⟩ := HQ5.out
          refine ⟨i + 1, V5, v5, ?_, hlt, h30, by rw [← HNX.out]; exact h1, HB.out.trans h2⟩
          push_cast; rfl
        case measure => simp [intOf]; omega
      · have hl3 : decide ((i : Int) < 30) = false := by simp; omega
        have hsm := HEND.out.1
        go_wp2_with (first
          | (go_at_call 13; refine hsm2.mono ?_; rintro z W6 ⟨rfl, hb6⟩; clear hsm2)
          | (go_at_call 13; refine hsm.mono ?_; rintro z W5 ⟨rfl, hb5⟩; have hsm2 := HEND.out.2 W5 hb5; clear hsm))
        have HE := Veil.mk (HDONE.out W6 (hb5.trans (hb6.mono hb5.size)))
        go_ret
        exact ⟨rfl, HE.out⟩
    · have hli : decide ((i : Int) < (len2 : Int)) = false := by simp; omega
      have hsm := HEND.out.1
      go_wp2_with (first
        | (go_at_call 13; refine hsm2.mono ?_; rintro z W6 ⟨rfl, hb6⟩; clear hsm2)
        | (go_at_call 13; refine hsm.mono ?_; rintro z W5 ⟨rfl, hb5⟩; have hsm2 := HEND.out.2 W5 hb5; clear hsm))
      have HE := Veil.mk (HDONE.out W6 (hb5.trans (hb6.mono hb5.size)))
      go_ret
      exact ⟨rfl, HE.out⟩
end Go.Proofs.Ytdkkenlehdblpaa

