/- DocForksW -/
import Derived.Test.YtmbdohnmbkpfaaaGreatV48
import Derived.Test.YtmbdohnmbkpfaaaGreatV47
import Derived.Test.YtmbdohnmbkpfaaaGreatV52
import Derived.Test.YtmbdohnmbkpfaaaGreatV44
namespace Go.Proofs.YtmbdohnmbkpfaaaGreat
open Go.RowKit Go.Shelf
set_option maxRecDepth 20000
set_option linter.unusedSimpArgs false
def moreX (st : Ds) (L : List Ed) : Ds := L.foldl stepX st
theorem moreX_snoc (st : Ds) (L : List Ed) (d : Ed) : moreX st (L ++ [d]) = stepX (moreX st L) d := by unfold moreX; rw [List.foldl_append]; rfl
theorem BothD.forked {B : Nat} {W1 W2 W3 : World} {st : Ds} {p : Pl} {q : Rp} (hz : B ≤ W1.heap.size) (h1 : DocAt W2 B st p) (hb2 : Below B W1 W2) (ha : ∀ k, docP p k → B ≤ k) (hR : RDocAt W3 W2.heap.size st q) (hb : Below W2.heap.size W2 W3) (hr : ∀ k, rdocP q k → W2.heap.size ≤ k) (hg : GoodD st) (hG : GoodR st q.K q.G) : BothD B W3 st st p.D q.D [] :=
 have hz2 : B ≤ W2.heap.size := Nat.le_trans hz hb2.size
 ⟨p, q, rfl, rfl, ⟨h1.far hb, ⟨hR.box, ⟨hR.tree.box, hR.tree.own.less hz2, hR.tree.len⟩, ⟨hR.book.cells, hR.book.ev.less hz2, hR.book.bo.less hz2⟩, hR.evs.less hz2, hR.flags.less hz2, hR.apart1, hR.apart2⟩, hg, hg, hG, ha, fun k hk => Nat.le_trans hz2 (hr k hk), fun k hk hq => by
  have := h1.blockLt k hk
  have := hr k hq
  omega, fun x hx => by cases hx⟩⟩
set_option maxHeartbeats 16000000 in
theorem dforks_walk (x : Option Addr) (len cap : Nat) (L : List Ed) (x2 : Option Addr) (len2 cap2 : Nat) (L2 : List Ed) (w : World) (hL : EdsAt w x len cap L) (hL2 : EdsAt w x2 len2 cap2 L2) :
    Calls Tryz.prog 10 #[.slice x len cap, .slice x2 len2 cap2] w fun e w' => e = .returned (.bool true) ∧ Below w.heap.size w w' := by
 have hpl := play10_any x len cap L w hL
 obtain ⟨st, hst⟩ : ∃ q, playX (L.take 50) = q := ⟨_, rfl⟩
 have HPL : Veil (∀ v0 W, PlayX w L v0 W → ∃ D Q, v0 = .tuple #[.pointer (some ⟨D, 0, none⟩), .pointer (some ⟨Q, 0, none⟩), .bool true] ∧ Veil (BothD w.heap.size W st st D Q [] ∧ Below w.heap.size w W)) := ⟨fun v0 W ⟨D, Q, h1, h2, h3⟩ => ⟨D, Q, h1, ⟨by rw [hst] at h2; exact h2, h3⟩⟩⟩
 have HLV : Veil (∀ W, Calls Tryz.prog 12 #[] W fun e w' => e = .returned (.bool true) ∧ Below W.heap.size W w') := ⟨fun W => live10_any W⟩
 have HFD : Veil (∀ W D Q, BothD w.heap.size W st st D Q [] → Calls Tryz.prog 29 #[.pointer (some ⟨D, 0, none⟩)] W fun r w' => ∃ q, r = .returned (.pointer (some ⟨q.D, 0, none⟩)) ∧ DocAt w' W.heap.size st q ∧ Below W.heap.size W w' ∧ ∀ k, docP q k → W.heap.size ≤ k) := ⟨fun W D Q ⟨p, q, e1, _, h⟩ => by
  subst e1
  exact dfork_any _ st p W h.d h.g1⟩
 have HFR : Veil (∀ W D Q, BothD w.heap.size W st st D Q [] → GoodD st ∧ Calls Tryz.prog 32 #[.pointer (some ⟨Q, 0, none⟩)] W fun r w' => ∃ q, r = .returned (.pointer (some ⟨q.D, 0, none⟩)) ∧ RDocAt w' W.heap.size st q ∧ GoodR st q.K q.G ∧ Below W.heap.size W w' ∧ ∀ k, rdocP q k → W.heap.size ≤ k) := ⟨fun W D Q ⟨p, q, _, e2, h⟩ => by
  subst e2
  refine ⟨h.g1, (rfork10_any _ st q W h.r h.g2 h.rel).mono ?_⟩
  rintro r w' ⟨q', h1, h2, h3, h4, h5, h6⟩
  exact ⟨q', h1, h2, by rw [h3, h4]; exact h.rel, h5, h6⟩⟩
 have HL2 := Veil.mk hL2
 have hle := hL2.le
 have htop := hL2.top
 have HLE := Veil.mk hL2.len_eq
 clear hst hL hL2
 go_enter Tryz.func10, Tryz.ntmps10
 go_upto_region 4 with (first
  | (go_at_call 11; refine hpl.mono ?_; rintro z W1 ⟨v0, rfl, hpr⟩; obtain ⟨D, Q, rfl, HQ⟩ := HPL.out v0 W1 hpr; have hlv := HLV.out W1; clear hpl hpr)
  | (go_at_call 12; refine hlv.mono ?_; rintro z W2 ⟨rfl, hb2⟩; clear hlv))
 have HQ2 : Veil (BothD w.heap.size W2 st st D Q [] ∧ Below w.heap.size w W2) := ⟨HQ.out.1.far hb2, HQ.out.2.trans (hb2.mono HQ.out.2.size)⟩
 clear HQ hb2 HPL HLV
 have hfk := HFD.out W2 D Q HQ2.out.1
 go_upto_region 5 with (first
  | (go_at_call 29; refine hfk.mono ?_; rintro z W3 ⟨p, rfl, hT3, hb3, ht3⟩; obtain ⟨hg3, hrk⟩ := HFR.out W3 D Q (HQ2.out.1.far hb3); clear hfk)
  | (go_at_call 32; refine hrk.mono ?_; rintro z W4 ⟨q, rfl, hR4, hG4, hb4, hr4⟩; clear hrk))
 have HF : Veil (BothD W2.heap.size W4 (moreX st (L2.take 0)) (moreX st (L2.take 0)) p.D q.D [] ∧ Below W2.heap.size W2 W4) := ⟨BothD.forked (Nat.le_refl _) hT3 hb3 ht3 hR4 hb4 hr4 hg3 hG4, hb3.trans (hb4.mono hb3.size)⟩
 generalize p.D = D' at HF ⊢
 generalize q.D = Q' at HF ⊢
 clear hT3 hb3 ht3 hR4 hG4 hb4 hr4 hg3 HFD HFR W3 p q
 go_wp2_with fail
 go_loopw [10] (fun p wr => ∃ (i : Nat), p = .int .i64 (i : Nat) ∧ i ≤ len2 ∧ i ≤ 20 ∧ BothD W2.heap.size wr (moreX st (L2.take i)) (moreX st (L2.take i)) D' Q' [] ∧ Below W2.heap.size W2 wr) (fun p _ => 20 - (intOf p).toNat)
 case atStart => exact ⟨0, rfl, Nat.zero_le _, Nat.zero_le _, HF.out.1, HF.out.2⟩
 case round =>
  obtain ⟨i, rfl, hi, hi20, hBT, hB⟩ := hrel
  clear HF
  have HB := Veil.mk hB
  have HBT := Veil.mk hBT
  have HBW : Veil (Below w.heap.size w wr) := ⟨HQ2.out.2.trans (hB.mono HQ2.out.2.size)⟩
  clear hB hBT
  have HEND : Veil (Calls Tryz.prog 13 #[.pointer (some ⟨D, 0, none⟩), .pointer (some ⟨Q, 0, none⟩)] wr (fun e w' => e = .returned (.bool true) ∧ Below wr.heap.size wr w') ∧ ∀ W', Below wr.heap.size wr W' → Calls Tryz.prog 13 #[.pointer (some ⟨D', 0, none⟩), .pointer (some ⟨Q', 0, none⟩)] W' fun e w' => e = .returned (.bool true) ∧ Below W'.heap.size W' w') := ⟨same10_any _ st D Q _ wr (HQ2.out.1.far HB.out), fun W' hb => same10_any _ _ D' Q' _ W' (HBT.out.far hb)⟩
  have HDONE : Veil (∀ W', Below wr.heap.size wr W' → Below w.heap.size w W') := ⟨fun W' hb => HBW.out.trans (hb.mono HBW.out.size)⟩
  by_cases hlt : i < len2
  · have hli : decide ((i : Int) < (len2 : Int)) = true := by simp; omega
    by_cases h20 : i < 20
    · have hl2 : decide ((i : Int) < 20) = true := by simp; omega
      have hil : i < L2.length := by have := HLE.out; omega
      have hi0 : (0 : Int) ≤ (i : Int) := by omega
      have hlti : (i : Int) < (len2 : Int) := by omega
      obtain ⟨g, off, hxg, hcl⟩ : ∃ g off, x2 = some ⟨g, off, none⟩ ∧ wr.rangeAt g (off + i * 23) L2[i].cells := by
       rcases (HL2.out.below HBW.out).at_ with h | ⟨g, off, hx, hc⟩
       · omega
       · exact ⟨g, off, hx, fun q u hu => hc i hil q u hu⟩
      have hok := HL2.out.ok _ (List.getElem_mem hil)
      have hdo := do10_any W2.heap.size (moreX st (L2.take i)) D' Q' L2[i] wr HBT.out hok HB.out.size
      have HNX : Veil (stepX (moreX st (L2.take i)) L2[i] = moreX st (L2.take (i + 1))) := ⟨by rw [List.take_succ_eq_append_getElem hil, moreX_snoc]⟩
      have iC : (Tryz.prog.info? 56).map (·.size) = some L2[i].cells.length := by rw [(ed_parts L2[i] hok.e.past).2.2.2.2.2.2.2.2]; kernel_rfl
      have uC := Tryz.underlying56
      generalize stepX (moreX st (L2.take i)) L2[i] = DO at hdo HNX
      generalize L2[i].cells = DC at hcl hdo iC
      have hww : IntKind.i64.wrap ((i : Int) + 1) = (i : Int) + 1 := by rw [IntKind.wrap_i64]; omega
      clear hil hok HEND HDONE
      subst hxg
      go_wp2_with (first
       | (refine wpList_ldv rfl 56 (.tmp 41) rfl g (off + i * 23) rfl DC hcl uC rfl iC ?_)
       | (go_at_call 33; refine hdo.mono ?_; rintro z W5 ⟨rfl, hq5⟩; have HQ5 := Veil.mk hq5; clear hq5 hdo))
      go_roundw
      case rel => exact ⟨i + 1, by push_cast; rfl, hlt, h20, by rw [← HNX.out]; exact HQ5.out.1, HB.out.trans HQ5.out.2⟩
      case measure => simp [intOf]; omega
    · have hl2 : decide ((i : Int) < 20) = false := by simp; omega
      obtain ⟨hs1, hs2⟩ := HEND.out
      have HS2 := Veil.mk hs2
      clear HEND hs2
      go_wp2_with (first
       | (go_at_call 13; refine hs3.mono ?_; rintro z W6 ⟨rfl, hb6⟩; clear hs3)
       | (go_at_call 13; refine hs1.mono ?_; rintro z W5 ⟨rfl, hb5⟩; have hs3 := HS2.out W5 hb5; clear hs1))
      have HQ := Veil.mk (HDONE.out W6 (hb5.trans (hb6.mono hb5.size)))
      go_ret
      exact ⟨rfl, HQ.out⟩
  · have hli : decide ((i : Int) < (len2 : Int)) = false := by simp; omega
    obtain ⟨hs1, hs2⟩ := HEND.out
    have HS2 := Veil.mk hs2
    clear HEND hs2
    go_wp2_with (first
     | (go_at_call 13; refine hs3.mono ?_; rintro z W6 ⟨rfl, hb6⟩; clear hs3)
     | (go_at_call 13; refine hs1.mono ?_; rintro z W5 ⟨rfl, hb5⟩; have hs3 := HS2.out W5 hb5; clear hs1))
    have HQ := Veil.mk (HDONE.out W6 (hb5.trans (hb6.mono hb5.size)))
    go_ret
    exact ⟨rfl, HQ.out⟩
end Go.Proofs.YtmbdohnmbkpfaaaGreat
