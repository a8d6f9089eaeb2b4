/- fugue: play: deeds on both. -/
import Derived.Test.YtdkkenlehdblpaaFr4
namespace Go.Proofs.Ytdkkenlehdblpaa
open Go.RowKit Go.Shelf
set_option maxRecDepth 20000
set_option linter.unusedSimpArgs false
/-- The nodes behind deeds. -/
def playN (L : List Dd8) : List Nd := L.foldl doN []
theorem playN_ok (L : List Dd8) : TreeOk (playN L) := by
  unfold playN
  suffices h : ∀ (L : List Dd8) (N : List Nd), TreeOk N → TreeOk (L.foldl doN N) from h L [] TreeOk.nil
  intro L
  induction L with
  | nil => intro N h; exact h
  | cons d L ih => intro N h; exact ih _ (doN_ok h d)
theorem playN_snoc (L : List Dd8) (d : Dd8) : playN (L ++ [d]) = doN (playN L) d := by unfold playN; rw [List.foldl_append]; rfl
theorem playN_len (L : List Dd8) : (playN L).length ≤ L.length := by
  induction L using snoc_ind with
  | h0 => simp [playN]
  | h1 L d ih =>
    rw [playN_snoc, List.length_append, List.length_singleton]
    have := doN_len (playN L) d
    omega
/-- What play leaves. -/
structure PlayR (w : World) (L : List Dd8) (v0 : Value) (w' : World) : Prop where
  out : ∃ R bc bn V Q v, v0 = .tuple #[.pointer (some ⟨R, 0, none⟩), .pointer (some ⟨Q, 0, none⟩), .bool true] ∧ BothT w' w.heap.size R bc bn V Q v (playN (L.take 60)) ∧ Below w.heap.size w w'
set_option maxHeartbeats 8000000 in
theorem play8_any (x : Option Addr) (len cap : Nat) (L : List Dd8) (w : World) (hL : DeedsAt w x len cap L) :
    Calls Try.prog 11 #[.slice x len cap] w fun e w' => ∃ v0, e = .returned v0 ∧ PlayR w L v0 w' := by
  have hnew := newT_any w
  have HRN : Veil (∀ W, Calls Try.prog 28 #[] W fun e w' => ∃ R, e = .returned (.pointer (some ⟨R, 0, none⟩)) ∧ RefT w' W.heap.size R (.slice none 0 0) [] ∧ Below W.heap.size W w' ∧ W.heap.size ≤ R) := ⟨fun W => rnewT_any W⟩
  have HL := Veil.mk hL
  have hle := hL.le
  have htop := hL.top
  have HLE := Veil.mk hL.len_eq
  clear hL
  go_enter Try.func11, Try.ntmps11
  go_upto_region 2 with (first
    | (go_at_call 17; refine hnew.mono ?_; rintro z W1 ⟨R, bc, bn, rfl, hT, hb1, hR, hbc, hbn⟩; have hrn := HRN.out W1; clear hnew)
    | (go_at_call 28; refine hrn.mono ?_; rintro z W2 ⟨Q, rfl, hQ, hb2, hQl⟩))
  have hz1 := hb1.size
  have hz2 := hb2.size
  have hBT : BothT W2 w.heap.size R bc bn (fun _ => .slice none 0 0) Q (.slice none 0 0) (playN (L.take 0)) := by
    refine ⟨hT.far hb2, ⟨hQ.box, OwnI.nil _ _ _ _, by show (0 : Nat) ≤ 1000; omega⟩, TreeOk.nil, fun k hk hq => ?_, fun k hk => ?_, by omega⟩
    · have := hT.blockLt k hk
      rcases hq with q | q
      · omega
      · cases q
    · rcases hk with (q | q | q | ⟨s, _, q⟩) | q | q
      · omega
      · omega
      · omega
      · cases q
      · omega
      · cases q
  have hB2 : Below w.heap.size w W2 := hb1.trans (hb2.mono hb1.size)
  refine forget (p := fun y => Code.wp _ _ _ _ y) (fun W => ∃ V v, BothT W w.heap.size R bc bn V Q v (playN (L.take 0)) ∧ Below w.heap.size w W) ⟨_, _, hBT, hB2⟩ ?_
  clear hBT hB2 hb1 hb2 hT hQ hrn hz1 hz2 HRN hR hbc hbn hQl W1 W2
  rintro W0 h0
  go_wp2_with fail
  go_loopw [7] (fun p wr => ∃ (i : Nat) (V : (Int × Int) × Bool → Value) (v : Value), p = .int .i64 (i : Nat) ∧ i ≤ len ∧ i ≤ 60 ∧ BothT wr w.heap.size R bc bn V Q v (playN (L.take i)) ∧ Below w.heap.size w wr) (fun p _ => 60 - (intOf p).toNat)
  case atStart =>
    obtain ⟨V, v, h1, h2⟩ := h0
    exact ⟨0, V, v, rfl, Nat.zero_le _, Nat.zero_le _, h1, h2⟩
  case round =>
    obtain ⟨i, V, v, rfl, hi, hi60, hBT, hB⟩ := hrel
    clear h0
    have HB := Veil.mk hB
    have HBT := Veil.mk hBT
    clear hB hBT
    by_cases hlt : i < len
    · have hli : decide ((i : Int) < (len : Int)) = true := by simp; omega
      by_cases h60 : i < 60
      · have hl6 : decide ((i : Int) < 60) = true := by simp; omega
        have hil : i < L.length := by have := HLE.out; omega
        have hi0 : (0 : Int) ≤ (i : Int) := by omega
        have hlti : (i : Int) < (len : Int) := by omega
        obtain ⟨g, off, hxg, hcl⟩ : ∃ g off, x = some ⟨g, off, none⟩ ∧ wr.rangeAt g (off + i * 7) L[i].cells := by
          rcases (HL.out.below HB.out).at_ with h | ⟨g, off, hx, hc⟩
          · omega
          · exact ⟨g, off, hx, fun q u hu => hc i hil q u hu⟩
        have hdo := do8_any w.heap.size R bc bn V Q v (playN (L.take i)) L[i] (HL.out.ok _ (List.getElem_mem hil)) (by have := playN_len (L.take i); have := List.length_take_le i L; omega) wr HBT.out
        have HNX : Veil (doN (playN (L.take i)) L[i] = playN (L.take (i + 1))) := ⟨by rw [List.take_succ_eq_append_getElem hil, playN_snoc]⟩
        have iC : (Try.prog.info? 34).map (·.size) = some L[i].cells.length := by show _ = some 7; kernel_rfl
        have uC := Try.underlying34
        generalize doN (playN (L.take i)) L[i] = DO at hdo HNX
        generalize L[i].cells = DC at hcl hdo iC
        have hww : IntKind.i64.wrap ((i : Int) + 1) = (i : Int) + 1 := by rw [IntKind.wrap_i64]; omega
        clear hil
        subst hxg
        go_wp2_with (first
          | (refine wpList_ldv rfl 34 (.tmp 24) rfl g (off + i * 7) rfl DC hcl uC rfl iC ?_)
          | (go_at_call 27; refine hdo.mono ?_; rintro z W3 ⟨rfl, hq3⟩; have HQ3 := Veil.mk hq3; clear hq3 hdo))
        go_roundw
        case rel =>
          obtain ⟨V3, v3, h1, h2⟩ := HQ3.out
          exact ⟨i + 1, V3, v3, by push_cast; rfl, hlt, h60, by rw [← HNX.out]; exact h1, HB.out.trans h2⟩
        case measure => simp [intOf]; omega
      · have hl6 : decide ((i : Int) < 60) = false := by simp; omega
        have HE : Veil (L.take i = L.take 60) := ⟨by rw [show i = 60 by omega]⟩
        have HPR : Veil (PlayR w L (.tuple #[.pointer (some ⟨R, 0, none⟩), .pointer (some ⟨Q, 0, none⟩), .bool true]) wr) := ⟨⟨R, bc, bn, V, Q, v, rfl, by rw [← HE.out]; exact HBT.out, HB.out⟩⟩
        go_wp2
        refine bodyPost_ret (results_tmp3 rfl _ _ _) rfl ?_
        exact ⟨_, rfl, HPR.out⟩
    · have hli : decide ((i : Int) < (len : Int)) = false := by simp; omega
      have HE : Veil (L.take i = L.take 60) := ⟨by have := HLE.out; rw [List.take_of_length_le (by omega), List.take_of_length_le (by omega)]⟩
      have HPR : Veil (PlayR w L (.tuple #[.pointer (some ⟨R, 0, none⟩), .pointer (some ⟨Q, 0, none⟩), .bool true]) wr) := ⟨⟨R, bc, bn, V, Q, v, rfl, by rw [← HE.out]; exact HBT.out, HB.out⟩⟩
      go_wp2
      refine bodyPost_ret (results_tmp3 rfl _ _ _) rfl ?_
      exact ⟨_, rfl, HPR.out⟩
end Go.Proofs.Ytdkkenlehdblpaa

