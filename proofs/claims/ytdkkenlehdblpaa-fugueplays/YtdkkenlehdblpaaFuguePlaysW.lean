/- FuguePlays, walked. -/
import Derived.Test.YtdkkenlehdblpaaFr12
namespace Go.Proofs.Ytdkkenlehdblpaa
open Go.RowKit Go.Shelf
set_option maxRecDepth 20000
set_option linter.unusedSimpArgs false
theorem wfI64 {a : Int} (h : (Lit.int .i64 a).wf = true) : a ≤ 9223372036854775807 := by
  have h : (decide ((-9223372036854775808 : Int) ≤ a) && decide (a ≤ 9223372036854775807)) = true := h
  simp at h
  exact h.2
set_option maxHeartbeats 8000000 in
theorem fplays_walk (x : Option Addr) (len cap : Nat) (L : List Dd8) (i : Int) (hi : i ≤ 9223372036854775807) (w : World) (hL : DeedsAt w x len cap L) :
    Calls Try.prog 3 #[.slice x len cap, .int .i64 i] w fun e w' => e = .returned (.bool true) ∧ Below w.heap.size w w' := by
  have hpl := play8_any x len cap L w hL
  obtain ⟨N, hNN⟩ : ∃ q, playN (L.take 60) = q := ⟨_, rfl⟩
  have HLN : Veil (N.length ≤ 60) := ⟨by rw [← hNN]; have := playN_len (L.take 60); have := List.length_take_le 60 L; omega⟩
  have HPL : Veil (∀ v0 W, PlayR w L v0 W → ∃ R Q, v0 = .tuple #[.pointer (some ⟨R, 0, none⟩), .pointer (some ⟨Q, 0, none⟩), .bool true] ∧ Veil (Below w.heap.size w W ∧ ∀ W', Below W.heap.size W W' → Calls Try.prog 13 #[.pointer (some ⟨R, 0, none⟩), .pointer (some ⟨Q, 0, none⟩), .int .i64 i] W' fun e w' => e = .returned (.bool true) ∧ Below W'.heap.size W' w')) := ⟨fun v0 W ⟨R, bc, bn, V, Q, v, h1, h2, h3⟩ => ⟨R, Q, h1, h3, fun W' hb => same8_any _ R bc bn V Q v _ (by rw [hNN]; have := HLN.out; omega) i hi W' (h2.far hb)⟩⟩
  have HLV : Veil (∀ W, Calls Try.prog 12 #[] W fun e w' => e = .returned (.bool true) ∧ Below W.heap.size W w') := ⟨fun W => live8_any W⟩
  clear hNN hL
  go_enter Try.func3, Try.ntmps3
  go_wp2_with (first
    | (go_at_call 11; refine hpl.mono ?_; rintro z W1 ⟨v0, rfl, hpr⟩; obtain ⟨R, Q, rfl, HQ⟩ := HPL.out v0 W1 hpr; have hlv := HLV.out W1; clear hpl hpr)
    | (go_at_call 12; refine hlv.mono ?_; rintro z W2 ⟨rfl, hb2⟩; have hsm := HQ.out.2 W2 hb2; clear hlv)
    | (go_at_call 13; refine hsm.mono ?_; rintro z W3 ⟨rfl, hb3⟩; clear hsm))
  have HE := Veil.mk (HQ.out.1.trans ((hb2.trans (hb3.mono hb2.size)).mono HQ.out.1.size))
  go_ret
  exact ⟨rfl, HE.out⟩
end Go.Proofs.Ytdkkenlehdblpaa

