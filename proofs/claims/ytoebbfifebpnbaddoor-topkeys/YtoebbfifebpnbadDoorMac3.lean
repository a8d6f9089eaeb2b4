/- 'each', 'fill', 'pass', 'tag', 'Hmac': the tag of parts under a key. -/
import Derived.Test.YtoebbfifebpnbadDoorMac2
namespace Go.Proofs.YtoebbfifebpnbadDoor
open Go.RowKit
set_option maxRecDepth 20000

/-- Bytes that are one of the parts: where their slice says, and what they are. -/
structure Part where
  x : Option Addr
  len : Nat
  cap : Nat
  z : List Int

/-- The parts lie in a row of slices in block pb, and stay so wherever nothing below base turns. -/
def PartsAt (w : World) (base pb : Nat) (ps : List Part) : Prop :=
  ∀ w', Below base w w' → ∀ j (hj : j < ps.length), w'.cell? ⟨pb, j, none⟩ = some (.slice ps[j].x ps[j].len ps[j].cap) ∧ Bytes w' ps[j].x ps[j].len ps[j].cap ps[j].z
def allOf (ps : List Part) : List Int := ps.flatMap (·.z)
theorem allOf_snoc (ps : List Part) (k : Nat) (h : k < ps.length) : allOf (ps.take (k + 1)) = allOf (ps.take k) ++ ps[k].z := by
  unfold allOf
  rw [List.take_succ_eq_append_getElem h, List.flatMap_append]
  simp

theorem each_any (H base pb n cap : Nat) (v : Value) (zs : List Int) (ps : List Part) (w : World) (hbox : Box w H 47 v) (hown : OwnB w base v zs) (hH : base ≤ H) (hps : PartsAt w base pb ps) (hn : n = ps.length) (hn2 : n ≤ 1000)
    (hlen : ∀ k, k ≤ ps.length → zs.length + (allOf (ps.take k)).length ≤ 1000000) (hlen2 : ∀ p ∈ ps, p.len ≤ 1000000) :
    Calls Tryd.prog 14 #[.func (.func 15) #[.pointer (some ⟨H, 0, none⟩)] #[], .slice (some ⟨pb, 0, none⟩) n cap] w fun e w' => (∃ r, e = .returned r) ∧ ∃ v', Box w' H 47 v' ∧ OwnB w' base v' (zs ++ allOf ps) ∧ Below base w w' := by
  have HN : Hid (n = ps.length) := hn
  clear hn
  go_enter Tryd.func14, Tryd.ntmps14
  go_wp2_with fail
  go_loopw [8] (fun i wr => ∃ k : Nat, k ≤ n ∧ i = .int .i64 k ∧ Below base w wr ∧ ∃ v, Box wr H 47 v ∧ OwnB wr base v (zs ++ allOf (ps.take k))) (fun i _ => n - (intOf i).toNat)
  case atStart => exact ⟨0, by omega, rfl, Below.refl _ _, v, hbox, by simpa [allOf] using hown⟩
  case round =>
    obtain ⟨k, hk, rfl, hB, v1, hb1, ho1⟩ := hrel
    by_cases hlt : k < n
    · have hkp : k < ps.length := by have := HN.out; omega
      obtain ⟨hc, hy⟩ := hps wr hB k hkp
      have hl1 := hlen k (by omega)
      have hl2 := hlen2 ps[k] (List.getElem_mem hkp)
      have tk := take_any H base v1 (zs ++ allOf (ps.take k)) ps[k].x ps[k].len ps[k].cap ps[k].z wr hb1 ho1 hy (by rw [List.length_append]; omega) hH
      have hsn := allOf_snoc ps k hkp
      rw [List.append_assoc, ← hsn] at tk
      obtain ⟨X, hX⟩ : ∃ X, ps[k].x = X := ⟨_, rfl⟩
      obtain ⟨L, hL⟩ : ∃ X, ps[k].len = X := ⟨_, rfl⟩
      obtain ⟨C, hC⟩ : ∃ X, ps[k].cap = X := ⟨_, rfl⟩
      rw [hX, hL, hC] at hc tk
      clear hX hL hC hsn hl1 hl2 hy hlen hlen2
      go_wp2_with (go_at_call 15; refine tk.mono ?_; rintro e w2 ⟨⟨r, rfl⟩, v2, hb2, ho2, hB2⟩)
      go_roundw
      case rel =>
        first
          | exact ⟨k + 1, by omega, by go_num, hB.trans hB2, v2, hb2, ho2⟩
          | ((repeat apply Exists.intro); exact ⟨⟨k + 1, by omega, by go_num, hB.trans hB2, v2, hb2, ho2⟩, rfl⟩)
      case measure => simp [intOf]; omega
    · obtain rfl : k = n := by omega
      go_wp2
      go_end0
      rw [List.take_of_length_le (by have := HN.out; omega)] at ho1
      exact ⟨⟨_, rfl⟩, v1, hb1, ho1, hB⟩

/-- A key that fills a block: its digest where it is longer; noughts behind. -/
def fillL (k : List Int) : List Int := (if 64 < k.length then sumL k else k) ++ List.replicate (64 - (if 64 < k.length then sumL k else k).length) 0
theorem fillL_length (k : List Int) : (fillL k).length = 64 := by
  unfold fillL
  by_cases h : 64 < k.length
  · rw [if_pos h, List.length_append, sumL_length, List.length_replicate]
  · rw [if_neg h, List.length_append, List.length_replicate]; omega
end Go.Proofs.YtoebbfifebpnbadDoor
