/- Hmac. -/
import Derived.Test.YtoebbfifebpnbadDoorMac6
namespace Go.Proofs.YtoebbfifebpnbadDoor
open Go.RowKit
set_option maxRecDepth 20000
set_option linter.unusedSimpArgs false

set_option maxHeartbeats 1000000 in
theorem hmac_any (x : Option Addr) (len cap : Nat) (z : List Int) (y : Option Addr) (lb cb : Nat) (b : List Int) (w : World) (hx : Bytes w x len cap z) (hln : len ≤ 1000000) (hy : Bytes w y lb cb b) (hlb : lb ≤ 900000) (hKT : KTab w) :
    Calls Tryd.prog 5 #[.slice x len cap, .slice y lb cb] w fun e w' => e = .returned (.agg (row .u8 (tagL z b))) ∧ Below w.heap.size w w' := by
  have hTl := tagL_length z b
  have hyl := hy.len_eq
  have htg : ∀ (pb : Nat) (wx : World), Below w.heap.size w wx → PartsAt wx wx.heap.size pb [⟨y, lb, cb, b⟩] → Calls Tryd.prog 8 #[.slice x len cap, .slice (some ⟨pb, 0, none⟩) 1 1] wx fun e w' => e = .returned (.agg (row .u8 (tagL z b))) ∧ Below wx.heap.size wx w' := fun pb wx h1 h2 => by
    have := tag_any x len cap z pb 1 1 [⟨y, lb, cb, b⟩] wx (hx.below h1) hln h2 rfl (by omega) (fun j hj => by
      have : (allOf (List.take j [(⟨y, lb, cb, b⟩ : Part)])).length ≤ 900000 := by
        match j with
        | 0 => simp [allOf]
        | j + 1 => simp [allOf]; omega
      omega) (fun p hp => by simp at hp; subst hp; show lb ≤ 1000000; omega) (hKT.below h1)
    have e : allOf [(⟨y, lb, cb, b⟩ : Part)] = b := by simp [allOf]
    rw [e] at this
    exact this
  obtain ⟨TG, hTG⟩ : ∃ q, tagL z b = q := ⟨_, rfl⟩
  rw [hTG] at hTl htg ⊢
  clear hTG hx hyl
  go_enter Tryd.func5, Tryd.ntmps5
  go_upto_region 1 with fail
  refine forget (p := fun y => Code.wp _ _ _ _ y) (fun W0 => Below w.heap.size w W0 ∧ W0.heap.size = w.heap.size + 1 ∧ Holds W0 w.heap.size .u8 23 (List.replicate 32 0)) ⟨(Below.refl _ _).alloc (Nat.le_refl _) _, by simp, Holds.new w .u8 23 (List.replicate 32 0)⟩ ?_
  rintro W0 ⟨hB0, hs0, hR0⟩
  have hB1 : Below W0.heap.size W0 (W0.alloc (.cells #[.slice y lb cb] 24)) := (Below.refl _ _).alloc (Nat.le_refl _) _
  have hBw : Below w.heap.size w (W0.alloc (.cells #[.slice y lb cb] 24)) := hB0.trans (hB1.mono hB0.size)
  have hp1 : PartsAt (W0.alloc (.cells #[.slice y lb cb] 24)) (W0.alloc (.cells #[.slice y lb cb] 24)).heap.size (w.heap.size + 1) [⟨y, lb, cb, b⟩] :=
    partsOne (t := 24) (by have := heap_alloc_new W0 (.cells #[.slice y lb cb] 24); rw [hs0] at this; exact this) (by simp [hs0]) (Nat.le_refl _) (hy.below hBw) (fun bb off h hl => by
      rcases hy.at_ with h0 | ⟨b', off', hx', hc⟩
      · omega
      · have e : bb = b' := by
          rw [h] at hx'
          injection hx' with h1
          injection h1
        have hlt : b' < w.heap.size := block_lt_of_cell (hc 0 hl)
        rw [e, World.size_alloc, hs0]; omega)
  have ht1 := htg _ _ hBw hp1
  have hR1 := hR0.below hB1 hR0.lt
  clear htg hp1 hy hR0
  go_wp2_with (first
    | (go_at_call 8; refine ht1.mono ?_; rintro e w2 ⟨rfl, hb2⟩; have hR2 := hR1.below hb2 hR1.lt)
    | (refine wpList_st rfl 23 _ _ rfl _ rfl rfl hR2 (by rw [hTl]; exact sizeKey) (by simp [hTl]) ?_))
  refine bodyPost_ret (results_holds (Tryd.results5) _ rfl (hR2.setRow _) Tryd.underlying23 sizeKey hTl) rfl ⟨rfl, ?_⟩
  exact below_setRow (hBw.trans (hb2.mono hBw.size)) (Nat.le_refl _) _
end Go.Proofs.YtoebbfifebpnbadDoor
