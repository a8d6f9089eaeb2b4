/- keys: at first only member 0 has a key. -/
import Derived.Test.YtlalcnmcnkompaaDoorMEvmKz3
import Derived.Test.YtlalcnmcnkompaaDoorMEqdEvl
namespace Go.Proofs.YtlalcnmcnkompaaDoor
open Go.RowKit
set_option maxRecDepth 20000
set_option linter.unusedSimpArgs false

set_option maxHeartbeats 4000000 in
theorem first_no (own : Int) (seed : List Int) (w : World) (h8 : 8 ≤ own) (hKT : S.KTab w) (hs : seed.length = 32) :
    Calls Tryd.prog 6 #[.int .u8 own, .agg (row .u8 seed)] w fun e w' => e = .returned (.bool true) ∧ Below w.heap.size w w' := by
  have hB : Below w.heap.size w (w.alloc (.cells (row .u8 seed) 23)) := (Below.refl _ _).alloc (Nat.le_refl _) _
  have hk0 := Holds.new w .u8 23 seed
  have hn := new_none own seed (w.alloc (.cells (row .u8 seed) 23)) h8
  have HL : Veil (∀ W, Below w.heap.size w W → Calls Tryd.prog 11 #[] W fun e w' => e = .returned (.bool true) ∧ Below W.heap.size W w') := ⟨fun W hb => klive_any W (hKT.below hb)⟩
  have h7 : (7 : Int) < own := by omega
  go_enter Tryd.func6, Tryd.ntmps6
  go_wp2_with (first
    | (refine wpList_ld rfl 23 _ rfl _ rfl hk0 Tryd.underlying23 sizeKeyD hs ?_)
    | (go_at_call 9; refine hn.mono ?_; rintro e w1 ⟨rfl, hb1⟩; have hB1 := hB.trans (hb1.mono hB.size); have hlv := HL.out w1 hB1)
    | (go_at_call 11; refine hlv.mono ?_; rintro e w2 ⟨rfl, hb2⟩))
  go_ret
  exact ⟨rfl, hB1.trans (hb2.mono hB1.size)⟩
set_option maxHeartbeats 4000000 in
theorem first_yes (own : Int) (seed : List Int) (w : World) (h0 : 0 ≤ own) (h8 : own < 8) (hKT : S.KTab w) (hs : seed.length = 32) :
    Calls Tryd.prog 6 #[.int .u8 own, .agg (row .u8 seed)] w fun e w' => e = .returned (.bool true) ∧ Below w.heap.size w w' := by
  have hB : Below w.heap.size w (w.alloc (.cells (row .u8 seed) 23)) := (Below.refl _ _).alloc (Nat.le_refl _) _
  have hk0 := Holds.new w .u8 23 seed
  have hn := new_any own seed (w.alloc (.cells (row .u8 seed) 23)) h8 hs (hKT.below hB)
  have HL : Veil (∀ W, Below w.heap.size w W → Calls Tryd.prog 11 #[] W fun e w' => e = .returned (.bool true) ∧ Below W.heap.size W w') := ⟨fun W hb => klive_any W (hKT.below hb)⟩
  have h7 : ¬ (7 : Int) < own := by omega
  have HNOW : Veil (∀ W base H b v, RingAt W base H own seed b (newM own seed) v (newD own) → Calls Tryd.prog 24 #[.pointer (some ⟨H, 0, none⟩)] W fun e w' => e = .returned (.tuple #[.agg (dotC 0 0).toArray, .bool (own == 0)]) ∧ Below W.heap.size W w') := ⟨fun W base H b v hR => by
    by_cases e : own = 0
    · subst e
      exact now_some base H 0 seed b _ v [] W 0 0 hR
    · have hd : newD own = [] := if_neg e
      rw [hd] at hR
      rw [show (own == 0) = false by simpa using e]
      exact now_none base H own seed b _ v W hR⟩
  have HHAS : Veil ((newM own seed 0 0).isSome = (own == 0)) := ⟨by
    by_cases e : own = 0
    · subst e; rfl
    · unfold newM; rw [if_neg e, show (own == 0) = false by simpa using e]; rfl⟩
  have HLEN : Veil ((newD own).length ≤ 1) := ⟨by unfold newD; split <;> simp⟩
  obtain ⟨z0, hz0⟩ : ∃ q, (own == 0) = q := ⟨_, rfl⟩
  rw [hz0] at HNOW HHAS
  have hd0 := dot_eql 0 0 0 0
  simp only [beq_self_eq_true, Bool.and_self] at hd0
  have HBZ : Veil (∀ wx, (Instr.build 36 #[]).run Tryd.prog wx = .ok (.agg (dotC 0 0).toArray) wx) := ⟨fun wx => by kernel_rfl⟩
  go_enter Tryd.func6, Tryd.ntmps6
  go_upto_region 4 with (first
    | (refine wpList_ld rfl 23 _ rfl _ rfl hk0 Tryd.underlying23 sizeKeyD hs ?_)
    | (go_at_call 9; refine hn.mono ?_; rintro e w1 ⟨H, b, v, rfl, hR, hb1⟩; have hB1 := hB.trans (hb1.mono hB.size)))
  have hnow := HNOW.out w1 _ H b v hR
  go_upto_region 5 with (first
    | (go_at_call 24; refine hnow.mono ?_; rintro e w2 ⟨rfl, hb2⟩; have hA1 := CellsAt.new w2 36 (dotC 0 0))
    | (refine wpList_stv rfl 36 _ _ rfl _ rfl (cs := dotC 0 0) rfl hA1 sizeDotK rfl (dot_oneK 0 0) ?_))
  have hB2 := hB1.trans (hb2.mono hB1.size)
  have hR2 := hR.far (hb2.trans ((below_setRow ((Below.refl _ _).alloc (Nat.le_refl _) (.cells (dotC 0 0).toArray 36)) (Nat.le_refl _) (dotC 0 0).toArray).mono hb2.size))
  refine forget (p := fun y => Code.wp _ _ _ _ y) (fun V => Below w.heap.size w V ∧ RingAt V (w.alloc (.cells (row .u8 seed) 23)).heap.size H own seed b (newM own seed) v (newD own) ∧ CellsAt V w2.heap.size 36 (dotC 0 0)) ⟨below_setRow (hB2.alloc hB2.size _) hB2.size _, hR2, hA1.setRow _⟩ ?_
  clear hR hR2 hA1 hB2 hb2 hnow hb1 hB1 hn hk0 hB
  obtain ⟨G, hG⟩ : ∃ q, w2.heap.size = q := ⟨_, rfl⟩
  rw [hG]
  clear hG
  rintro V ⟨hB, hR, hd⟩
  have hlv := HL.out V hB
  generalize (w.alloc (.cells (row .u8 seed) 23)).heap.size = bs at hR
  have HE : Veil (∀ W, Below V.heap.size V W → W.rangeAt G 0 (dotC 0 0) ∧ (Calls Tryd.prog 25 #[.pointer (some ⟨H, 0, none⟩)] W fun e w' => (∃ x n c, e = .returned (.slice x n c) ∧ n ≤ 1) ∧ Below W.heap.size W w') ∧ (∀ W', Below W.heap.size W W' → Calls Tryd.prog 20 #[.pointer (some ⟨H, 0, none⟩), .agg (dotC 0 0).toArray] W' fun e w' => e = .returned (.bool z0) ∧ Below W'.heap.size W' w')) := ⟨fun W hb => ⟨(hd.congr (hb.block _ hd.lt)).range 0 2, (epochs_any bs H own seed b _ v _ W (hR.far hb)).mono fun e w' ⟨v', h1, h2, h3⟩ => by
      obtain ⟨x, c, hx⟩ := h2.isSlice
      exact ⟨⟨x, _, c, by rw [h1, hx], HLEN.out⟩, h3⟩, fun W' hb' => by
      have := rHas_any bs H own seed b _ v _ W' 0 0 okZ ((hR.far hb).far hb')
      rw [HHAS.out] at this
      exact this⟩⟩
  clear hR hd HL HNOW HHAS
  go_wp2_with (first
    | (go_at_call 11; refine hlv.mono ?_; rintro e w5 ⟨rfl, hb5⟩; obtain ⟨rD, hep, hhs⟩ := HE.out w5 hb5)
    | (refine wpList_ldgv (by kernel_rfl) 36 _ rfl _ _ rfl [.int .u8 0, .int .u32 0] rD Tryd.underlying36 rfl sizeDotK ?_)
    | (go_at_call 25; refine hep.mono ?_; rintro e w6 ⟨⟨x6, n6, c6, rfl, hn6⟩, hb6⟩; have hh := hhs w6 hb6; have hn6' : (n6 : Int) ≤ 1 := by omega)
    | (go_at_call 20; refine hh.mono ?_; rintro e w7 ⟨rfl, hb7⟩))
  go_ret
  have hB5 := hB.trans (hb5.mono hB.size)
  have hB6 := hB5.trans (hb6.mono hB5.size)
  exact ⟨by simp, hB6.trans (hb7.mono hB6.size)⟩
theorem first_walk (own : Int) (seed : List Int) (w : World) (h0 : 0 ≤ own ∧ own ≤ 255) (hs : seed.length = 32) (hKT : S.KTab w) :
    Calls Tryd.prog 6 #[.int .u8 own, .agg (row .u8 seed)] w fun e w' => e = .returned (.bool true) ∧ Below w.heap.size w w' := by
  by_cases h8 : 8 ≤ own
  · exact first_no own seed w h8 hKT hs
  · exact first_yes own seed w h0.1 (by omega) hKT hs
end Go.Proofs.YtlalcnmcnkompaaDoor
