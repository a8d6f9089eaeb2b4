/- A pass, a tag, Hmac. -/
import Derived.Test.YtoebbfifebpnbadDoorMac4
import Derived.Test.YtoebbfifebpnbadDoorGateS2
namespace Go.Proofs.YtoebbfifebpnbadDoor
open Go.RowKit
set_option maxRecDepth 20000
set_option linter.unusedSimpArgs false

set_option maxHeartbeats 1000000 in
theorem passIn_any (k : List Int) (pb n cap : Nat) (ps : List Part) (w : World) (hk : k.length = 64) (hps : PartsAt w w.heap.size pb ps) (hn : n = ps.length) (hn2 : n ≤ 1000)
    (hlen : ∀ j, j ≤ ps.length → 64 + (allOf (ps.take j)).length ≤ 1000000) (hlen2 : ∀ p ∈ ps, p.len ≤ 1000000) (hK : KTab w) :
    Calls Tryd.prog 10 #[.agg (row .u8 k), .func (.func 11) #[] #[], .slice (some ⟨pb, 0, none⟩) n cap] w fun e w' => e = .returned (.agg (row .u8 (sumL (turnL 54 k ++ allOf ps)))) ∧ Below w.heap.size w w' := by
  have htl : (turnL 54 k).length = 64 := by rw [turnL_length, hk]
  have hbg := fun wx => inner_any k wx hk
  have hev : ∀ (H base : Nat) (v : Value) (wx : World), Box wx H 47 v → OwnB wx base v (turnL 54 k) → base ≤ H → PartsAt wx base pb ps → Calls Tryd.prog 14 #[.func (.func 15) #[.pointer (some ⟨H, 0, none⟩)] #[], .slice (some ⟨pb, 0, none⟩) n cap] wx fun e w' => (∃ r, e = .returned r) ∧ ∃ v', Box w' H 47 v' ∧ OwnB w' base v' (turnL 54 k ++ allOf ps) ∧ Below base wx w' := fun H base v wx h1 h2 h3 h4 =>
    each_any H base pb n cap v (turnL 54 k) ps wx h1 h2 h3 h4 hn hn2 (fun j hj => by rw [htl]; exact hlen j hj) hlen2
  have hal : (turnL 54 k ++ allOf ps).length ≤ 1000000 := by
    have := hlen ps.length (Nat.le_refl _)
    rw [List.take_length] at this
    rw [List.length_append, htl]; omega
  obtain ⟨TK, hTK⟩ : ∃ x, turnL 54 k = x := ⟨_, rfl⟩
  rw [hTK] at hbg hev hal ⊢
  obtain ⟨AL, hAL⟩ : ∃ x, TK ++ allOf ps = x := ⟨_, rfl⟩
  rw [hAL] at hev hal ⊢
  have hdl := sumL_length AL
  have hsum := fun H base v wx h1 h2 h3 h5 => hashSum_any H base v AL wx h1 h2 h3 hal h5
  obtain ⟨D, hD⟩ : ∃ x, sumL AL = x := ⟨_, rfl⟩
  rw [hD] at hdl hsum ⊢
  clear hTK hAL hD htl hlen hal hn
  go_enter Tryd.func10, Tryd.ntmps10
  go_upto_region 1 with fail
  refine forget (p := fun y => Code.wp _ _ _ _ y) (fun W0 => Below w.heap.size w W0 ∧ W0.heap.size = w.heap.size + 1 + 1 ∧ Holds W0 w.heap.size .u8 35 k ∧ Holds W0 (w.heap.size + 1) .u8 23 (List.replicate 32 0)) ⟨((Below.refl _ _).alloc (Nat.le_refl _) _).alloc (by simp) _, by simp, (Holds.new w .u8 35 k).alloc _, ?_⟩ ?_
  · have := (Holds.new (w.alloc (.cells (row .u8 k) 35)) .u8 23 (List.replicate 32 0))
    rw [World.size_alloc] at this
    exact this
  rintro W0 ⟨hB0, hs0, hk0, hR0⟩
  go_upto_region 2 with (first
    | (refine wpList_ld rfl 35 _ rfl _ rfl hk0 Tryd.underlying35 sizeFk hk ?_)
    | (go_at_call 11; refine (hbg _).mono ?_; rintro e w1 ⟨H, v1, rfl, hH, hx1, ho1, hb1⟩))
  have hs1 := hb1.size
  have hB1 : Below w.heap.size w w1 := hB0.trans (hb1.mono hB0.size)
  have hp1 : PartsAt w1 (W0.heap.size + 1) pb ps := fun w' hb => hps w' (hB1.trans (hb.mono (by omega)))
  have hev1 := hev H (W0.heap.size + 1) v1 w1 hx1 ho1 hH hp1
  have hR1 := hR0.below hb1 (by omega)
  clear hev hbg hk0 hps hp1 hx1 ho1 hb1
  go_upto_region 3 with (go_at_call 14; refine hev1.mono ?_; rintro e w2 ⟨⟨r2, rfl⟩, v2, hx2, ho2, hb2⟩)
  have hB2 : Below w.heap.size w w2 := hB1.trans (hb2.mono (by omega))
  have hs3 := hsum H (W0.heap.size + 1) v2 w2 hx2 ho2 (fun x n c h => by subst h; exact ho2.bytes.2) (hK.below hB2)
  have hR2 := hR1.below hb2 (by omega)
  have hl2 := hB2.size
  clear hev1 hsum hx2 ho2 hR1
  go_wp2_with (first
    | (go_at_call 16; refine hs3.mono ?_; rintro e w3 ⟨rfl, hb3⟩; have hR3 := hR2.below hb3 hR2.lt)
    | (refine wpList_st rfl 23 _ _ rfl _ rfl rfl hR3 (by rw [hdl]; exact sizeKey) (by simp [hdl]) ?_))
  refine bodyPost_ret (results_holds (Tryd.results10) _ rfl (hR3.setRow _) Tryd.underlying23 sizeKey hdl) rfl ⟨rfl, ?_⟩
  exact below_setRow (hB2.trans (hb3.mono hB2.size)) (by omega) _

set_option maxHeartbeats 1000000 in
theorem passOut_any (k : List Int) (pb n cap : Nat) (ps : List Part) (w : World) (hk : k.length = 64) (hps : PartsAt w w.heap.size pb ps) (hn : n = ps.length) (hn2 : n ≤ 1000)
    (hlen : ∀ j, j ≤ ps.length → 64 + (allOf (ps.take j)).length ≤ 1000000) (hlen2 : ∀ p ∈ ps, p.len ≤ 1000000) (hK : KTab w) :
    Calls Tryd.prog 10 #[.agg (row .u8 k), .func (.func 12) #[] #[], .slice (some ⟨pb, 0, none⟩) n cap] w fun e w' => e = .returned (.agg (row .u8 (sumL (turnL 92 k ++ allOf ps)))) ∧ Below w.heap.size w w' := by
  have htl : (turnL 92 k).length = 64 := by rw [turnL_length, hk]
  have hbg := fun wx => outer_any k wx hk
  have hev : ∀ (H base : Nat) (v : Value) (wx : World), Box wx H 47 v → OwnB wx base v (turnL 92 k) → base ≤ H → PartsAt wx base pb ps → Calls Tryd.prog 14 #[.func (.func 15) #[.pointer (some ⟨H, 0, none⟩)] #[], .slice (some ⟨pb, 0, none⟩) n cap] wx fun e w' => (∃ r, e = .returned r) ∧ ∃ v', Box w' H 47 v' ∧ OwnB w' base v' (turnL 92 k ++ allOf ps) ∧ Below base wx w' := fun H base v wx h1 h2 h3 h4 =>
    each_any H base pb n cap v (turnL 92 k) ps wx h1 h2 h3 h4 hn hn2 (fun j hj => by rw [htl]; exact hlen j hj) hlen2
  have hal : (turnL 92 k ++ allOf ps).length ≤ 1000000 := by
    have := hlen ps.length (Nat.le_refl _)
    rw [List.take_length] at this
    rw [List.length_append, htl]; omega
  obtain ⟨TK, hTK⟩ : ∃ x, turnL 92 k = x := ⟨_, rfl⟩
  rw [hTK] at hbg hev hal ⊢
  obtain ⟨AL, hAL⟩ : ∃ x, TK ++ allOf ps = x := ⟨_, rfl⟩
  rw [hAL] at hev hal ⊢
  have hdl := sumL_length AL
  have hsum := fun H base v wx h1 h2 h3 h5 => hashSum_any H base v AL wx h1 h2 h3 hal h5
  obtain ⟨D, hD⟩ : ∃ x, sumL AL = x := ⟨_, rfl⟩
  rw [hD] at hdl hsum ⊢
  clear hTK hAL hD htl hlen hal hn
  go_enter Tryd.func10, Tryd.ntmps10
  go_upto_region 1 with fail
  refine forget (p := fun y => Code.wp _ _ _ _ y) (fun W0 => Below w.heap.size w W0 ∧ W0.heap.size = w.heap.size + 1 + 1 ∧ Holds W0 w.heap.size .u8 35 k ∧ Holds W0 (w.heap.size + 1) .u8 23 (List.replicate 32 0)) ⟨((Below.refl _ _).alloc (Nat.le_refl _) _).alloc (by simp) _, by simp, (Holds.new w .u8 35 k).alloc _, ?_⟩ ?_
  · have := (Holds.new (w.alloc (.cells (row .u8 k) 35)) .u8 23 (List.replicate 32 0))
    rw [World.size_alloc] at this
    exact this
  rintro W0 ⟨hB0, hs0, hk0, hR0⟩
  go_upto_region 2 with (first
    | (refine wpList_ld rfl 35 _ rfl _ rfl hk0 Tryd.underlying35 sizeFk hk ?_)
    | (go_at_call 12; refine (hbg _).mono ?_; rintro e w1 ⟨H, v1, rfl, hH, hx1, ho1, hb1⟩))
  have hs1 := hb1.size
  have hB1 : Below w.heap.size w w1 := hB0.trans (hb1.mono hB0.size)
  have hp1 : PartsAt w1 (W0.heap.size + 1) pb ps := fun w' hb => hps w' (hB1.trans (hb.mono (by omega)))
  have hev1 := hev H (W0.heap.size + 1) v1 w1 hx1 ho1 hH hp1
  have hR1 := hR0.below hb1 (by omega)
  clear hev hbg hk0 hps hp1 hx1 ho1 hb1
  go_upto_region 3 with (go_at_call 14; refine hev1.mono ?_; rintro e w2 ⟨⟨r2, rfl⟩, v2, hx2, ho2, hb2⟩)
  have hB2 : Below w.heap.size w w2 := hB1.trans (hb2.mono (by omega))
  have hs3 := hsum H (W0.heap.size + 1) v2 w2 hx2 ho2 (fun x n c h => by subst h; exact ho2.bytes.2) (hK.below hB2)
  have hR2 := hR1.below hb2 (by omega)
  have hl2 := hB2.size
  clear hev1 hsum hx2 ho2 hR1
  go_wp2_with (first
    | (go_at_call 16; refine hs3.mono ?_; rintro e w3 ⟨rfl, hb3⟩; have hR3 := hR2.below hb3 hR2.lt)
    | (refine wpList_st rfl 23 _ _ rfl _ rfl rfl hR3 (by rw [hdl]; exact sizeKey) (by simp [hdl]) ?_))
  refine bodyPost_ret (results_holds (Tryd.results10) _ rfl (hR3.setRow _) Tryd.underlying23 sizeKey hdl) rfl ⟨rfl, ?_⟩
  exact below_setRow (hB2.trans (hb3.mono hB2.size)) (by omega) _
end Go.Proofs.YtoebbfifebpnbadDoor
