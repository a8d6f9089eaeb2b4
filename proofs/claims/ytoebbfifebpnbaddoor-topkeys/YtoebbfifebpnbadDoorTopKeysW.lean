/- The statement TopKeys, walked. (Written by mkkeys.py.) -/
import Derived.Test.YtoebbfifebpnbadDoorMac8
import Derived.Test.YtoebbfifebpnbadDoorGcS
import Derived.Test.YtoebbfifebpnbadDoorFewS
namespace Go.Proofs.YtoebbfifebpnbadDoor
open Go.RowKit
set_option maxRecDepth 20000
set_option linter.unusedSimpArgs false

theorem exp_two (k b : List Int) : expL k b 64 = tagL k (b ++ [1]) ++ tagL k (tagL k (b ++ [1]) ++ (b ++ [2])) := by
  have h : expL k b 64 = (outK k b 2).take 64 := rfl
  rw [h]
  simp only [outK, tK, List.nil_append]
  rw [List.take_of_length_le (by rw [List.length_append, tagL_length, tagL_length]; omega)]
  rfl
theorem bytes4_in (x : Int) : ∀ v ∈ bytes4 x, 0 ≤ v ∧ v ≤ 255 := by
  intro v hv
  simp only [bytes4, List.mem_cons, List.not_mem_nil, or_false] at hv
  omega
theorem joinK_in (s : List Int) (k : Nat) : ∀ v ∈ joinK s k, 0 ≤ v ∧ v ≤ 255 := by
  induction k with
  | zero => intro v hv; cases hv
  | succ k ih =>
    intro v hv
    rcases List.mem_append.1 hv with h | h
    · exact ih v h
    · exact bytes4_in _ v h
theorem tag_in (z a : List Int) : ∀ v ∈ tagL z a, 0 ≤ v ∧ v ≤ 255 := joinK_in _ 8

theorem ownB_empty (w : World) (base : Nat) (h : base ≤ w.heap.size) : OwnB (w.alloc (.cells #[] 5)) base (.slice (some ⟨w.heap.size, 0, none⟩) 0 0) [] :=
  ⟨rfl, .inr ⟨w.heap.size, 0, #[], rfl, h, heap_alloc_new w _, Nat.le_refl _, by simp [maxLen], rfl, rfl⟩⟩

set_option maxHeartbeats 60000000 in
theorem keys_walk (k : List Int) (y : Option Addr) (lb cb : Nat) (b0 : List Int) (w : World) (hk : k.length = 32) (hKT : KTab w) (hy : Bytes w y lb cb b0) :
    Calls Tryd.prog 3 #[.agg (row .u8 k), .slice y lb cb] w fun e w' => e = .returned (.bool true) ∧ Below w.heap.size w w' := by
  have hy6 := hy.fewM 100
  obtain ⟨m, hm⟩ : ∃ q, min lb 100 = q := ⟨_, rfl⟩
  obtain ⟨b, hb⟩ : ∃ q, b0.take 100 = q := ⟨_, rfl⟩
  have hm6 : m ≤ 100 := by omega
  have hf1 : ∀ wx, Below w.heap.size w wx → Calls Tryd.prog 4 #[.slice y lb cb, .int .i64 100] wx (fun e w' => e = .returned (.slice y m cb) ∧ wx = w') := fun wx hb' => by
    rw [← hm]; exact fewS_any y lb cb 100 b0 wx (hy.below hb') (by omega) (by omega)
  rw [hm, hb] at hy6
  clear hm hb hy
  have hbl : b.length = m := hy6.len_eq.symm
  have HBL : VeilE (b.length = m) := ⟨hbl⟩
  have hE2 := exp_two k b
  have hT1l := tagL_length k (b ++ [1])
  have hT1u := tag_in k (b ++ [1])
  have hH : ∀ (v : Value) (base : Nat) (wx : World), Below w.heap.size w wx → Holds wx w.heap.size .u8 23 k → OwnB wx base v (b ++ [1]) → Calls Tryd.prog 5 #[.slice (some ⟨w.heap.size, 0, none⟩) 32 32, v] wx fun e w' => e = .returned (.agg (row .u8 (tagL k (b ++ [1])))) ∧ Below wx.heap.size wx w' := fun v base wx hb' hh ho => by
    obtain ⟨x', n', c', rfl, hn'⟩ := ho.isSlice
    exact hmac_any (some ⟨w.heap.size, 0, none⟩) 32 32 k x' n' c' (b ++ [1]) wx (hh.bytes hk.symm (by omega)) (by omega) ho.bytes.2 (by rw [hn', List.length_append, HBL.out]; simp; omega) (hKT.below hb')
  obtain ⟨T1, hT1⟩ : ∃ q, tagL k (b ++ [1]) = q := ⟨_, rfl⟩
  rw [hT1] at hE2 hT1l hT1u hH
  have hT2l := tagL_length k (T1 ++ (b ++ [2]))
  have hT2u := tag_in k (T1 ++ (b ++ [2]))
  have hI : ∀ (v : Value) (base : Nat) (wx : World), Below w.heap.size w wx → Holds wx w.heap.size .u8 23 k → OwnB wx base v (T1 ++ (b ++ [2])) → Calls Tryd.prog 5 #[.slice (some ⟨w.heap.size, 0, none⟩) 32 32, v] wx fun e w' => e = .returned (.agg (row .u8 (tagL k (T1 ++ (b ++ [2]))))) ∧ Below wx.heap.size wx w' := fun v base wx hb' hh ho => by
    obtain ⟨x', n', c', rfl, hn'⟩ := ho.isSlice
    exact hmac_any (some ⟨w.heap.size, 0, none⟩) 32 32 k x' n' c' (T1 ++ (b ++ [2])) wx (hh.bytes hk.symm (by omega)) (by omega) ho.bytes.2 (by rw [hn', List.length_append, List.length_append, HBL.out, hT1l]; simp; omega) (hKT.below hb')
  obtain ⟨T2, hT2⟩ : ∃ q, tagL k (T1 ++ (b ++ [2])) = q := ⟨_, rfl⟩
  rw [hT2] at hE2 hT2l hT2u hI
  have hX : ∀ (wx : World), Below w.heap.size w wx → Calls Tryd.prog 6 #[.agg (row .u8 k), .slice y m cb, .int .i64 64] wx fun e w' => ∃ g ca, e = .returned (.tuple #[.slice (some ⟨g, 0, none⟩) 64 ca, .int .i64 0]) ∧ Bytes w' (some ⟨g, 0, none⟩) 64 ca (T1 ++ T2) ∧ Below wx.heap.size wx w' := fun wx hb' =>
    (expand_any k y m cb b 64 wx hk (hy6.below hb') (by omega) (by omega) (hKT.below hb')).mono fun e w' ⟨v, he, ho, hbb⟩ => by
      obtain ⟨g, c, hv, _⟩ := ho.slice (by rw [expL_length]; omega)
      rw [expL_length] at hv
      subst hv
      exact ⟨g, c, he, by rw [← hE2]; exact ho.bytes.2, hbb⟩
  clear hT1 hT2 hE2 hbl
  go_enter Tryd.func3, Tryd.ntmps3
  go_upto_region 1 with fail
  refine forget (p := fun y => Code.wp _ _ _ _ y) (fun W0 => Below w.heap.size w W0 ∧ Holds W0 w.heap.size .u8 23 k) ⟨(Below.refl _ _).alloc (Nat.le_refl _) _, Holds.new w .u8 23 k⟩ ?_
  rintro W0 ⟨hBw, hkW⟩
  go_upto_region 2 with (go_at_call 4; refine (hf1 _ hBw).mono ?_; rintro e w' ⟨rfl, rfl⟩)
  have hyW := hy6.below hBw
  clear hf1
  refine wp_meet (fun a W => ∃ u12 u14 u15 u16 G, a = ⟨#[.agg (row .u8 k), .slice y m cb, .pointer (some ⟨w.heap.size, 0, none⟩), undef, .bool false, .pointer (some ⟨G, 0, none⟩), undef, undef, undef, .slice y lb cb, .slice y m cb, .slice (some ⟨w.heap.size, 0, none⟩) 32 32, u12, .slice y m cb, u14, u15, u16, .agg (row .u8 T1), undef, undef, undef, undef, undef, undef, undef, undef, undef, undef, undef, undef, undef, undef, undef, undef, undef, undef, undef, undef, undef, undef, undef, undef, undef, undef, undef, undef, undef, undef, undef, undef, undef, undef], []⟩ ∧ Below W0.heap.size W0 W ∧ Holds W G .u8 23 T1) ?_ ?_
  · clear hX hI
    refine wp_region_gate (fun _ => True) 8 (by kernel_rfl) ?_
    obtain ⟨D0, hD0⟩ : ∃ q, W0.drew = q := ⟨_, rfl⟩
    have hb0 : Below W0.heap.size W0 D0 := by rw [← hD0]; exact (Below.refl _ _).drew
    rw [hD0]
    clear hD0
    have hS : (fun _ : World => True) D0 := trivial
    refine wpAnyG_any (i := 0) (v := ?_) rfl (by kernel_rfl) (by kernel_rfl) (by kernel_rfl) (fun _ _ _ h => h) (by kernel_rfl) (fun _ => hS) (by kernel_rfl) ?_ ?_
    rotate_left
    · intro _; go_simp; try with_reducible rfl
    simp only [Act.put, List.setIfInBounds_toArray, List.set_cons_zero, List.set_cons_succ]
    refine wpAnyG_any (i := 2) (v := ?_) rfl (by kernel_rfl) (by kernel_rfl) (by kernel_rfl) (fun _ _ _ h => h) (by kernel_rfl) (fun _ => hS) (by kernel_rfl) ?_ ?_
    rotate_left
    · intro _; go_simp; try with_reducible rfl
    simp only [Act.put, List.setIfInBounds_toArray, List.set_cons_zero, List.set_cons_succ]
    refine wpAnyG_three (i := 1) (j := 4) (l := 7) rfl rfl rfl (by kernel_rfl) (by kernel_rfl) (by kernel_rfl) (by kernel_rfl) (fun K hK => ?_) (fun K hK => ?_) (fun K hK => ?_)
    · skip
      go_simp
      have hN1 : Holds (D0.alloc (.cells (row .u8 []) 5)) D0.heap.size .u8 5 [] := Holds.new D0 .u8 5 []
      have hn1 : Below D0.heap.size D0 (D0.alloc (.cells (row .u8 []) 5)) := (Below.refl _ _).alloc (Nat.le_refl _) _
      have hb1 : Below W0.heap.size W0 (D0.alloc (.cells (row .u8 []) 5)) := hb0.trans (hn1.mono hb0.size)
      have hge1 := hb0.size
      refine hK.out _ _ (fun _ => hS) ?_
      clear hK K
      obtain ⟨G1, hGe1⟩ : ∃ q, D0.heap.size = q := ⟨_, rfl⟩
      obtain ⟨U1, hU1⟩ : ∃ q, D0.alloc (.cells (row .u8 []) 5) = q := ⟨_, rfl⟩
      have hc1 : D0.alloc (.cells #[] 5) = U1 := hU1
      rw [hU1, hGe1] at hN1
      rw [hU1] at hb1 
      rw [hGe1] at hge1
      rw [hc1, hGe1]
      have hO1 : OwnB U1 W0.heap.size (.slice (some ⟨G1, 0, none⟩) 0 0) [] := by rw [← hU1, ← hGe1]; exact ownB_empty D0 W0.heap.size hb0.size
      have hltg1 : G1 < U1.heap.size := hN1.lt
      clear hGe1 hU1 hc1 hn1
      refine wpAnyG_three (i := 3) (j := 4) (l := 7) rfl rfl rfl (by kernel_rfl) (by kernel_rfl) (by kernel_rfl) (by kernel_rfl) (fun K hK => ?_) (fun K hK => ?_) (fun K hK => ?_)
      · skip
        refine wp_appA _ _ rfl W0.heap.size _ [] rfl hO1 y m cb b rfl (hyW.below hb1) (by simp; omega) hb1.size ?_
        intro v2 u2 ho2 hg2
        have hb2 : Below W0.heap.size W0 u2 := below_grown hb1 hO1 hg2 hb1.size
        rw [List.nil_append] at ho2
        clear hg2
        refine hK.out _ _ (fun _ => hS) ?_
        clear hK K
        refine wpAnyG_two (i := 4) (j := 7) rfl rfl (by kernel_rfl) (by kernel_rfl) (by kernel_rfl) (fun K hK => ?_) (fun K hK => ?_)
        · skip
          go_simp
          have hN3 : Holds (u2.alloc (.cells (row .u8 [1]) 5)) u2.heap.size .u8 5 [1] := Holds.new u2 .u8 5 [1]
          have hn3 : Below u2.heap.size u2 (u2.alloc (.cells (row .u8 [1]) 5)) := (Below.refl _ _).alloc (Nat.le_refl _) _
          have hb3 : Below W0.heap.size W0 (u2.alloc (.cells (row .u8 [1]) 5)) := hb2.trans (hn3.mono hb2.size)
          have hge3 := hb2.size
          have ho2n3 := ho2.belowM hn3
          refine hK.out _ _ (fun _ => hS) ?_
          clear hK K
          obtain ⟨G3, hGe3⟩ : ∃ q, u2.heap.size = q := ⟨_, rfl⟩
          obtain ⟨U3, hU3⟩ : ∃ q, u2.alloc (.cells (row .u8 [1]) 5) = q := ⟨_, rfl⟩
          have hc3 : u2.alloc (.cells #[.int .u8 1] 5) = U3 := hU3
          rw [hU3, hGe3] at hN3
          rw [hU3] at hb3 ho2n3
          rw [hGe3] at hge3
          rw [hc3, hGe3]
          clear hGe3 hU3 hc3 hn3
          refine wpAnyG_two (i := 5) (j := 7) rfl rfl (by kernel_rfl) (by kernel_rfl) (by kernel_rfl) (fun K hK => ?_) (fun K hK => ?_)
          · skip
            refine wp_appA _ _ rfl W0.heap.size _ b rfl ho2n3 (some ⟨G3, 0, none⟩) 1 1 [1] rfl (hN3.bytes rfl (by simp)) (by rw [HBL.out]; omega) hb3.size ?_
            intro v4 u4 ho4 hg4
            have hb4 : Below W0.heap.size W0 u4 := below_grown hb3 ho2n3 hg4 hb3.size
            clear hg4
            refine hK.out _ _ (fun _ => hS) ?_
            clear hK K
            refine wpAnyG_two (i := 6) (j := 7) rfl rfl (by kernel_rfl) (by kernel_rfl) (by kernel_rfl) (fun K hK => ?_) (fun K hK => ?_)
            · skip
              go_wp2_with (go_at_call 5; refine (hH _ _ _ (hBw.trans (hb4.mono hBw.size)) (hkW.below hb4 hkW.lt) ho4).mono ?_; rintro e u5 ⟨rfl, hx5⟩)
              have hb5 : Below W0.heap.size W0 u5 := hb4.trans (hx5.mono hb4.size)
              refine hK.out _ _ (fun _ => hS) ?_
              clear hK K
              refine wpAnyG_one (i := 7) rfl (by kernel_rfl) (by kernel_rfl) (fun K hK => ?_)
              go_simp
              have hN6 : Holds (u5.alloc (.cells (row .u8 (List.replicate 32 0)) 23)) u5.heap.size .u8 23 (List.replicate 32 0) := Holds.new u5 .u8 23 (List.replicate 32 0)
              have hn6 : Below u5.heap.size u5 (u5.alloc (.cells (row .u8 (List.replicate 32 0)) 23)) := (Below.refl _ _).alloc (Nat.le_refl _) _
              have hb6 : Below W0.heap.size W0 (u5.alloc (.cells (row .u8 (List.replicate 32 0)) 23)) := hb5.trans (hn6.mono hb5.size)
              have hge6 := hb5.size
              refine hK.out _ _ (fun _ => hS) ?_
              clear hK K
              obtain ⟨G6, hGe6⟩ : ∃ q, u5.heap.size = q := ⟨_, rfl⟩
              obtain ⟨U6, hU6⟩ : ∃ q, u5.alloc (.cells (row .u8 (List.replicate 32 0)) 23) = q := ⟨_, rfl⟩
              have hc6 : u5.alloc (.cells #[.int .u8 0, .int .u8 0, .int .u8 0, .int .u8 0, .int .u8 0, .int .u8 0, .int .u8 0, .int .u8 0, .int .u8 0, .int .u8 0, .int .u8 0, .int .u8 0, .int .u8 0, .int .u8 0, .int .u8 0, .int .u8 0, .int .u8 0, .int .u8 0, .int .u8 0, .int .u8 0, .int .u8 0, .int .u8 0, .int .u8 0, .int .u8 0, .int .u8 0, .int .u8 0, .int .u8 0, .int .u8 0, .int .u8 0, .int .u8 0, .int .u8 0, .int .u8 0] 23) = U6 := hU6
              rw [hU6, hGe6] at hN6
              rw [hU6] at hb6 
              rw [hGe6] at hge6
              rw [hc6, hGe6]
              clear hGe6 hU6 hc6 hn6
              refine wpAnyG_one (i := 8) rfl (by kernel_rfl) (by kernel_rfl) (fun K hK => ?_)
              refine wp_st 23 _ _ rfl _ rfl rfl hN6 (by rw [hT1l]; exact sizeKey) (by simp [hT1l]) ?_
              refine hK.out _ _ (fun h => absurd (show true = false from h) (by decide)) ?_
              clear hK K
              refine wpAnyG_done (by kernel_rfl) ?_ _
              exact ⟨_, _, _, _, _, rfl, below_setRow hb6 hge6 _, hN6.setRow T1⟩
            · skip
              go_simp
              have hN7 : Holds (u4.alloc (.cells (row .u8 (List.replicate 32 0)) 23)) u4.heap.size .u8 23 (List.replicate 32 0) := Holds.new u4 .u8 23 (List.replicate 32 0)
              have hn7 : Below u4.heap.size u4 (u4.alloc (.cells (row .u8 (List.replicate 32 0)) 23)) := (Below.refl _ _).alloc (Nat.le_refl _) _
              have hb7 : Below W0.heap.size W0 (u4.alloc (.cells (row .u8 (List.replicate 32 0)) 23)) := hb4.trans (hn7.mono hb4.size)
              have hge7 := hb4.size
              have ho4n7 := ho4.belowM hn7
              refine hK.out _ _ (fun _ => hS) ?_
              clear hK K
              obtain ⟨G7, hGe7⟩ : ∃ q, u4.heap.size = q := ⟨_, rfl⟩
              obtain ⟨U7, hU7⟩ : ∃ q, u4.alloc (.cells (row .u8 (List.replicate 32 0)) 23) = q := ⟨_, rfl⟩
              have hc7 : u4.alloc (.cells #[.int .u8 0, .int .u8 0, .int .u8 0, .int .u8 0, .int .u8 0, .int .u8 0, .int .u8 0, .int .u8 0, .int .u8 0, .int .u8 0, .int .u8 0, .int .u8 0, .int .u8 0, .int .u8 0, .int .u8 0, .int .u8 0, .int .u8 0, .int .u8 0, .int .u8 0, .int .u8 0, .int .u8 0, .int .u8 0, .int .u8 0, .int .u8 0, .int .u8 0, .int .u8 0, .int .u8 0, .int .u8 0, .int .u8 0, .int .u8 0, .int .u8 0, .int .u8 0] 23) = U7 := hU7
              rw [hU7, hGe7] at hN7
              rw [hU7] at hb7 ho4n7
              rw [hGe7] at hge7
              rw [hc7, hGe7]
              clear hGe7 hU7 hc7 hn7
              refine wpAnyG_one (i := 6) rfl (by kernel_rfl) (by kernel_rfl) (fun K hK => ?_)
              go_wp2_with (go_at_call 5; refine (hH _ _ _ (hBw.trans (hb7.mono hBw.size)) (hkW.below hb7 hkW.lt) ho4n7).mono ?_; rintro e u8 ⟨rfl, hx8⟩)
              have hb8 : Below W0.heap.size W0 u8 := hb7.trans (hx8.mono hb7.size)
              have h78 := hN7.below hx8 hN7.lt
              refine hK.out _ _ (fun _ => hS) ?_
              clear hK K
              refine wpAnyG_one (i := 8) rfl (by kernel_rfl) (by kernel_rfl) (fun K hK => ?_)
              refine wp_st 23 _ _ rfl _ rfl rfl h78 (by rw [hT1l]; exact sizeKey) (by simp [hT1l]) ?_
              refine hK.out _ _ (fun h => absurd (show true = false from h) (by decide)) ?_
              clear hK K
              refine wpAnyG_done (by kernel_rfl) ?_ _
              exact ⟨_, _, _, _, _, rfl, below_setRow hb8 hge7 _, h78.setRow T1⟩
          · skip
            go_simp
            have hN9 : Holds (U3.alloc (.cells (row .u8 (List.replicate 32 0)) 23)) U3.heap.size .u8 23 (List.replicate 32 0) := Holds.new U3 .u8 23 (List.replicate 32 0)
            have hn9 : Below U3.heap.size U3 (U3.alloc (.cells (row .u8 (List.replicate 32 0)) 23)) := (Below.refl _ _).alloc (Nat.le_refl _) _
            have hb9 : Below W0.heap.size W0 (U3.alloc (.cells (row .u8 (List.replicate 32 0)) 23)) := hb3.trans (hn9.mono hb3.size)
            have hge9 := hb3.size
            have ho2n3n9 := ho2n3.belowM hn9
            have hN3n9 := hN3.alloc (.cells (row .u8 (List.replicate 32 0)) 23)
            refine hK.out _ _ (fun _ => hS) ?_
            clear hK K
            obtain ⟨G9, hGe9⟩ : ∃ q, U3.heap.size = q := ⟨_, rfl⟩
            have hlt49 := hN3.lt
            obtain ⟨U9, hU9⟩ : ∃ q, U3.alloc (.cells (row .u8 (List.replicate 32 0)) 23) = q := ⟨_, rfl⟩
            have hc9 : U3.alloc (.cells #[.int .u8 0, .int .u8 0, .int .u8 0, .int .u8 0, .int .u8 0, .int .u8 0, .int .u8 0, .int .u8 0, .int .u8 0, .int .u8 0, .int .u8 0, .int .u8 0, .int .u8 0, .int .u8 0, .int .u8 0, .int .u8 0, .int .u8 0, .int .u8 0, .int .u8 0, .int .u8 0, .int .u8 0, .int .u8 0, .int .u8 0, .int .u8 0, .int .u8 0, .int .u8 0, .int .u8 0, .int .u8 0, .int .u8 0, .int .u8 0, .int .u8 0, .int .u8 0] 23) = U9 := hU9
            rw [hU9, hGe9] at hN9
            rw [hU9] at hb9 ho2n3n9 hN3n9
            rw [hGe9] at hge9 hlt49
            rw [hc9, hGe9]
            clear hGe9 hU9 hc9 hn9
            refine wpAnyG_one (i := 5) rfl (by kernel_rfl) (by kernel_rfl) (fun K hK => ?_)
            refine wp_appA _ _ rfl W0.heap.size _ b rfl ho2n3n9 (some ⟨G3, 0, none⟩) 1 1 [1] rfl (hN3n9.bytes rfl (by simp)) (by rw [HBL.out]; omega) hb9.size ?_
            intro v10 u10 ho10 hg10
            have hb10 : Below W0.heap.size W0 u10 := below_grown hb9 ho2n3n9 hg10 hb9.size
            have h710 := holds_grown hN9 ho2n3n9 hg10 (by decide)
            clear hg10
            refine hK.out _ _ (fun _ => hS) ?_
            clear hK K
            refine wpAnyG_one (i := 6) rfl (by kernel_rfl) (by kernel_rfl) (fun K hK => ?_)
            go_wp2_with (go_at_call 5; refine (hH _ _ _ (hBw.trans (hb10.mono hBw.size)) (hkW.below hb10 hkW.lt) ho10).mono ?_; rintro e u11 ⟨rfl, hx11⟩)
            have hb11 : Below W0.heap.size W0 u11 := hb10.trans (hx11.mono hb10.size)
            have h711 := h710.below hx11 h710.lt
            refine hK.out _ _ (fun _ => hS) ?_
            clear hK K
            refine wpAnyG_one (i := 8) rfl (by kernel_rfl) (by kernel_rfl) (fun K hK => ?_)
            refine wp_st 23 _ _ rfl _ rfl rfl h711 (by rw [hT1l]; exact sizeKey) (by simp [hT1l]) ?_
            refine hK.out _ _ (fun h => absurd (show true = false from h) (by decide)) ?_
            clear hK K
            refine wpAnyG_done (by kernel_rfl) ?_ _
            exact ⟨_, _, _, _, _, rfl, below_setRow hb11 hge9 _, h711.setRow T1⟩
        · skip
          go_simp
          have hN12 : Holds (u2.alloc (.cells (row .u8 (List.replicate 32 0)) 23)) u2.heap.size .u8 23 (List.replicate 32 0) := Holds.new u2 .u8 23 (List.replicate 32 0)
          have hn12 : Below u2.heap.size u2 (u2.alloc (.cells (row .u8 (List.replicate 32 0)) 23)) := (Below.refl _ _).alloc (Nat.le_refl _) _
          have hb12 : Below W0.heap.size W0 (u2.alloc (.cells (row .u8 (List.replicate 32 0)) 23)) := hb2.trans (hn12.mono hb2.size)
          have hge12 := hb2.size
          have ho2n12 := ho2.belowM hn12
          refine hK.out _ _ (fun _ => hS) ?_
          clear hK K
          obtain ⟨G12, hGe12⟩ : ∃ q, u2.heap.size = q := ⟨_, rfl⟩
          obtain ⟨U12, hU12⟩ : ∃ q, u2.alloc (.cells (row .u8 (List.replicate 32 0)) 23) = q := ⟨_, rfl⟩
          have hc12 : u2.alloc (.cells #[.int .u8 0, .int .u8 0, .int .u8 0, .int .u8 0, .int .u8 0, .int .u8 0, .int .u8 0, .int .u8 0, .int .u8 0, .int .u8 0, .int .u8 0, .int .u8 0, .int .u8 0, .int .u8 0, .int .u8 0, .int .u8 0, .int .u8 0, .int .u8 0, .int .u8 0, .int .u8 0, .int .u8 0, .int .u8 0, .int .u8 0, .int .u8 0, .int .u8 0, .int .u8 0, .int .u8 0, .int .u8 0, .int .u8 0, .int .u8 0, .int .u8 0, .int .u8 0] 23) = U12 := hU12
          rw [hU12, hGe12] at hN12
          rw [hU12] at hb12 ho2n12
          rw [hGe12] at hge12
          rw [hc12, hGe12]
          clear hGe12 hU12 hc12 hn12
          refine wpAnyG_one (i := 4) rfl (by kernel_rfl) (by kernel_rfl) (fun K hK => ?_)
          go_simp
          have hN13 : Holds (U12.alloc (.cells (row .u8 [1]) 5)) U12.heap.size .u8 5 [1] := Holds.new U12 .u8 5 [1]
          have hn13 : Below U12.heap.size U12 (U12.alloc (.cells (row .u8 [1]) 5)) := (Below.refl _ _).alloc (Nat.le_refl _) _
          have hb13 : Below W0.heap.size W0 (U12.alloc (.cells (row .u8 [1]) 5)) := hb12.trans (hn13.mono hb12.size)
          have hge13 := hb12.size
          have ho2n12n13 := ho2n12.belowM hn13
          have hN12n13 := hN12.alloc (.cells (row .u8 [1]) 5)
          refine hK.out _ _ (fun _ => hS) ?_
          clear hK K
          obtain ⟨G13, hGe13⟩ : ∃ q, U12.heap.size = q := ⟨_, rfl⟩
          obtain ⟨U13, hU13⟩ : ∃ q, U12.alloc (.cells (row .u8 [1]) 5) = q := ⟨_, rfl⟩
          have hc13 : U12.alloc (.cells #[.int .u8 1] 5) = U13 := hU13
          rw [hU13, hGe13] at hN13
          rw [hU13] at hb13 ho2n12n13 hN12n13
          rw [hGe13] at hge13
          rw [hc13, hGe13]
          clear hGe13 hU13 hc13 hn13
          refine wpAnyG_one (i := 5) rfl (by kernel_rfl) (by kernel_rfl) (fun K hK => ?_)
          refine wp_appA _ _ rfl W0.heap.size _ b rfl ho2n12n13 (some ⟨G13, 0, none⟩) 1 1 [1] rfl (hN13.bytes rfl (by simp)) (by rw [HBL.out]; omega) hb13.size ?_
          intro v14 u14 ho14 hg14
          have hb14 : Below W0.heap.size W0 u14 := below_grown hb13 ho2n12n13 hg14 hb13.size
          have h714 := holds_grown hN12n13 ho2n12n13 hg14 (by decide)
          clear hg14
          refine hK.out _ _ (fun _ => hS) ?_
          clear hK K
          refine wpAnyG_one (i := 6) rfl (by kernel_rfl) (by kernel_rfl) (fun K hK => ?_)
          go_wp2_with (go_at_call 5; refine (hH _ _ _ (hBw.trans (hb14.mono hBw.size)) (hkW.below hb14 hkW.lt) ho14).mono ?_; rintro e u15 ⟨rfl, hx15⟩)
          have hb15 : Below W0.heap.size W0 u15 := hb14.trans (hx15.mono hb14.size)
          have h715 := h714.below hx15 h714.lt
          refine hK.out _ _ (fun _ => hS) ?_
          clear hK K
          refine wpAnyG_one (i := 8) rfl (by kernel_rfl) (by kernel_rfl) (fun K hK => ?_)
          refine wp_st 23 _ _ rfl _ rfl rfl h715 (by rw [hT1l]; exact sizeKey) (by simp [hT1l]) ?_
          refine hK.out _ _ (fun h => absurd (show true = false from h) (by decide)) ?_
          clear hK K
          refine wpAnyG_done (by kernel_rfl) ?_ _
          exact ⟨_, _, _, _, _, rfl, below_setRow hb15 hge12 _, h715.setRow T1⟩
      · skip
        go_simp
        have hN16 : Holds (U1.alloc (.cells (row .u8 [1]) 5)) U1.heap.size .u8 5 [1] := Holds.new U1 .u8 5 [1]
        have hn16 : Below U1.heap.size U1 (U1.alloc (.cells (row .u8 [1]) 5)) := (Below.refl _ _).alloc (Nat.le_refl _) _
        have hb16 : Below W0.heap.size W0 (U1.alloc (.cells (row .u8 [1]) 5)) := hb1.trans (hn16.mono hb1.size)
        have hge16 := hb1.size
        have hO1n16 := hO1.belowM hn16
        refine hK.out _ _ (fun _ => hS) ?_
        clear hK K
        obtain ⟨G16, hGe16⟩ : ∃ q, U1.heap.size = q := ⟨_, rfl⟩
        have hlt116 := hltg1
        obtain ⟨U16, hU16⟩ : ∃ q, U1.alloc (.cells (row .u8 [1]) 5) = q := ⟨_, rfl⟩
        have hc16 : U1.alloc (.cells #[.int .u8 1] 5) = U16 := hU16
        rw [hU16, hGe16] at hN16
        rw [hU16] at hb16 hO1n16
        rw [hGe16] at hge16 hlt116
        rw [hc16, hGe16]
        have hne16 : G1 ≠ G16 := by omega
        have hltg16 : G1 < U16.heap.size := by rw [← hU16]; simp; omega
        clear hGe16 hU16 hc16 hn16
        refine wpAnyG_two (i := 3) (j := 7) rfl rfl (by kernel_rfl) (by kernel_rfl) (by kernel_rfl) (fun K hK => ?_) (fun K hK => ?_)
        · skip
          refine wp_appA _ _ rfl W0.heap.size _ [] rfl hO1n16 y m cb b rfl (hyW.below hb16) (by simp; omega) hb16.size ?_
          intro v17 u17 ho17 hg17
          have hb17 : Below W0.heap.size W0 u17 := below_grown hb16 hO1n16 hg17 hb16.size
          rw [List.nil_append] at ho17
          have h417 := holds_grownA hN16 hg17 hne16
          clear hg17
          refine hK.out _ _ (fun _ => hS) ?_
          clear hK K
          refine wpAnyG_two (i := 5) (j := 7) rfl rfl (by kernel_rfl) (by kernel_rfl) (by kernel_rfl) (fun K hK => ?_) (fun K hK => ?_)
          · skip
            refine wp_appA _ _ rfl W0.heap.size _ b rfl ho17 (some ⟨G16, 0, none⟩) 1 1 [1] rfl (h417.bytes rfl (by simp)) (by rw [HBL.out]; omega) hb17.size ?_
            intro v18 u18 ho18 hg18
            have hb18 : Below W0.heap.size W0 u18 := below_grown hb17 ho17 hg18 hb17.size
            clear hg18
            refine hK.out _ _ (fun _ => hS) ?_
            clear hK K
            refine wpAnyG_two (i := 6) (j := 7) rfl rfl (by kernel_rfl) (by kernel_rfl) (by kernel_rfl) (fun K hK => ?_) (fun K hK => ?_)
            · skip
              go_wp2_with (go_at_call 5; refine (hH _ _ _ (hBw.trans (hb18.mono hBw.size)) (hkW.below hb18 hkW.lt) ho18).mono ?_; rintro e u19 ⟨rfl, hx19⟩)
              have hb19 : Below W0.heap.size W0 u19 := hb18.trans (hx19.mono hb18.size)
              refine hK.out _ _ (fun _ => hS) ?_
              clear hK K
              refine wpAnyG_one (i := 7) rfl (by kernel_rfl) (by kernel_rfl) (fun K hK => ?_)
              go_simp
              have hN20 : Holds (u19.alloc (.cells (row .u8 (List.replicate 32 0)) 23)) u19.heap.size .u8 23 (List.replicate 32 0) := Holds.new u19 .u8 23 (List.replicate 32 0)
              have hn20 : Below u19.heap.size u19 (u19.alloc (.cells (row .u8 (List.replicate 32 0)) 23)) := (Below.refl _ _).alloc (Nat.le_refl _) _
              have hb20 : Below W0.heap.size W0 (u19.alloc (.cells (row .u8 (List.replicate 32 0)) 23)) := hb19.trans (hn20.mono hb19.size)
              have hge20 := hb19.size
              refine hK.out _ _ (fun _ => hS) ?_
              clear hK K
              obtain ⟨G20, hGe20⟩ : ∃ q, u19.heap.size = q := ⟨_, rfl⟩
              obtain ⟨U20, hU20⟩ : ∃ q, u19.alloc (.cells (row .u8 (List.replicate 32 0)) 23) = q := ⟨_, rfl⟩
              have hc20 : u19.alloc (.cells #[.int .u8 0, .int .u8 0, .int .u8 0, .int .u8 0, .int .u8 0, .int .u8 0, .int .u8 0, .int .u8 0, .int .u8 0, .int .u8 0, .int .u8 0, .int .u8 0, .int .u8 0, .int .u8 0, .int .u8 0, .int .u8 0, .int .u8 0, .int .u8 0, .int .u8 0, .int .u8 0, .int .u8 0, .int .u8 0, .int .u8 0, .int .u8 0, .int .u8 0, .int .u8 0, .int .u8 0, .int .u8 0, .int .u8 0, .int .u8 0, .int .u8 0, .int .u8 0] 23) = U20 := hU20
              rw [hU20, hGe20] at hN20
              rw [hU20] at hb20 
              rw [hGe20] at hge20
              rw [hc20, hGe20]
              clear hGe20 hU20 hc20 hn20
              refine wpAnyG_one (i := 8) rfl (by kernel_rfl) (by kernel_rfl) (fun K hK => ?_)
              refine wp_st 23 _ _ rfl _ rfl rfl hN20 (by rw [hT1l]; exact sizeKey) (by simp [hT1l]) ?_
              refine hK.out _ _ (fun h => absurd (show true = false from h) (by decide)) ?_
              clear hK K
              refine wpAnyG_done (by kernel_rfl) ?_ _
              exact ⟨_, _, _, _, _, rfl, below_setRow hb20 hge20 _, hN20.setRow T1⟩
            · skip
              go_simp
              have hN21 : Holds (u18.alloc (.cells (row .u8 (List.replicate 32 0)) 23)) u18.heap.size .u8 23 (List.replicate 32 0) := Holds.new u18 .u8 23 (List.replicate 32 0)
              have hn21 : Below u18.heap.size u18 (u18.alloc (.cells (row .u8 (List.replicate 32 0)) 23)) := (Below.refl _ _).alloc (Nat.le_refl _) _
              have hb21 : Below W0.heap.size W0 (u18.alloc (.cells (row .u8 (List.replicate 32 0)) 23)) := hb18.trans (hn21.mono hb18.size)
              have hge21 := hb18.size
              have ho18n21 := ho18.belowM hn21
              refine hK.out _ _ (fun _ => hS) ?_
              clear hK K
              obtain ⟨G21, hGe21⟩ : ∃ q, u18.heap.size = q := ⟨_, rfl⟩
              obtain ⟨U21, hU21⟩ : ∃ q, u18.alloc (.cells (row .u8 (List.replicate 32 0)) 23) = q := ⟨_, rfl⟩
              have hc21 : u18.alloc (.cells #[.int .u8 0, .int .u8 0, .int .u8 0, .int .u8 0, .int .u8 0, .int .u8 0, .int .u8 0, .int .u8 0, .int .u8 0, .int .u8 0, .int .u8 0, .int .u8 0, .int .u8 0, .int .u8 0, .int .u8 0, .int .u8 0, .int .u8 0, .int .u8 0, .int .u8 0, .int .u8 0, .int .u8 0, .int .u8 0, .int .u8 0, .int .u8 0, .int .u8 0, .int .u8 0, .int .u8 0, .int .u8 0, .int .u8 0, .int .u8 0, .int .u8 0, .int .u8 0] 23) = U21 := hU21
              rw [hU21, hGe21] at hN21
              rw [hU21] at hb21 ho18n21
              rw [hGe21] at hge21
              rw [hc21, hGe21]
              clear hGe21 hU21 hc21 hn21
              refine wpAnyG_one (i := 6) rfl (by kernel_rfl) (by kernel_rfl) (fun K hK => ?_)
              go_wp2_with (go_at_call 5; refine (hH _ _ _ (hBw.trans (hb21.mono hBw.size)) (hkW.below hb21 hkW.lt) ho18n21).mono ?_; rintro e u22 ⟨rfl, hx22⟩)
              have hb22 : Below W0.heap.size W0 u22 := hb21.trans (hx22.mono hb21.size)
              have h722 := hN21.below hx22 hN21.lt
              refine hK.out _ _ (fun _ => hS) ?_
              clear hK K
              refine wpAnyG_one (i := 8) rfl (by kernel_rfl) (by kernel_rfl) (fun K hK => ?_)
              refine wp_st 23 _ _ rfl _ rfl rfl h722 (by rw [hT1l]; exact sizeKey) (by simp [hT1l]) ?_
              refine hK.out _ _ (fun h => absurd (show true = false from h) (by decide)) ?_
              clear hK K
              refine wpAnyG_done (by kernel_rfl) ?_ _
              exact ⟨_, _, _, _, _, rfl, below_setRow hb22 hge21 _, h722.setRow T1⟩
          · skip
            go_simp
            have hN23 : Holds (u17.alloc (.cells (row .u8 (List.replicate 32 0)) 23)) u17.heap.size .u8 23 (List.replicate 32 0) := Holds.new u17 .u8 23 (List.replicate 32 0)
            have hn23 : Below u17.heap.size u17 (u17.alloc (.cells (row .u8 (List.replicate 32 0)) 23)) := (Below.refl _ _).alloc (Nat.le_refl _) _
            have hb23 : Below W0.heap.size W0 (u17.alloc (.cells (row .u8 (List.replicate 32 0)) 23)) := hb17.trans (hn23.mono hb17.size)
            have hge23 := hb17.size
            have ho17n23 := ho17.belowM hn23
            have h417n23 := h417.alloc (.cells (row .u8 (List.replicate 32 0)) 23)
            refine hK.out _ _ (fun _ => hS) ?_
            clear hK K
            obtain ⟨G23, hGe23⟩ : ∃ q, u17.heap.size = q := ⟨_, rfl⟩
            have hlt423 := h417.lt
            obtain ⟨U23, hU23⟩ : ∃ q, u17.alloc (.cells (row .u8 (List.replicate 32 0)) 23) = q := ⟨_, rfl⟩
            have hc23 : u17.alloc (.cells #[.int .u8 0, .int .u8 0, .int .u8 0, .int .u8 0, .int .u8 0, .int .u8 0, .int .u8 0, .int .u8 0, .int .u8 0, .int .u8 0, .int .u8 0, .int .u8 0, .int .u8 0, .int .u8 0, .int .u8 0, .int .u8 0, .int .u8 0, .int .u8 0, .int .u8 0, .int .u8 0, .int .u8 0, .int .u8 0, .int .u8 0, .int .u8 0, .int .u8 0, .int .u8 0, .int .u8 0, .int .u8 0, .int .u8 0, .int .u8 0, .int .u8 0, .int .u8 0] 23) = U23 := hU23
            rw [hU23, hGe23] at hN23
            rw [hU23] at hb23 ho17n23 h417n23
            rw [hGe23] at hge23 hlt423
            rw [hc23, hGe23]
            clear hGe23 hU23 hc23 hn23
            refine wpAnyG_one (i := 5) rfl (by kernel_rfl) (by kernel_rfl) (fun K hK => ?_)
            refine wp_appA _ _ rfl W0.heap.size _ b rfl ho17n23 (some ⟨G16, 0, none⟩) 1 1 [1] rfl (h417n23.bytes rfl (by simp)) (by rw [HBL.out]; omega) hb23.size ?_
            intro v24 u24 ho24 hg24
            have hb24 : Below W0.heap.size W0 u24 := below_grown hb23 ho17n23 hg24 hb23.size
            have h724 := holds_grown hN23 ho17n23 hg24 (by decide)
            clear hg24
            refine hK.out _ _ (fun _ => hS) ?_
            clear hK K
            refine wpAnyG_one (i := 6) rfl (by kernel_rfl) (by kernel_rfl) (fun K hK => ?_)
            go_wp2_with (go_at_call 5; refine (hH _ _ _ (hBw.trans (hb24.mono hBw.size)) (hkW.below hb24 hkW.lt) ho24).mono ?_; rintro e u25 ⟨rfl, hx25⟩)
            have hb25 : Below W0.heap.size W0 u25 := hb24.trans (hx25.mono hb24.size)
            have h725 := h724.below hx25 h724.lt
            refine hK.out _ _ (fun _ => hS) ?_
            clear hK K
            refine wpAnyG_one (i := 8) rfl (by kernel_rfl) (by kernel_rfl) (fun K hK => ?_)
            refine wp_st 23 _ _ rfl _ rfl rfl h725 (by rw [hT1l]; exact sizeKey) (by simp [hT1l]) ?_
            refine hK.out _ _ (fun h => absurd (show true = false from h) (by decide)) ?_
            clear hK K
            refine wpAnyG_done (by kernel_rfl) ?_ _
            exact ⟨_, _, _, _, _, rfl, below_setRow hb25 hge23 _, h725.setRow T1⟩
        · skip
          go_simp
          have hN26 : Holds (U16.alloc (.cells (row .u8 (List.replicate 32 0)) 23)) U16.heap.size .u8 23 (List.replicate 32 0) := Holds.new U16 .u8 23 (List.replicate 32 0)
          have hn26 : Below U16.heap.size U16 (U16.alloc (.cells (row .u8 (List.replicate 32 0)) 23)) := (Below.refl _ _).alloc (Nat.le_refl _) _
          have hb26 : Below W0.heap.size W0 (U16.alloc (.cells (row .u8 (List.replicate 32 0)) 23)) := hb16.trans (hn26.mono hb16.size)
          have hge26 := hb16.size
          have hO1n16n26 := hO1n16.belowM hn26
          have hN16n26 := hN16.alloc (.cells (row .u8 (List.replicate 32 0)) 23)
          refine hK.out _ _ (fun _ => hS) ?_
          clear hK K
          obtain ⟨G26, hGe26⟩ : ∃ q, U16.heap.size = q := ⟨_, rfl⟩
          have hlt426 := hN16.lt
          have hlt126 := hltg16
          obtain ⟨U26, hU26⟩ : ∃ q, U16.alloc (.cells (row .u8 (List.replicate 32 0)) 23) = q := ⟨_, rfl⟩
          have hc26 : U16.alloc (.cells #[.int .u8 0, .int .u8 0, .int .u8 0, .int .u8 0, .int .u8 0, .int .u8 0, .int .u8 0, .int .u8 0, .int .u8 0, .int .u8 0, .int .u8 0, .int .u8 0, .int .u8 0, .int .u8 0, .int .u8 0, .int .u8 0, .int .u8 0, .int .u8 0, .int .u8 0, .int .u8 0, .int .u8 0, .int .u8 0, .int .u8 0, .int .u8 0, .int .u8 0, .int .u8 0, .int .u8 0, .int .u8 0, .int .u8 0, .int .u8 0, .int .u8 0, .int .u8 0] 23) = U26 := hU26
          rw [hU26, hGe26] at hN26
          rw [hU26] at hb26 hO1n16n26 hN16n26
          rw [hGe26] at hge26 hlt426 hlt126
          rw [hc26, hGe26]
          have hltg26 : G1 < U26.heap.size := by rw [← hU26]; simp; omega
          clear hGe26 hU26 hc26 hn26
          refine wpAnyG_one (i := 3) rfl (by kernel_rfl) (by kernel_rfl) (fun K hK => ?_)
          refine wp_appA _ _ rfl W0.heap.size _ [] rfl hO1n16n26 y m cb b rfl (hyW.below hb26) (by simp; omega) hb26.size ?_
          intro v27 u27 ho27 hg27
          have hb27 : Below W0.heap.size W0 u27 := below_grown hb26 hO1n16n26 hg27 hb26.size
          rw [List.nil_append] at ho27
          have h427 := holds_grownA hN16n26 hg27 hne16
          have h727 := holds_grown hN26 hO1n16n26 hg27 (by decide)
          clear hg27
          refine hK.out _ _ (fun _ => hS) ?_
          clear hK K
          refine wpAnyG_one (i := 5) rfl (by kernel_rfl) (by kernel_rfl) (fun K hK => ?_)
          refine wp_appA _ _ rfl W0.heap.size _ b rfl ho27 (some ⟨G16, 0, none⟩) 1 1 [1] rfl (h427.bytes rfl (by simp)) (by rw [HBL.out]; omega) hb27.size ?_
          intro v28 u28 ho28 hg28
          have hb28 : Below W0.heap.size W0 u28 := below_grown hb27 ho27 hg28 hb27.size
          have h728 := holds_grown h727 ho27 hg28 (by decide)
          clear hg28
          refine hK.out _ _ (fun _ => hS) ?_
          clear hK K
          refine wpAnyG_one (i := 6) rfl (by kernel_rfl) (by kernel_rfl) (fun K hK => ?_)
          go_wp2_with (go_at_call 5; refine (hH _ _ _ (hBw.trans (hb28.mono hBw.size)) (hkW.below hb28 hkW.lt) ho28).mono ?_; rintro e u29 ⟨rfl, hx29⟩)
          have hb29 : Below W0.heap.size W0 u29 := hb28.trans (hx29.mono hb28.size)
          have h729 := h728.below hx29 h728.lt
          refine hK.out _ _ (fun _ => hS) ?_
          clear hK K
          refine wpAnyG_one (i := 8) rfl (by kernel_rfl) (by kernel_rfl) (fun K hK => ?_)
          refine wp_st 23 _ _ rfl _ rfl rfl h729 (by rw [hT1l]; exact sizeKey) (by simp [hT1l]) ?_
          refine hK.out _ _ (fun h => absurd (show true = false from h) (by decide)) ?_
          clear hK K
          refine wpAnyG_done (by kernel_rfl) ?_ _
          exact ⟨_, _, _, _, _, rfl, below_setRow hb29 hge26 _, h729.setRow T1⟩
      · skip
        go_simp
        have hN30 : Holds (U1.alloc (.cells (row .u8 (List.replicate 32 0)) 23)) U1.heap.size .u8 23 (List.replicate 32 0) := Holds.new U1 .u8 23 (List.replicate 32 0)
        have hn30 : Below U1.heap.size U1 (U1.alloc (.cells (row .u8 (List.replicate 32 0)) 23)) := (Below.refl _ _).alloc (Nat.le_refl _) _
        have hb30 : Below W0.heap.size W0 (U1.alloc (.cells (row .u8 (List.replicate 32 0)) 23)) := hb1.trans (hn30.mono hb1.size)
        have hge30 := hb1.size
        have hO1n30 := hO1.belowM hn30
        refine hK.out _ _ (fun _ => hS) ?_
        clear hK K
        obtain ⟨G30, hGe30⟩ : ∃ q, U1.heap.size = q := ⟨_, rfl⟩
        have hlt130 := hltg1
        obtain ⟨U30, hU30⟩ : ∃ q, U1.alloc (.cells (row .u8 (List.replicate 32 0)) 23) = q := ⟨_, rfl⟩
        have hc30 : U1.alloc (.cells #[.int .u8 0, .int .u8 0, .int .u8 0, .int .u8 0, .int .u8 0, .int .u8 0, .int .u8 0, .int .u8 0, .int .u8 0, .int .u8 0, .int .u8 0, .int .u8 0, .int .u8 0, .int .u8 0, .int .u8 0, .int .u8 0, .int .u8 0, .int .u8 0, .int .u8 0, .int .u8 0, .int .u8 0, .int .u8 0, .int .u8 0, .int .u8 0, .int .u8 0, .int .u8 0, .int .u8 0, .int .u8 0, .int .u8 0, .int .u8 0, .int .u8 0, .int .u8 0] 23) = U30 := hU30
        rw [hU30, hGe30] at hN30
        rw [hU30] at hb30 hO1n30
        rw [hGe30] at hge30 hlt130
        rw [hc30, hGe30]
        have hltg30 : G1 < U30.heap.size := by rw [← hU30]; simp; omega
        clear hGe30 hU30 hc30 hn30
        refine wpAnyG_two (i := 3) (j := 4) rfl rfl (by kernel_rfl) (by kernel_rfl) (by kernel_rfl) (fun K hK => ?_) (fun K hK => ?_)
        · skip
          refine wp_appA _ _ rfl W0.heap.size _ [] rfl hO1n30 y m cb b rfl (hyW.below hb30) (by simp; omega) hb30.size ?_
          intro v31 u31 ho31 hg31
          have hb31 : Below W0.heap.size W0 u31 := below_grown hb30 hO1n30 hg31 hb30.size
          rw [List.nil_append] at ho31
          have h731 := holds_grown hN30 hO1n30 hg31 (by decide)
          clear hg31
          refine hK.out _ _ (fun _ => hS) ?_
          clear hK K
          refine wpAnyG_one (i := 4) rfl (by kernel_rfl) (by kernel_rfl) (fun K hK => ?_)
          go_simp
          have hN32 : Holds (u31.alloc (.cells (row .u8 [1]) 5)) u31.heap.size .u8 5 [1] := Holds.new u31 .u8 5 [1]
          have hn32 : Below u31.heap.size u31 (u31.alloc (.cells (row .u8 [1]) 5)) := (Below.refl _ _).alloc (Nat.le_refl _) _
          have hb32 : Below W0.heap.size W0 (u31.alloc (.cells (row .u8 [1]) 5)) := hb31.trans (hn32.mono hb31.size)
          have hge32 := hb31.size
          have ho31n32 := ho31.belowM hn32
          have h731n32 := h731.alloc (.cells (row .u8 [1]) 5)
          refine hK.out _ _ (fun _ => hS) ?_
          clear hK K
          obtain ⟨G32, hGe32⟩ : ∃ q, u31.heap.size = q := ⟨_, rfl⟩
          obtain ⟨U32, hU32⟩ : ∃ q, u31.alloc (.cells (row .u8 [1]) 5) = q := ⟨_, rfl⟩
          have hc32 : u31.alloc (.cells #[.int .u8 1] 5) = U32 := hU32
          rw [hU32, hGe32] at hN32
          rw [hU32] at hb32 ho31n32 h731n32
          rw [hGe32] at hge32
          rw [hc32, hGe32]
          clear hGe32 hU32 hc32 hn32
          refine wpAnyG_one (i := 5) rfl (by kernel_rfl) (by kernel_rfl) (fun K hK => ?_)
          refine wp_appA _ _ rfl W0.heap.size _ b rfl ho31n32 (some ⟨G32, 0, none⟩) 1 1 [1] rfl (hN32.bytes rfl (by simp)) (by rw [HBL.out]; omega) hb32.size ?_
          intro v33 u33 ho33 hg33
          have hb33 : Below W0.heap.size W0 u33 := below_grown hb32 ho31n32 hg33 hb32.size
          have h733 := holds_grown h731n32 ho31n32 hg33 (by decide)
          clear hg33
          refine hK.out _ _ (fun _ => hS) ?_
          clear hK K
          refine wpAnyG_one (i := 6) rfl (by kernel_rfl) (by kernel_rfl) (fun K hK => ?_)
          go_wp2_with (go_at_call 5; refine (hH _ _ _ (hBw.trans (hb33.mono hBw.size)) (hkW.below hb33 hkW.lt) ho33).mono ?_; rintro e u34 ⟨rfl, hx34⟩)
          have hb34 : Below W0.heap.size W0 u34 := hb33.trans (hx34.mono hb33.size)
          have h734 := h733.below hx34 h733.lt
          refine hK.out _ _ (fun _ => hS) ?_
          clear hK K
          refine wpAnyG_one (i := 8) rfl (by kernel_rfl) (by kernel_rfl) (fun K hK => ?_)
          refine wp_st 23 _ _ rfl _ rfl rfl h734 (by rw [hT1l]; exact sizeKey) (by simp [hT1l]) ?_
          refine hK.out _ _ (fun h => absurd (show true = false from h) (by decide)) ?_
          clear hK K
          refine wpAnyG_done (by kernel_rfl) ?_ _
          exact ⟨_, _, _, _, _, rfl, below_setRow hb34 hge30 _, h734.setRow T1⟩
        · skip
          go_simp
          have hN35 : Holds (U30.alloc (.cells (row .u8 [1]) 5)) U30.heap.size .u8 5 [1] := Holds.new U30 .u8 5 [1]
          have hn35 : Below U30.heap.size U30 (U30.alloc (.cells (row .u8 [1]) 5)) := (Below.refl _ _).alloc (Nat.le_refl _) _
          have hb35 : Below W0.heap.size W0 (U30.alloc (.cells (row .u8 [1]) 5)) := hb30.trans (hn35.mono hb30.size)
          have hge35 := hb30.size
          have hO1n30n35 := hO1n30.belowM hn35
          have hN30n35 := hN30.alloc (.cells (row .u8 [1]) 5)
          refine hK.out _ _ (fun _ => hS) ?_
          clear hK K
          obtain ⟨G35, hGe35⟩ : ∃ q, U30.heap.size = q := ⟨_, rfl⟩
          have hlt135 := hltg30
          obtain ⟨U35, hU35⟩ : ∃ q, U30.alloc (.cells (row .u8 [1]) 5) = q := ⟨_, rfl⟩
          have hc35 : U30.alloc (.cells #[.int .u8 1] 5) = U35 := hU35
          rw [hU35, hGe35] at hN35
          rw [hU35] at hb35 hO1n30n35 hN30n35
          rw [hGe35] at hge35 hlt135
          rw [hc35, hGe35]
          have hne35 : G1 ≠ G35 := by omega
          have hltg35 : G1 < U35.heap.size := by rw [← hU35]; simp; omega
          clear hGe35 hU35 hc35 hn35
          refine wpAnyG_one (i := 3) rfl (by kernel_rfl) (by kernel_rfl) (fun K hK => ?_)
          refine wp_appA _ _ rfl W0.heap.size _ [] rfl hO1n30n35 y m cb b rfl (hyW.below hb35) (by simp; omega) hb35.size ?_
          intro v36 u36 ho36 hg36
          have hb36 : Below W0.heap.size W0 u36 := below_grown hb35 hO1n30n35 hg36 hb35.size
          rw [List.nil_append] at ho36
          have h436 := holds_grownA hN35 hg36 hne35
          have h736 := holds_grown hN30n35 hO1n30n35 hg36 (by decide)
          clear hg36
          refine hK.out _ _ (fun _ => hS) ?_
          clear hK K
          refine wpAnyG_one (i := 5) rfl (by kernel_rfl) (by kernel_rfl) (fun K hK => ?_)
          refine wp_appA _ _ rfl W0.heap.size _ b rfl ho36 (some ⟨G35, 0, none⟩) 1 1 [1] rfl (h436.bytes rfl (by simp)) (by rw [HBL.out]; omega) hb36.size ?_
          intro v37 u37 ho37 hg37
          have hb37 : Below W0.heap.size W0 u37 := below_grown hb36 ho36 hg37 hb36.size
          have h737 := holds_grown h736 ho36 hg37 (by decide)
          clear hg37
          refine hK.out _ _ (fun _ => hS) ?_
          clear hK K
          refine wpAnyG_one (i := 6) rfl (by kernel_rfl) (by kernel_rfl) (fun K hK => ?_)
          go_wp2_with (go_at_call 5; refine (hH _ _ _ (hBw.trans (hb37.mono hBw.size)) (hkW.below hb37 hkW.lt) ho37).mono ?_; rintro e u38 ⟨rfl, hx38⟩)
          have hb38 : Below W0.heap.size W0 u38 := hb37.trans (hx38.mono hb37.size)
          have h738 := h737.below hx38 h737.lt
          refine hK.out _ _ (fun _ => hS) ?_
          clear hK K
          refine wpAnyG_one (i := 8) rfl (by kernel_rfl) (by kernel_rfl) (fun K hK => ?_)
          refine wp_st 23 _ _ rfl _ rfl rfl h738 (by rw [hT1l]; exact sizeKey) (by simp [hT1l]) ?_
          refine hK.out _ _ (fun h => absurd (show true = false from h) (by decide)) ?_
          clear hK K
          refine wpAnyG_done (by kernel_rfl) ?_ _
          exact ⟨_, _, _, _, _, rfl, below_setRow hb38 hge30 _, h738.setRow T1⟩
    · skip
      go_simp
      have hN39 : Holds (D0.alloc (.cells (row .u8 [1]) 5)) D0.heap.size .u8 5 [1] := Holds.new D0 .u8 5 [1]
      have hn39 : Below D0.heap.size D0 (D0.alloc (.cells (row .u8 [1]) 5)) := (Below.refl _ _).alloc (Nat.le_refl _) _
      have hb39 : Below W0.heap.size W0 (D0.alloc (.cells (row .u8 [1]) 5)) := hb0.trans (hn39.mono hb0.size)
      have hge39 := hb0.size
      refine hK.out _ _ (fun _ => hS) ?_
      clear hK K
      obtain ⟨G39, hGe39⟩ : ∃ q, D0.heap.size = q := ⟨_, rfl⟩
      obtain ⟨U39, hU39⟩ : ∃ q, D0.alloc (.cells (row .u8 [1]) 5) = q := ⟨_, rfl⟩
      have hc39 : D0.alloc (.cells #[.int .u8 1] 5) = U39 := hU39
      rw [hU39, hGe39] at hN39
      rw [hU39] at hb39 
      rw [hGe39] at hge39
      rw [hc39, hGe39]
      clear hGe39 hU39 hc39 hn39
      refine wpAnyG_two (i := 1) (j := 7) rfl rfl (by kernel_rfl) (by kernel_rfl) (by kernel_rfl) (fun K hK => ?_) (fun K hK => ?_)
      · skip
        go_simp
        have hN40 : Holds (U39.alloc (.cells (row .u8 []) 5)) U39.heap.size .u8 5 [] := Holds.new U39 .u8 5 []
        have hn40 : Below U39.heap.size U39 (U39.alloc (.cells (row .u8 []) 5)) := (Below.refl _ _).alloc (Nat.le_refl _) _
        have hb40 : Below W0.heap.size W0 (U39.alloc (.cells (row .u8 []) 5)) := hb39.trans (hn40.mono hb39.size)
        have hge40 := hb39.size
        have hN39n40 := hN39.alloc (.cells (row .u8 []) 5)
        refine hK.out _ _ (fun _ => hS) ?_
        clear hK K
        obtain ⟨G40, hGe40⟩ : ∃ q, U39.heap.size = q := ⟨_, rfl⟩
        have hlt440 := hN39.lt
        obtain ⟨U40, hU40⟩ : ∃ q, U39.alloc (.cells (row .u8 []) 5) = q := ⟨_, rfl⟩
        have hc40 : U39.alloc (.cells #[] 5) = U40 := hU40
        rw [hU40, hGe40] at hN40
        rw [hU40] at hb40 hN39n40
        rw [hGe40] at hge40 hlt440
        rw [hc40, hGe40]
        have hO40 : OwnB U40 W0.heap.size (.slice (some ⟨G40, 0, none⟩) 0 0) [] := by rw [← hU40, ← hGe40]; exact ownB_empty U39 W0.heap.size hb39.size
        have hltg40 : G40 < U40.heap.size := hN40.lt
        have hne40 : G40 ≠ G39 := by omega
        clear hGe40 hU40 hc40 hn40
        refine wpAnyG_two (i := 3) (j := 7) rfl rfl (by kernel_rfl) (by kernel_rfl) (by kernel_rfl) (fun K hK => ?_) (fun K hK => ?_)
        · skip
          refine wp_appA _ _ rfl W0.heap.size _ [] rfl hO40 y m cb b rfl (hyW.below hb40) (by simp; omega) hb40.size ?_
          intro v41 u41 ho41 hg41
          have hb41 : Below W0.heap.size W0 u41 := below_grown hb40 hO40 hg41 hb40.size
          rw [List.nil_append] at ho41
          have h441 := holds_grownA hN39n40 hg41 hne40
          clear hg41
          refine hK.out _ _ (fun _ => hS) ?_
          clear hK K
          refine wpAnyG_two (i := 5) (j := 7) rfl rfl (by kernel_rfl) (by kernel_rfl) (by kernel_rfl) (fun K hK => ?_) (fun K hK => ?_)
          · skip
            refine wp_appA _ _ rfl W0.heap.size _ b rfl ho41 (some ⟨G39, 0, none⟩) 1 1 [1] rfl (h441.bytes rfl (by simp)) (by rw [HBL.out]; omega) hb41.size ?_
            intro v42 u42 ho42 hg42
            have hb42 : Below W0.heap.size W0 u42 := below_grown hb41 ho41 hg42 hb41.size
            clear hg42
            refine hK.out _ _ (fun _ => hS) ?_
            clear hK K
            refine wpAnyG_two (i := 6) (j := 7) rfl rfl (by kernel_rfl) (by kernel_rfl) (by kernel_rfl) (fun K hK => ?_) (fun K hK => ?_)
            · skip
              go_wp2_with (go_at_call 5; refine (hH _ _ _ (hBw.trans (hb42.mono hBw.size)) (hkW.below hb42 hkW.lt) ho42).mono ?_; rintro e u43 ⟨rfl, hx43⟩)
              have hb43 : Below W0.heap.size W0 u43 := hb42.trans (hx43.mono hb42.size)
              refine hK.out _ _ (fun _ => hS) ?_
              clear hK K
              refine wpAnyG_one (i := 7) rfl (by kernel_rfl) (by kernel_rfl) (fun K hK => ?_)
              go_simp
              have hN44 : Holds (u43.alloc (.cells (row .u8 (List.replicate 32 0)) 23)) u43.heap.size .u8 23 (List.replicate 32 0) := Holds.new u43 .u8 23 (List.replicate 32 0)
              have hn44 : Below u43.heap.size u43 (u43.alloc (.cells (row .u8 (List.replicate 32 0)) 23)) := (Below.refl _ _).alloc (Nat.le_refl _) _
              have hb44 : Below W0.heap.size W0 (u43.alloc (.cells (row .u8 (List.replicate 32 0)) 23)) := hb43.trans (hn44.mono hb43.size)
              have hge44 := hb43.size
              refine hK.out _ _ (fun _ => hS) ?_
              clear hK K
              obtain ⟨G44, hGe44⟩ : ∃ q, u43.heap.size = q := ⟨_, rfl⟩
              obtain ⟨U44, hU44⟩ : ∃ q, u43.alloc (.cells (row .u8 (List.replicate 32 0)) 23) = q := ⟨_, rfl⟩
              have hc44 : u43.alloc (.cells #[.int .u8 0, .int .u8 0, .int .u8 0, .int .u8 0, .int .u8 0, .int .u8 0, .int .u8 0, .int .u8 0, .int .u8 0, .int .u8 0, .int .u8 0, .int .u8 0, .int .u8 0, .int .u8 0, .int .u8 0, .int .u8 0, .int .u8 0, .int .u8 0, .int .u8 0, .int .u8 0, .int .u8 0, .int .u8 0, .int .u8 0, .int .u8 0, .int .u8 0, .int .u8 0, .int .u8 0, .int .u8 0, .int .u8 0, .int .u8 0, .int .u8 0, .int .u8 0] 23) = U44 := hU44
              rw [hU44, hGe44] at hN44
              rw [hU44] at hb44 
              rw [hGe44] at hge44
              rw [hc44, hGe44]
              clear hGe44 hU44 hc44 hn44
              refine wpAnyG_one (i := 8) rfl (by kernel_rfl) (by kernel_rfl) (fun K hK => ?_)
              refine wp_st 23 _ _ rfl _ rfl rfl hN44 (by rw [hT1l]; exact sizeKey) (by simp [hT1l]) ?_
              refine hK.out _ _ (fun h => absurd (show true = false from h) (by decide)) ?_
              clear hK K
              refine wpAnyG_done (by kernel_rfl) ?_ _
              exact ⟨_, _, _, _, _, rfl, below_setRow hb44 hge44 _, hN44.setRow T1⟩
            · skip
              go_simp
              have hN45 : Holds (u42.alloc (.cells (row .u8 (List.replicate 32 0)) 23)) u42.heap.size .u8 23 (List.replicate 32 0) := Holds.new u42 .u8 23 (List.replicate 32 0)
              have hn45 : Below u42.heap.size u42 (u42.alloc (.cells (row .u8 (List.replicate 32 0)) 23)) := (Below.refl _ _).alloc (Nat.le_refl _) _
              have hb45 : Below W0.heap.size W0 (u42.alloc (.cells (row .u8 (List.replicate 32 0)) 23)) := hb42.trans (hn45.mono hb42.size)
              have hge45 := hb42.size
              have ho42n45 := ho42.belowM hn45
              refine hK.out _ _ (fun _ => hS) ?_
              clear hK K
              obtain ⟨G45, hGe45⟩ : ∃ q, u42.heap.size = q := ⟨_, rfl⟩
              obtain ⟨U45, hU45⟩ : ∃ q, u42.alloc (.cells (row .u8 (List.replicate 32 0)) 23) = q := ⟨_, rfl⟩
              have hc45 : u42.alloc (.cells #[.int .u8 0, .int .u8 0, .int .u8 0, .int .u8 0, .int .u8 0, .int .u8 0, .int .u8 0, .int .u8 0, .int .u8 0, .int .u8 0, .int .u8 0, .int .u8 0, .int .u8 0, .int .u8 0, .int .u8 0, .int .u8 0, .int .u8 0, .int .u8 0, .int .u8 0, .int .u8 0, .int .u8 0, .int .u8 0, .int .u8 0, .int .u8 0, .int .u8 0, .int .u8 0, .int .u8 0, .int .u8 0, .int .u8 0, .int .u8 0, .int .u8 0, .int .u8 0] 23) = U45 := hU45
              rw [hU45, hGe45] at hN45
              rw [hU45] at hb45 ho42n45
              rw [hGe45] at hge45
              rw [hc45, hGe45]
              clear hGe45 hU45 hc45 hn45
              refine wpAnyG_one (i := 6) rfl (by kernel_rfl) (by kernel_rfl) (fun K hK => ?_)
              go_wp2_with (go_at_call 5; refine (hH _ _ _ (hBw.trans (hb45.mono hBw.size)) (hkW.below hb45 hkW.lt) ho42n45).mono ?_; rintro e u46 ⟨rfl, hx46⟩)
              have hb46 : Below W0.heap.size W0 u46 := hb45.trans (hx46.mono hb45.size)
              have h746 := hN45.below hx46 hN45.lt
              refine hK.out _ _ (fun _ => hS) ?_
              clear hK K
              refine wpAnyG_one (i := 8) rfl (by kernel_rfl) (by kernel_rfl) (fun K hK => ?_)
              refine wp_st 23 _ _ rfl _ rfl rfl h746 (by rw [hT1l]; exact sizeKey) (by simp [hT1l]) ?_
              refine hK.out _ _ (fun h => absurd (show true = false from h) (by decide)) ?_
              clear hK K
              refine wpAnyG_done (by kernel_rfl) ?_ _
              exact ⟨_, _, _, _, _, rfl, below_setRow hb46 hge45 _, h746.setRow T1⟩
          · skip
            go_simp
            have hN47 : Holds (u41.alloc (.cells (row .u8 (List.replicate 32 0)) 23)) u41.heap.size .u8 23 (List.replicate 32 0) := Holds.new u41 .u8 23 (List.replicate 32 0)
            have hn47 : Below u41.heap.size u41 (u41.alloc (.cells (row .u8 (List.replicate 32 0)) 23)) := (Below.refl _ _).alloc (Nat.le_refl _) _
            have hb47 : Below W0.heap.size W0 (u41.alloc (.cells (row .u8 (List.replicate 32 0)) 23)) := hb41.trans (hn47.mono hb41.size)
            have hge47 := hb41.size
            have ho41n47 := ho41.belowM hn47
            have h441n47 := h441.alloc (.cells (row .u8 (List.replicate 32 0)) 23)
            refine hK.out _ _ (fun _ => hS) ?_
            clear hK K
            obtain ⟨G47, hGe47⟩ : ∃ q, u41.heap.size = q := ⟨_, rfl⟩
            have hlt447 := h441.lt
            obtain ⟨U47, hU47⟩ : ∃ q, u41.alloc (.cells (row .u8 (List.replicate 32 0)) 23) = q := ⟨_, rfl⟩
            have hc47 : u41.alloc (.cells #[.int .u8 0, .int .u8 0, .int .u8 0, .int .u8 0, .int .u8 0, .int .u8 0, .int .u8 0, .int .u8 0, .int .u8 0, .int .u8 0, .int .u8 0, .int .u8 0, .int .u8 0, .int .u8 0, .int .u8 0, .int .u8 0, .int .u8 0, .int .u8 0, .int .u8 0, .int .u8 0, .int .u8 0, .int .u8 0, .int .u8 0, .int .u8 0, .int .u8 0, .int .u8 0, .int .u8 0, .int .u8 0, .int .u8 0, .int .u8 0, .int .u8 0, .int .u8 0] 23) = U47 := hU47
            rw [hU47, hGe47] at hN47
            rw [hU47] at hb47 ho41n47 h441n47
            rw [hGe47] at hge47 hlt447
            rw [hc47, hGe47]
            clear hGe47 hU47 hc47 hn47
            refine wpAnyG_one (i := 5) rfl (by kernel_rfl) (by kernel_rfl) (fun K hK => ?_)
            refine wp_appA _ _ rfl W0.heap.size _ b rfl ho41n47 (some ⟨G39, 0, none⟩) 1 1 [1] rfl (h441n47.bytes rfl (by simp)) (by rw [HBL.out]; omega) hb47.size ?_
            intro v48 u48 ho48 hg48
            have hb48 : Below W0.heap.size W0 u48 := below_grown hb47 ho41n47 hg48 hb47.size
            have h748 := holds_grown hN47 ho41n47 hg48 (by decide)
            clear hg48
            refine hK.out _ _ (fun _ => hS) ?_
            clear hK K
            refine wpAnyG_one (i := 6) rfl (by kernel_rfl) (by kernel_rfl) (fun K hK => ?_)
            go_wp2_with (go_at_call 5; refine (hH _ _ _ (hBw.trans (hb48.mono hBw.size)) (hkW.below hb48 hkW.lt) ho48).mono ?_; rintro e u49 ⟨rfl, hx49⟩)
            have hb49 : Below W0.heap.size W0 u49 := hb48.trans (hx49.mono hb48.size)
            have h749 := h748.below hx49 h748.lt
            refine hK.out _ _ (fun _ => hS) ?_
            clear hK K
            refine wpAnyG_one (i := 8) rfl (by kernel_rfl) (by kernel_rfl) (fun K hK => ?_)
            refine wp_st 23 _ _ rfl _ rfl rfl h749 (by rw [hT1l]; exact sizeKey) (by simp [hT1l]) ?_
            refine hK.out _ _ (fun h => absurd (show true = false from h) (by decide)) ?_
            clear hK K
            refine wpAnyG_done (by kernel_rfl) ?_ _
            exact ⟨_, _, _, _, _, rfl, below_setRow hb49 hge47 _, h749.setRow T1⟩
        · skip
          go_simp
          have hN50 : Holds (U40.alloc (.cells (row .u8 (List.replicate 32 0)) 23)) U40.heap.size .u8 23 (List.replicate 32 0) := Holds.new U40 .u8 23 (List.replicate 32 0)
          have hn50 : Below U40.heap.size U40 (U40.alloc (.cells (row .u8 (List.replicate 32 0)) 23)) := (Below.refl _ _).alloc (Nat.le_refl _) _
          have hb50 : Below W0.heap.size W0 (U40.alloc (.cells (row .u8 (List.replicate 32 0)) 23)) := hb40.trans (hn50.mono hb40.size)
          have hge50 := hb40.size
          have hO40n50 := hO40.belowM hn50
          have hN39n40n50 := hN39n40.alloc (.cells (row .u8 (List.replicate 32 0)) 23)
          refine hK.out _ _ (fun _ => hS) ?_
          clear hK K
          obtain ⟨G50, hGe50⟩ : ∃ q, U40.heap.size = q := ⟨_, rfl⟩
          have hlt450 := hN39n40.lt
          have hlt150 := hltg40
          obtain ⟨U50, hU50⟩ : ∃ q, U40.alloc (.cells (row .u8 (List.replicate 32 0)) 23) = q := ⟨_, rfl⟩
          have hc50 : U40.alloc (.cells #[.int .u8 0, .int .u8 0, .int .u8 0, .int .u8 0, .int .u8 0, .int .u8 0, .int .u8 0, .int .u8 0, .int .u8 0, .int .u8 0, .int .u8 0, .int .u8 0, .int .u8 0, .int .u8 0, .int .u8 0, .int .u8 0, .int .u8 0, .int .u8 0, .int .u8 0, .int .u8 0, .int .u8 0, .int .u8 0, .int .u8 0, .int .u8 0, .int .u8 0, .int .u8 0, .int .u8 0, .int .u8 0, .int .u8 0, .int .u8 0, .int .u8 0, .int .u8 0] 23) = U50 := hU50
          rw [hU50, hGe50] at hN50
          rw [hU50] at hb50 hO40n50 hN39n40n50
          rw [hGe50] at hge50 hlt450 hlt150
          rw [hc50, hGe50]
          have hltg50 : G40 < U50.heap.size := by rw [← hU50]; simp; omega
          clear hGe50 hU50 hc50 hn50
          refine wpAnyG_one (i := 3) rfl (by kernel_rfl) (by kernel_rfl) (fun K hK => ?_)
          refine wp_appA _ _ rfl W0.heap.size _ [] rfl hO40n50 y m cb b rfl (hyW.below hb50) (by simp; omega) hb50.size ?_
          intro v51 u51 ho51 hg51
          have hb51 : Below W0.heap.size W0 u51 := below_grown hb50 hO40n50 hg51 hb50.size
          rw [List.nil_append] at ho51
          have h451 := holds_grownA hN39n40n50 hg51 hne40
          have h751 := holds_grown hN50 hO40n50 hg51 (by decide)
          clear hg51
          refine hK.out _ _ (fun _ => hS) ?_
          clear hK K
          refine wpAnyG_one (i := 5) rfl (by kernel_rfl) (by kernel_rfl) (fun K hK => ?_)
          refine wp_appA _ _ rfl W0.heap.size _ b rfl ho51 (some ⟨G39, 0, none⟩) 1 1 [1] rfl (h451.bytes rfl (by simp)) (by rw [HBL.out]; omega) hb51.size ?_
          intro v52 u52 ho52 hg52
          have hb52 : Below W0.heap.size W0 u52 := below_grown hb51 ho51 hg52 hb51.size
          have h752 := holds_grown h751 ho51 hg52 (by decide)
          clear hg52
          refine hK.out _ _ (fun _ => hS) ?_
          clear hK K
          refine wpAnyG_one (i := 6) rfl (by kernel_rfl) (by kernel_rfl) (fun K hK => ?_)
          go_wp2_with (go_at_call 5; refine (hH _ _ _ (hBw.trans (hb52.mono hBw.size)) (hkW.below hb52 hkW.lt) ho52).mono ?_; rintro e u53 ⟨rfl, hx53⟩)
          have hb53 : Below W0.heap.size W0 u53 := hb52.trans (hx53.mono hb52.size)
          have h753 := h752.below hx53 h752.lt
          refine hK.out _ _ (fun _ => hS) ?_
          clear hK K
          refine wpAnyG_one (i := 8) rfl (by kernel_rfl) (by kernel_rfl) (fun K hK => ?_)
          refine wp_st 23 _ _ rfl _ rfl rfl h753 (by rw [hT1l]; exact sizeKey) (by simp [hT1l]) ?_
          refine hK.out _ _ (fun h => absurd (show true = false from h) (by decide)) ?_
          clear hK K
          refine wpAnyG_done (by kernel_rfl) ?_ _
          exact ⟨_, _, _, _, _, rfl, below_setRow hb53 hge50 _, h753.setRow T1⟩
      · skip
        go_simp
        have hN54 : Holds (U39.alloc (.cells (row .u8 (List.replicate 32 0)) 23)) U39.heap.size .u8 23 (List.replicate 32 0) := Holds.new U39 .u8 23 (List.replicate 32 0)
        have hn54 : Below U39.heap.size U39 (U39.alloc (.cells (row .u8 (List.replicate 32 0)) 23)) := (Below.refl _ _).alloc (Nat.le_refl _) _
        have hb54 : Below W0.heap.size W0 (U39.alloc (.cells (row .u8 (List.replicate 32 0)) 23)) := hb39.trans (hn54.mono hb39.size)
        have hge54 := hb39.size
        have hN39n54 := hN39.alloc (.cells (row .u8 (List.replicate 32 0)) 23)
        refine hK.out _ _ (fun _ => hS) ?_
        clear hK K
        obtain ⟨G54, hGe54⟩ : ∃ q, U39.heap.size = q := ⟨_, rfl⟩
        have hlt454 := hN39.lt
        obtain ⟨U54, hU54⟩ : ∃ q, U39.alloc (.cells (row .u8 (List.replicate 32 0)) 23) = q := ⟨_, rfl⟩
        have hc54 : U39.alloc (.cells #[.int .u8 0, .int .u8 0, .int .u8 0, .int .u8 0, .int .u8 0, .int .u8 0, .int .u8 0, .int .u8 0, .int .u8 0, .int .u8 0, .int .u8 0, .int .u8 0, .int .u8 0, .int .u8 0, .int .u8 0, .int .u8 0, .int .u8 0, .int .u8 0, .int .u8 0, .int .u8 0, .int .u8 0, .int .u8 0, .int .u8 0, .int .u8 0, .int .u8 0, .int .u8 0, .int .u8 0, .int .u8 0, .int .u8 0, .int .u8 0, .int .u8 0, .int .u8 0] 23) = U54 := hU54
        rw [hU54, hGe54] at hN54
        rw [hU54] at hb54 hN39n54
        rw [hGe54] at hge54 hlt454
        rw [hc54, hGe54]
        clear hGe54 hU54 hc54 hn54
        refine wpAnyG_one (i := 1) rfl (by kernel_rfl) (by kernel_rfl) (fun K hK => ?_)
        go_simp
        have hN55 : Holds (U54.alloc (.cells (row .u8 []) 5)) U54.heap.size .u8 5 [] := Holds.new U54 .u8 5 []
        have hn55 : Below U54.heap.size U54 (U54.alloc (.cells (row .u8 []) 5)) := (Below.refl _ _).alloc (Nat.le_refl _) _
        have hb55 : Below W0.heap.size W0 (U54.alloc (.cells (row .u8 []) 5)) := hb54.trans (hn55.mono hb54.size)
        have hge55 := hb54.size
        have hN39n54n55 := hN39n54.alloc (.cells (row .u8 []) 5)
        have hN54n55 := hN54.alloc (.cells (row .u8 []) 5)
        refine hK.out _ _ (fun _ => hS) ?_
        clear hK K
        obtain ⟨G55, hGe55⟩ : ∃ q, U54.heap.size = q := ⟨_, rfl⟩
        have hlt455 := hN39n54.lt
        obtain ⟨U55, hU55⟩ : ∃ q, U54.alloc (.cells (row .u8 []) 5) = q := ⟨_, rfl⟩
        have hc55 : U54.alloc (.cells #[] 5) = U55 := hU55
        rw [hU55, hGe55] at hN55
        rw [hU55] at hb55 hN39n54n55 hN54n55
        rw [hGe55] at hge55 hlt455
        rw [hc55, hGe55]
        have hO55 : OwnB U55 W0.heap.size (.slice (some ⟨G55, 0, none⟩) 0 0) [] := by rw [← hU55, ← hGe55]; exact ownB_empty U54 W0.heap.size hb54.size
        have hltg55 : G55 < U55.heap.size := hN55.lt
        have hne55 : G55 ≠ G39 := by omega
        clear hGe55 hU55 hc55 hn55
        refine wpAnyG_one (i := 3) rfl (by kernel_rfl) (by kernel_rfl) (fun K hK => ?_)
        refine wp_appA _ _ rfl W0.heap.size _ [] rfl hO55 y m cb b rfl (hyW.below hb55) (by simp; omega) hb55.size ?_
        intro v56 u56 ho56 hg56
        have hb56 : Below W0.heap.size W0 u56 := below_grown hb55 hO55 hg56 hb55.size
        rw [List.nil_append] at ho56
        have h456 := holds_grownA hN39n54n55 hg56 hne55
        have h756 := holds_grown hN54n55 hO55 hg56 (by decide)
        clear hg56
        refine hK.out _ _ (fun _ => hS) ?_
        clear hK K
        refine wpAnyG_one (i := 5) rfl (by kernel_rfl) (by kernel_rfl) (fun K hK => ?_)
        refine wp_appA _ _ rfl W0.heap.size _ b rfl ho56 (some ⟨G39, 0, none⟩) 1 1 [1] rfl (h456.bytes rfl (by simp)) (by rw [HBL.out]; omega) hb56.size ?_
        intro v57 u57 ho57 hg57
        have hb57 : Below W0.heap.size W0 u57 := below_grown hb56 ho56 hg57 hb56.size
        have h757 := holds_grown h756 ho56 hg57 (by decide)
        clear hg57
        refine hK.out _ _ (fun _ => hS) ?_
        clear hK K
        refine wpAnyG_one (i := 6) rfl (by kernel_rfl) (by kernel_rfl) (fun K hK => ?_)
        go_wp2_with (go_at_call 5; refine (hH _ _ _ (hBw.trans (hb57.mono hBw.size)) (hkW.below hb57 hkW.lt) ho57).mono ?_; rintro e u58 ⟨rfl, hx58⟩)
        have hb58 : Below W0.heap.size W0 u58 := hb57.trans (hx58.mono hb57.size)
        have h758 := h757.below hx58 h757.lt
        refine hK.out _ _ (fun _ => hS) ?_
        clear hK K
        refine wpAnyG_one (i := 8) rfl (by kernel_rfl) (by kernel_rfl) (fun K hK => ?_)
        refine wp_st 23 _ _ rfl _ rfl rfl h758 (by rw [hT1l]; exact sizeKey) (by simp [hT1l]) ?_
        refine hK.out _ _ (fun h => absurd (show true = false from h) (by decide)) ?_
        clear hK K
        refine wpAnyG_done (by kernel_rfl) ?_ _
        exact ⟨_, _, _, _, _, rfl, below_setRow hb58 hge54 _, h758.setRow T1⟩
    · skip
      go_simp
      have hN59 : Holds (D0.alloc (.cells (row .u8 (List.replicate 32 0)) 23)) D0.heap.size .u8 23 (List.replicate 32 0) := Holds.new D0 .u8 23 (List.replicate 32 0)
      have hn59 : Below D0.heap.size D0 (D0.alloc (.cells (row .u8 (List.replicate 32 0)) 23)) := (Below.refl _ _).alloc (Nat.le_refl _) _
      have hb59 : Below W0.heap.size W0 (D0.alloc (.cells (row .u8 (List.replicate 32 0)) 23)) := hb0.trans (hn59.mono hb0.size)
      have hge59 := hb0.size
      refine hK.out _ _ (fun _ => hS) ?_
      clear hK K
      obtain ⟨G59, hGe59⟩ : ∃ q, D0.heap.size = q := ⟨_, rfl⟩
      obtain ⟨U59, hU59⟩ : ∃ q, D0.alloc (.cells (row .u8 (List.replicate 32 0)) 23) = q := ⟨_, rfl⟩
      have hc59 : D0.alloc (.cells #[.int .u8 0, .int .u8 0, .int .u8 0, .int .u8 0, .int .u8 0, .int .u8 0, .int .u8 0, .int .u8 0, .int .u8 0, .int .u8 0, .int .u8 0, .int .u8 0, .int .u8 0, .int .u8 0, .int .u8 0, .int .u8 0, .int .u8 0, .int .u8 0, .int .u8 0, .int .u8 0, .int .u8 0, .int .u8 0, .int .u8 0, .int .u8 0, .int .u8 0, .int .u8 0, .int .u8 0, .int .u8 0, .int .u8 0, .int .u8 0, .int .u8 0, .int .u8 0] 23) = U59 := hU59
      rw [hU59, hGe59] at hN59
      rw [hU59] at hb59 
      rw [hGe59] at hge59
      rw [hc59, hGe59]
      clear hGe59 hU59 hc59 hn59
      refine wpAnyG_two (i := 1) (j := 4) rfl rfl (by kernel_rfl) (by kernel_rfl) (by kernel_rfl) (fun K hK => ?_) (fun K hK => ?_)
      · skip
        go_simp
        have hN60 : Holds (U59.alloc (.cells (row .u8 []) 5)) U59.heap.size .u8 5 [] := Holds.new U59 .u8 5 []
        have hn60 : Below U59.heap.size U59 (U59.alloc (.cells (row .u8 []) 5)) := (Below.refl _ _).alloc (Nat.le_refl _) _
        have hb60 : Below W0.heap.size W0 (U59.alloc (.cells (row .u8 []) 5)) := hb59.trans (hn60.mono hb59.size)
        have hge60 := hb59.size
        have hN59n60 := hN59.alloc (.cells (row .u8 []) 5)
        refine hK.out _ _ (fun _ => hS) ?_
        clear hK K
        obtain ⟨G60, hGe60⟩ : ∃ q, U59.heap.size = q := ⟨_, rfl⟩
        obtain ⟨U60, hU60⟩ : ∃ q, U59.alloc (.cells (row .u8 []) 5) = q := ⟨_, rfl⟩
        have hc60 : U59.alloc (.cells #[] 5) = U60 := hU60
        rw [hU60, hGe60] at hN60
        rw [hU60] at hb60 hN59n60
        rw [hGe60] at hge60
        rw [hc60, hGe60]
        have hO60 : OwnB U60 W0.heap.size (.slice (some ⟨G60, 0, none⟩) 0 0) [] := by rw [← hU60, ← hGe60]; exact ownB_empty U59 W0.heap.size hb59.size
        have hltg60 : G60 < U60.heap.size := hN60.lt
        clear hGe60 hU60 hc60 hn60
        refine wpAnyG_two (i := 3) (j := 4) rfl rfl (by kernel_rfl) (by kernel_rfl) (by kernel_rfl) (fun K hK => ?_) (fun K hK => ?_)
        · skip
          refine wp_appA _ _ rfl W0.heap.size _ [] rfl hO60 y m cb b rfl (hyW.below hb60) (by simp; omega) hb60.size ?_
          intro v61 u61 ho61 hg61
          have hb61 : Below W0.heap.size W0 u61 := below_grown hb60 hO60 hg61 hb60.size
          rw [List.nil_append] at ho61
          have h761 := holds_grown hN59n60 hO60 hg61 (by decide)
          clear hg61
          refine hK.out _ _ (fun _ => hS) ?_
          clear hK K
          refine wpAnyG_one (i := 4) rfl (by kernel_rfl) (by kernel_rfl) (fun K hK => ?_)
          go_simp
          have hN62 : Holds (u61.alloc (.cells (row .u8 [1]) 5)) u61.heap.size .u8 5 [1] := Holds.new u61 .u8 5 [1]
          have hn62 : Below u61.heap.size u61 (u61.alloc (.cells (row .u8 [1]) 5)) := (Below.refl _ _).alloc (Nat.le_refl _) _
          have hb62 : Below W0.heap.size W0 (u61.alloc (.cells (row .u8 [1]) 5)) := hb61.trans (hn62.mono hb61.size)
          have hge62 := hb61.size
          have ho61n62 := ho61.belowM hn62
          have h761n62 := h761.alloc (.cells (row .u8 [1]) 5)
          refine hK.out _ _ (fun _ => hS) ?_
          clear hK K
          obtain ⟨G62, hGe62⟩ : ∃ q, u61.heap.size = q := ⟨_, rfl⟩
          obtain ⟨U62, hU62⟩ : ∃ q, u61.alloc (.cells (row .u8 [1]) 5) = q := ⟨_, rfl⟩
          have hc62 : u61.alloc (.cells #[.int .u8 1] 5) = U62 := hU62
          rw [hU62, hGe62] at hN62
          rw [hU62] at hb62 ho61n62 h761n62
          rw [hGe62] at hge62
          rw [hc62, hGe62]
          clear hGe62 hU62 hc62 hn62
          refine wpAnyG_one (i := 5) rfl (by kernel_rfl) (by kernel_rfl) (fun K hK => ?_)
          refine wp_appA _ _ rfl W0.heap.size _ b rfl ho61n62 (some ⟨G62, 0, none⟩) 1 1 [1] rfl (hN62.bytes rfl (by simp)) (by rw [HBL.out]; omega) hb62.size ?_
          intro v63 u63 ho63 hg63
          have hb63 : Below W0.heap.size W0 u63 := below_grown hb62 ho61n62 hg63 hb62.size
          have h763 := holds_grown h761n62 ho61n62 hg63 (by decide)
          clear hg63
          refine hK.out _ _ (fun _ => hS) ?_
          clear hK K
          refine wpAnyG_one (i := 6) rfl (by kernel_rfl) (by kernel_rfl) (fun K hK => ?_)
          go_wp2_with (go_at_call 5; refine (hH _ _ _ (hBw.trans (hb63.mono hBw.size)) (hkW.below hb63 hkW.lt) ho63).mono ?_; rintro e u64 ⟨rfl, hx64⟩)
          have hb64 : Below W0.heap.size W0 u64 := hb63.trans (hx64.mono hb63.size)
          have h764 := h763.below hx64 h763.lt
          refine hK.out _ _ (fun _ => hS) ?_
          clear hK K
          refine wpAnyG_one (i := 8) rfl (by kernel_rfl) (by kernel_rfl) (fun K hK => ?_)
          refine wp_st 23 _ _ rfl _ rfl rfl h764 (by rw [hT1l]; exact sizeKey) (by simp [hT1l]) ?_
          refine hK.out _ _ (fun h => absurd (show true = false from h) (by decide)) ?_
          clear hK K
          refine wpAnyG_done (by kernel_rfl) ?_ _
          exact ⟨_, _, _, _, _, rfl, below_setRow hb64 hge59 _, h764.setRow T1⟩
        · skip
          go_simp
          have hN65 : Holds (U60.alloc (.cells (row .u8 [1]) 5)) U60.heap.size .u8 5 [1] := Holds.new U60 .u8 5 [1]
          have hn65 : Below U60.heap.size U60 (U60.alloc (.cells (row .u8 [1]) 5)) := (Below.refl _ _).alloc (Nat.le_refl _) _
          have hb65 : Below W0.heap.size W0 (U60.alloc (.cells (row .u8 [1]) 5)) := hb60.trans (hn65.mono hb60.size)
          have hge65 := hb60.size
          have hO60n65 := hO60.belowM hn65
          have hN59n60n65 := hN59n60.alloc (.cells (row .u8 [1]) 5)
          refine hK.out _ _ (fun _ => hS) ?_
          clear hK K
          obtain ⟨G65, hGe65⟩ : ∃ q, U60.heap.size = q := ⟨_, rfl⟩
          have hlt165 := hltg60
          obtain ⟨U65, hU65⟩ : ∃ q, U60.alloc (.cells (row .u8 [1]) 5) = q := ⟨_, rfl⟩
          have hc65 : U60.alloc (.cells #[.int .u8 1] 5) = U65 := hU65
          rw [hU65, hGe65] at hN65
          rw [hU65] at hb65 hO60n65 hN59n60n65
          rw [hGe65] at hge65 hlt165
          rw [hc65, hGe65]
          have hne65 : G60 ≠ G65 := by omega
          have hltg65 : G60 < U65.heap.size := by rw [← hU65]; simp; omega
          clear hGe65 hU65 hc65 hn65
          refine wpAnyG_one (i := 3) rfl (by kernel_rfl) (by kernel_rfl) (fun K hK => ?_)
          refine wp_appA _ _ rfl W0.heap.size _ [] rfl hO60n65 y m cb b rfl (hyW.below hb65) (by simp; omega) hb65.size ?_
          intro v66 u66 ho66 hg66
          have hb66 : Below W0.heap.size W0 u66 := below_grown hb65 hO60n65 hg66 hb65.size
          rw [List.nil_append] at ho66
          have h466 := holds_grownA hN65 hg66 hne65
          have h766 := holds_grown hN59n60n65 hO60n65 hg66 (by decide)
          clear hg66
          refine hK.out _ _ (fun _ => hS) ?_
          clear hK K
          refine wpAnyG_one (i := 5) rfl (by kernel_rfl) (by kernel_rfl) (fun K hK => ?_)
          refine wp_appA _ _ rfl W0.heap.size _ b rfl ho66 (some ⟨G65, 0, none⟩) 1 1 [1] rfl (h466.bytes rfl (by simp)) (by rw [HBL.out]; omega) hb66.size ?_
          intro v67 u67 ho67 hg67
          have hb67 : Below W0.heap.size W0 u67 := below_grown hb66 ho66 hg67 hb66.size
          have h767 := holds_grown h766 ho66 hg67 (by decide)
          clear hg67
          refine hK.out _ _ (fun _ => hS) ?_
          clear hK K
          refine wpAnyG_one (i := 6) rfl (by kernel_rfl) (by kernel_rfl) (fun K hK => ?_)
          go_wp2_with (go_at_call 5; refine (hH _ _ _ (hBw.trans (hb67.mono hBw.size)) (hkW.below hb67 hkW.lt) ho67).mono ?_; rintro e u68 ⟨rfl, hx68⟩)
          have hb68 : Below W0.heap.size W0 u68 := hb67.trans (hx68.mono hb67.size)
          have h768 := h767.below hx68 h767.lt
          refine hK.out _ _ (fun _ => hS) ?_
          clear hK K
          refine wpAnyG_one (i := 8) rfl (by kernel_rfl) (by kernel_rfl) (fun K hK => ?_)
          refine wp_st 23 _ _ rfl _ rfl rfl h768 (by rw [hT1l]; exact sizeKey) (by simp [hT1l]) ?_
          refine hK.out _ _ (fun h => absurd (show true = false from h) (by decide)) ?_
          clear hK K
          refine wpAnyG_done (by kernel_rfl) ?_ _
          exact ⟨_, _, _, _, _, rfl, below_setRow hb68 hge59 _, h768.setRow T1⟩
      · skip
        go_simp
        have hN69 : Holds (U59.alloc (.cells (row .u8 [1]) 5)) U59.heap.size .u8 5 [1] := Holds.new U59 .u8 5 [1]
        have hn69 : Below U59.heap.size U59 (U59.alloc (.cells (row .u8 [1]) 5)) := (Below.refl _ _).alloc (Nat.le_refl _) _
        have hb69 : Below W0.heap.size W0 (U59.alloc (.cells (row .u8 [1]) 5)) := hb59.trans (hn69.mono hb59.size)
        have hge69 := hb59.size
        have hN59n69 := hN59.alloc (.cells (row .u8 [1]) 5)
        refine hK.out _ _ (fun _ => hS) ?_
        clear hK K
        obtain ⟨G69, hGe69⟩ : ∃ q, U59.heap.size = q := ⟨_, rfl⟩
        obtain ⟨U69, hU69⟩ : ∃ q, U59.alloc (.cells (row .u8 [1]) 5) = q := ⟨_, rfl⟩
        have hc69 : U59.alloc (.cells #[.int .u8 1] 5) = U69 := hU69
        rw [hU69, hGe69] at hN69
        rw [hU69] at hb69 hN59n69
        rw [hGe69] at hge69
        rw [hc69, hGe69]
        clear hGe69 hU69 hc69 hn69
        refine wpAnyG_one (i := 1) rfl (by kernel_rfl) (by kernel_rfl) (fun K hK => ?_)
        go_simp
        have hN70 : Holds (U69.alloc (.cells (row .u8 []) 5)) U69.heap.size .u8 5 [] := Holds.new U69 .u8 5 []
        have hn70 : Below U69.heap.size U69 (U69.alloc (.cells (row .u8 []) 5)) := (Below.refl _ _).alloc (Nat.le_refl _) _
        have hb70 : Below W0.heap.size W0 (U69.alloc (.cells (row .u8 []) 5)) := hb69.trans (hn70.mono hb69.size)
        have hge70 := hb69.size
        have hN69n70 := hN69.alloc (.cells (row .u8 []) 5)
        have hN59n69n70 := hN59n69.alloc (.cells (row .u8 []) 5)
        refine hK.out _ _ (fun _ => hS) ?_
        clear hK K
        obtain ⟨G70, hGe70⟩ : ∃ q, U69.heap.size = q := ⟨_, rfl⟩
        have hlt470 := hN69.lt
        obtain ⟨U70, hU70⟩ : ∃ q, U69.alloc (.cells (row .u8 []) 5) = q := ⟨_, rfl⟩
        have hc70 : U69.alloc (.cells #[] 5) = U70 := hU70
        rw [hU70, hGe70] at hN70
        rw [hU70] at hb70 hN69n70 hN59n69n70
        rw [hGe70] at hge70 hlt470
        rw [hc70, hGe70]
        have hO70 : OwnB U70 W0.heap.size (.slice (some ⟨G70, 0, none⟩) 0 0) [] := by rw [← hU70, ← hGe70]; exact ownB_empty U69 W0.heap.size hb69.size
        have hltg70 : G70 < U70.heap.size := hN70.lt
        have hne70 : G70 ≠ G69 := by omega
        clear hGe70 hU70 hc70 hn70
        refine wpAnyG_one (i := 3) rfl (by kernel_rfl) (by kernel_rfl) (fun K hK => ?_)
        refine wp_appA _ _ rfl W0.heap.size _ [] rfl hO70 y m cb b rfl (hyW.below hb70) (by simp; omega) hb70.size ?_
        intro v71 u71 ho71 hg71
        have hb71 : Below W0.heap.size W0 u71 := below_grown hb70 hO70 hg71 hb70.size
        rw [List.nil_append] at ho71
        have h471 := holds_grownA hN69n70 hg71 hne70
        have h771 := holds_grown hN59n69n70 hO70 hg71 (by decide)
        clear hg71
        refine hK.out _ _ (fun _ => hS) ?_
        clear hK K
        refine wpAnyG_one (i := 5) rfl (by kernel_rfl) (by kernel_rfl) (fun K hK => ?_)
        refine wp_appA _ _ rfl W0.heap.size _ b rfl ho71 (some ⟨G69, 0, none⟩) 1 1 [1] rfl (h471.bytes rfl (by simp)) (by rw [HBL.out]; omega) hb71.size ?_
        intro v72 u72 ho72 hg72
        have hb72 : Below W0.heap.size W0 u72 := below_grown hb71 ho71 hg72 hb71.size
        have h772 := holds_grown h771 ho71 hg72 (by decide)
        clear hg72
        refine hK.out _ _ (fun _ => hS) ?_
        clear hK K
        refine wpAnyG_one (i := 6) rfl (by kernel_rfl) (by kernel_rfl) (fun K hK => ?_)
        go_wp2_with (go_at_call 5; refine (hH _ _ _ (hBw.trans (hb72.mono hBw.size)) (hkW.below hb72 hkW.lt) ho72).mono ?_; rintro e u73 ⟨rfl, hx73⟩)
        have hb73 : Below W0.heap.size W0 u73 := hb72.trans (hx73.mono hb72.size)
        have h773 := h772.below hx73 h772.lt
        refine hK.out _ _ (fun _ => hS) ?_
        clear hK K
        refine wpAnyG_one (i := 8) rfl (by kernel_rfl) (by kernel_rfl) (fun K hK => ?_)
        refine wp_st 23 _ _ rfl _ rfl rfl h773 (by rw [hT1l]; exact sizeKey) (by simp [hT1l]) ?_
        refine hK.out _ _ (fun h => absurd (show true = false from h) (by decide)) ?_
        clear hK K
        refine wpAnyG_done (by kernel_rfl) ?_ _
        exact ⟨_, _, _, _, _, rfl, below_setRow hb73 hge59 _, h773.setRow T1⟩
  · rintro a W ⟨u12, u14, u15, u16, GA, rfl, hbA, hGA⟩
    have hBw2 : Below w.heap.size w W := hBw.trans (hbA.mono hBw.size)
    have hkW2 := hkW.below hbA hkW.lt
    clear hBw hkW hyW hbA hH
    obtain ⟨W0, rfl⟩ : ∃ q, q = W := ⟨_, rfl⟩
    have hBw := hBw2
    have hkW := hkW2
    have hyW := hy6.below hBw
    have hAW : Bytes W0 (some ⟨GA, 0, none⟩) 32 32 T1 := hGA.bytes hT1l.symm (by omega)
    clear hBw2 hkW2
    go_upto_region 3 with fail
    refine wp_meet (fun a W => ∃ u19 u21 u23 u24 u25 G, a = ⟨#[.agg (row .u8 k), .slice y m cb, .pointer (some ⟨w.heap.size, 0, none⟩), undef, .bool false, .pointer (some ⟨GA, 0, none⟩), .pointer (some ⟨G, 0, none⟩), undef, undef, .slice y lb cb, .slice y m cb, .slice (some ⟨w.heap.size, 0, none⟩) 32 32, u12, .slice y m cb, u14, u15, u16, .agg (row .u8 T1), .slice (some ⟨w.heap.size, 0, none⟩) 32 32, u19, .slice (some ⟨GA, 0, none⟩) 32 32, u21, .slice y m cb, u23, u24, u25, .agg (row .u8 T2), undef, undef, undef, undef, undef, undef, undef, undef, undef, undef, undef, undef, undef, undef, undef, undef, undef, undef, undef, undef, undef, undef, undef, undef, undef], []⟩ ∧ Below W0.heap.size W0 W ∧ Holds W G .u8 23 T2) ?_ ?_
    · clear hX
      refine wp_region_gate (fun _ => True) 10 (by kernel_rfl) ?_
      obtain ⟨D0, hD0⟩ : ∃ q, W0.drew = q := ⟨_, rfl⟩
      have hb0 : Below W0.heap.size W0 D0 := by rw [← hD0]; exact (Below.refl _ _).drew
      rw [hD0]
      clear hD0
      have hS : (fun _ : World => True) D0 := trivial
      refine wpAnyG_any (i := 0) (v := ?_) rfl (by kernel_rfl) (by kernel_rfl) (by kernel_rfl) (fun _ _ _ h => h) (by kernel_rfl) (fun _ => hS) (by kernel_rfl) ?_ ?_
      rotate_left
      · intro _; go_simp; try with_reducible rfl
      simp only [Act.put, List.setIfInBounds_toArray, List.set_cons_zero, List.set_cons_succ]
      refine wpAnyG_any (i := 2) (v := ?_) rfl (by kernel_rfl) (by kernel_rfl) (by kernel_rfl) (fun _ _ _ h => h) (by kernel_rfl) (fun _ => hS) (by kernel_rfl) ?_ ?_
      rotate_left
      · intro _; go_simp; try with_reducible rfl
      simp only [Act.put, List.setIfInBounds_toArray, List.set_cons_zero, List.set_cons_succ]
      refine wpAnyG_any (i := 4) (v := ?_) rfl (by kernel_rfl) (by kernel_rfl) (by kernel_rfl) (fun _ _ _ h => h) (by kernel_rfl) (fun _ => hS) (by kernel_rfl) ?_ ?_
      rotate_left
      · intro _; go_simp; try with_reducible rfl
      simp only [Act.put, List.setIfInBounds_toArray, List.set_cons_zero, List.set_cons_succ]
      refine wpAnyG_three (i := 1) (j := 6) (l := 9) rfl rfl rfl (by kernel_rfl) (by kernel_rfl) (by kernel_rfl) (by kernel_rfl) (fun K hK => ?_) (fun K hK => ?_) (fun K hK => ?_)
      · skip
        go_simp
        have hN74 : Holds (D0.alloc (.cells (row .u8 []) 5)) D0.heap.size .u8 5 [] := Holds.new D0 .u8 5 []
        have hn74 : Below D0.heap.size D0 (D0.alloc (.cells (row .u8 []) 5)) := (Below.refl _ _).alloc (Nat.le_refl _) _
        have hb74 : Below W0.heap.size W0 (D0.alloc (.cells (row .u8 []) 5)) := hb0.trans (hn74.mono hb0.size)
        have hge74 := hb0.size
        refine hK.out _ _ (fun _ => hS) ?_
        clear hK K
        obtain ⟨G74, hGe74⟩ : ∃ q, D0.heap.size = q := ⟨_, rfl⟩
        obtain ⟨U74, hU74⟩ : ∃ q, D0.alloc (.cells (row .u8 []) 5) = q := ⟨_, rfl⟩
        have hc74 : D0.alloc (.cells #[] 5) = U74 := hU74
        rw [hU74, hGe74] at hN74
        rw [hU74] at hb74 
        rw [hGe74] at hge74
        rw [hc74, hGe74]
        have hO74 : OwnB U74 W0.heap.size (.slice (some ⟨G74, 0, none⟩) 0 0) [] := by rw [← hU74, ← hGe74]; exact ownB_empty D0 W0.heap.size hb0.size
        have hltg74 : G74 < U74.heap.size := hN74.lt
        clear hGe74 hU74 hc74 hn74
        refine wpAnyG_three (i := 3) (j := 6) (l := 9) rfl rfl rfl (by kernel_rfl) (by kernel_rfl) (by kernel_rfl) (by kernel_rfl) (fun K hK => ?_) (fun K hK => ?_) (fun K hK => ?_)
        · skip
          refine wp_appA _ _ rfl W0.heap.size _ [] rfl hO74 (some ⟨GA, 0, none⟩) 32 32 T1 rfl (hAW.below hb74) (by simp) hb74.size ?_
          intro v75 u75 ho75 hg75
          have hb75 : Below W0.heap.size W0 u75 := below_grown hb74 hO74 hg75 hb74.size
          rw [List.nil_append] at ho75
          clear hg75
          refine hK.out _ _ (fun _ => hS) ?_
          clear hK K
          refine wpAnyG_three (i := 5) (j := 6) (l := 9) rfl rfl rfl (by kernel_rfl) (by kernel_rfl) (by kernel_rfl) (by kernel_rfl) (fun K hK => ?_) (fun K hK => ?_) (fun K hK => ?_)
          · skip
            refine wp_appA _ _ rfl W0.heap.size _ T1 rfl ho75 y m cb b rfl (hyW.below hb75) (by rw [hT1l]; omega) hb75.size ?_
            intro v76 u76 ho76 hg76
            have hb76 : Below W0.heap.size W0 u76 := below_grown hb75 ho75 hg76 hb75.size
            clear hg76
            refine hK.out _ _ (fun _ => hS) ?_
            clear hK K
            refine wpAnyG_two (i := 6) (j := 9) rfl rfl (by kernel_rfl) (by kernel_rfl) (by kernel_rfl) (fun K hK => ?_) (fun K hK => ?_)
            · skip
              go_simp
              have hN77 : Holds (u76.alloc (.cells (row .u8 [2]) 5)) u76.heap.size .u8 5 [2] := Holds.new u76 .u8 5 [2]
              have hn77 : Below u76.heap.size u76 (u76.alloc (.cells (row .u8 [2]) 5)) := (Below.refl _ _).alloc (Nat.le_refl _) _
              have hb77 : Below W0.heap.size W0 (u76.alloc (.cells (row .u8 [2]) 5)) := hb76.trans (hn77.mono hb76.size)
              have hge77 := hb76.size
              have ho76n77 := ho76.belowM hn77
              refine hK.out _ _ (fun _ => hS) ?_
              clear hK K
              obtain ⟨G77, hGe77⟩ : ∃ q, u76.heap.size = q := ⟨_, rfl⟩
              obtain ⟨U77, hU77⟩ : ∃ q, u76.alloc (.cells (row .u8 [2]) 5) = q := ⟨_, rfl⟩
              have hc77 : u76.alloc (.cells #[.int .u8 2] 5) = U77 := hU77
              rw [hU77, hGe77] at hN77
              rw [hU77] at hb77 ho76n77
              rw [hGe77] at hge77
              rw [hc77, hGe77]
              clear hGe77 hU77 hc77 hn77
              refine wpAnyG_two (i := 7) (j := 9) rfl rfl (by kernel_rfl) (by kernel_rfl) (by kernel_rfl) (fun K hK => ?_) (fun K hK => ?_)
              · skip
                refine wp_appA _ _ rfl W0.heap.size _ (T1 ++ b) rfl ho76n77 (some ⟨G77, 0, none⟩) 1 1 [2] rfl (hN77.bytes rfl (by simp)) (by rw [List.length_append, HBL.out, hT1l]; omega) hb77.size ?_
                intro v78 u78 ho78 hg78
                have hb78 : Below W0.heap.size W0 u78 := below_grown hb77 ho76n77 hg78 hb77.size
                rw [List.append_assoc] at ho78
                clear hg78
                refine hK.out _ _ (fun _ => hS) ?_
                clear hK K
                refine wpAnyG_two (i := 8) (j := 9) rfl rfl (by kernel_rfl) (by kernel_rfl) (by kernel_rfl) (fun K hK => ?_) (fun K hK => ?_)
                · skip
                  go_wp2_with (go_at_call 5; refine (hI _ _ _ (hBw.trans (hb78.mono hBw.size)) (hkW.below hb78 hkW.lt) ho78).mono ?_; rintro e u79 ⟨rfl, hx79⟩)
                  have hb79 : Below W0.heap.size W0 u79 := hb78.trans (hx79.mono hb78.size)
                  refine hK.out _ _ (fun _ => hS) ?_
                  clear hK K
                  refine wpAnyG_one (i := 9) rfl (by kernel_rfl) (by kernel_rfl) (fun K hK => ?_)
                  go_simp
                  have hN80 : Holds (u79.alloc (.cells (row .u8 (List.replicate 32 0)) 23)) u79.heap.size .u8 23 (List.replicate 32 0) := Holds.new u79 .u8 23 (List.replicate 32 0)
                  have hn80 : Below u79.heap.size u79 (u79.alloc (.cells (row .u8 (List.replicate 32 0)) 23)) := (Below.refl _ _).alloc (Nat.le_refl _) _
                  have hb80 : Below W0.heap.size W0 (u79.alloc (.cells (row .u8 (List.replicate 32 0)) 23)) := hb79.trans (hn80.mono hb79.size)
                  have hge80 := hb79.size
                  refine hK.out _ _ (fun _ => hS) ?_
                  clear hK K
                  obtain ⟨G80, hGe80⟩ : ∃ q, u79.heap.size = q := ⟨_, rfl⟩
                  obtain ⟨U80, hU80⟩ : ∃ q, u79.alloc (.cells (row .u8 (List.replicate 32 0)) 23) = q := ⟨_, rfl⟩
                  have hc80 : u79.alloc (.cells #[.int .u8 0, .int .u8 0, .int .u8 0, .int .u8 0, .int .u8 0, .int .u8 0, .int .u8 0, .int .u8 0, .int .u8 0, .int .u8 0, .int .u8 0, .int .u8 0, .int .u8 0, .int .u8 0, .int .u8 0, .int .u8 0, .int .u8 0, .int .u8 0, .int .u8 0, .int .u8 0, .int .u8 0, .int .u8 0, .int .u8 0, .int .u8 0, .int .u8 0, .int .u8 0, .int .u8 0, .int .u8 0, .int .u8 0, .int .u8 0, .int .u8 0, .int .u8 0] 23) = U80 := hU80
                  rw [hU80, hGe80] at hN80
                  rw [hU80] at hb80 
                  rw [hGe80] at hge80
                  rw [hc80, hGe80]
                  clear hGe80 hU80 hc80 hn80
                  refine wpAnyG_one (i := 10) rfl (by kernel_rfl) (by kernel_rfl) (fun K hK => ?_)
                  refine wp_st 23 _ _ rfl _ rfl rfl hN80 (by rw [hT2l]; exact sizeKey) (by simp [hT2l]) ?_
                  refine hK.out _ _ (fun h => absurd (show true = false from h) (by decide)) ?_
                  clear hK K
                  refine wpAnyG_done (by kernel_rfl) ?_ _
                  exact ⟨_, _, _, _, _, _, rfl, below_setRow hb80 hge80 _, hN80.setRow T2⟩
                · skip
                  go_simp
                  have hN81 : Holds (u78.alloc (.cells (row .u8 (List.replicate 32 0)) 23)) u78.heap.size .u8 23 (List.replicate 32 0) := Holds.new u78 .u8 23 (List.replicate 32 0)
                  have hn81 : Below u78.heap.size u78 (u78.alloc (.cells (row .u8 (List.replicate 32 0)) 23)) := (Below.refl _ _).alloc (Nat.le_refl _) _
                  have hb81 : Below W0.heap.size W0 (u78.alloc (.cells (row .u8 (List.replicate 32 0)) 23)) := hb78.trans (hn81.mono hb78.size)
                  have hge81 := hb78.size
                  have ho78n81 := ho78.belowM hn81
                  refine hK.out _ _ (fun _ => hS) ?_
                  clear hK K
                  obtain ⟨G81, hGe81⟩ : ∃ q, u78.heap.size = q := ⟨_, rfl⟩
                  obtain ⟨U81, hU81⟩ : ∃ q, u78.alloc (.cells (row .u8 (List.replicate 32 0)) 23) = q := ⟨_, rfl⟩
                  have hc81 : u78.alloc (.cells #[.int .u8 0, .int .u8 0, .int .u8 0, .int .u8 0, .int .u8 0, .int .u8 0, .int .u8 0, .int .u8 0, .int .u8 0, .int .u8 0, .int .u8 0, .int .u8 0, .int .u8 0, .int .u8 0, .int .u8 0, .int .u8 0, .int .u8 0, .int .u8 0, .int .u8 0, .int .u8 0, .int .u8 0, .int .u8 0, .int .u8 0, .int .u8 0, .int .u8 0, .int .u8 0, .int .u8 0, .int .u8 0, .int .u8 0, .int .u8 0, .int .u8 0, .int .u8 0] 23) = U81 := hU81
                  rw [hU81, hGe81] at hN81
                  rw [hU81] at hb81 ho78n81
                  rw [hGe81] at hge81
                  rw [hc81, hGe81]
                  clear hGe81 hU81 hc81 hn81
                  refine wpAnyG_one (i := 8) rfl (by kernel_rfl) (by kernel_rfl) (fun K hK => ?_)
                  go_wp2_with (go_at_call 5; refine (hI _ _ _ (hBw.trans (hb81.mono hBw.size)) (hkW.below hb81 hkW.lt) ho78n81).mono ?_; rintro e u82 ⟨rfl, hx82⟩)
                  have hb82 : Below W0.heap.size W0 u82 := hb81.trans (hx82.mono hb81.size)
                  have h782 := hN81.below hx82 hN81.lt
                  refine hK.out _ _ (fun _ => hS) ?_
                  clear hK K
                  refine wpAnyG_one (i := 10) rfl (by kernel_rfl) (by kernel_rfl) (fun K hK => ?_)
                  refine wp_st 23 _ _ rfl _ rfl rfl h782 (by rw [hT2l]; exact sizeKey) (by simp [hT2l]) ?_
                  refine hK.out _ _ (fun h => absurd (show true = false from h) (by decide)) ?_
                  clear hK K
                  refine wpAnyG_done (by kernel_rfl) ?_ _
                  exact ⟨_, _, _, _, _, _, rfl, below_setRow hb82 hge81 _, h782.setRow T2⟩
              · skip
                go_simp
                have hN83 : Holds (U77.alloc (.cells (row .u8 (List.replicate 32 0)) 23)) U77.heap.size .u8 23 (List.replicate 32 0) := Holds.new U77 .u8 23 (List.replicate 32 0)
                have hn83 : Below U77.heap.size U77 (U77.alloc (.cells (row .u8 (List.replicate 32 0)) 23)) := (Below.refl _ _).alloc (Nat.le_refl _) _
                have hb83 : Below W0.heap.size W0 (U77.alloc (.cells (row .u8 (List.replicate 32 0)) 23)) := hb77.trans (hn83.mono hb77.size)
                have hge83 := hb77.size
                have ho76n77n83 := ho76n77.belowM hn83
                have hN77n83 := hN77.alloc (.cells (row .u8 (List.replicate 32 0)) 23)
                refine hK.out _ _ (fun _ => hS) ?_
                clear hK K
                obtain ⟨G83, hGe83⟩ : ∃ q, U77.heap.size = q := ⟨_, rfl⟩
                have hlt483 := hN77.lt
                obtain ⟨U83, hU83⟩ : ∃ q, U77.alloc (.cells (row .u8 (List.replicate 32 0)) 23) = q := ⟨_, rfl⟩
                have hc83 : U77.alloc (.cells #[.int .u8 0, .int .u8 0, .int .u8 0, .int .u8 0, .int .u8 0, .int .u8 0, .int .u8 0, .int .u8 0, .int .u8 0, .int .u8 0, .int .u8 0, .int .u8 0, .int .u8 0, .int .u8 0, .int .u8 0, .int .u8 0, .int .u8 0, .int .u8 0, .int .u8 0, .int .u8 0, .int .u8 0, .int .u8 0, .int .u8 0, .int .u8 0, .int .u8 0, .int .u8 0, .int .u8 0, .int .u8 0, .int .u8 0, .int .u8 0, .int .u8 0, .int .u8 0] 23) = U83 := hU83
                rw [hU83, hGe83] at hN83
                rw [hU83] at hb83 ho76n77n83 hN77n83
                rw [hGe83] at hge83 hlt483
                rw [hc83, hGe83]
                clear hGe83 hU83 hc83 hn83
                refine wpAnyG_one (i := 7) rfl (by kernel_rfl) (by kernel_rfl) (fun K hK => ?_)
                refine wp_appA _ _ rfl W0.heap.size _ (T1 ++ b) rfl ho76n77n83 (some ⟨G77, 0, none⟩) 1 1 [2] rfl (hN77n83.bytes rfl (by simp)) (by rw [List.length_append, HBL.out, hT1l]; omega) hb83.size ?_
                intro v84 u84 ho84 hg84
                have hb84 : Below W0.heap.size W0 u84 := below_grown hb83 ho76n77n83 hg84 hb83.size
                rw [List.append_assoc] at ho84
                have h784 := holds_grown hN83 ho76n77n83 hg84 (by decide)
                clear hg84
                refine hK.out _ _ (fun _ => hS) ?_
                clear hK K
                refine wpAnyG_one (i := 8) rfl (by kernel_rfl) (by kernel_rfl) (fun K hK => ?_)
                go_wp2_with (go_at_call 5; refine (hI _ _ _ (hBw.trans (hb84.mono hBw.size)) (hkW.below hb84 hkW.lt) ho84).mono ?_; rintro e u85 ⟨rfl, hx85⟩)
                have hb85 : Below W0.heap.size W0 u85 := hb84.trans (hx85.mono hb84.size)
                have h785 := h784.below hx85 h784.lt
                refine hK.out _ _ (fun _ => hS) ?_
                clear hK K
                refine wpAnyG_one (i := 10) rfl (by kernel_rfl) (by kernel_rfl) (fun K hK => ?_)
                refine wp_st 23 _ _ rfl _ rfl rfl h785 (by rw [hT2l]; exact sizeKey) (by simp [hT2l]) ?_
                refine hK.out _ _ (fun h => absurd (show true = false from h) (by decide)) ?_
                clear hK K
                refine wpAnyG_done (by kernel_rfl) ?_ _
                exact ⟨_, _, _, _, _, _, rfl, below_setRow hb85 hge83 _, h785.setRow T2⟩
            · skip
              go_simp
              have hN86 : Holds (u76.alloc (.cells (row .u8 (List.replicate 32 0)) 23)) u76.heap.size .u8 23 (List.replicate 32 0) := Holds.new u76 .u8 23 (List.replicate 32 0)
              have hn86 : Below u76.heap.size u76 (u76.alloc (.cells (row .u8 (List.replicate 32 0)) 23)) := (Below.refl _ _).alloc (Nat.le_refl _) _
              have hb86 : Below W0.heap.size W0 (u76.alloc (.cells (row .u8 (List.replicate 32 0)) 23)) := hb76.trans (hn86.mono hb76.size)
              have hge86 := hb76.size
              have ho76n86 := ho76.belowM hn86
              refine hK.out _ _ (fun _ => hS) ?_
              clear hK K
              obtain ⟨G86, hGe86⟩ : ∃ q, u76.heap.size = q := ⟨_, rfl⟩
              obtain ⟨U86, hU86⟩ : ∃ q, u76.alloc (.cells (row .u8 (List.replicate 32 0)) 23) = q := ⟨_, rfl⟩
              have hc86 : u76.alloc (.cells #[.int .u8 0, .int .u8 0, .int .u8 0, .int .u8 0, .int .u8 0, .int .u8 0, .int .u8 0, .int .u8 0, .int .u8 0, .int .u8 0, .int .u8 0, .int .u8 0, .int .u8 0, .int .u8 0, .int .u8 0, .int .u8 0, .int .u8 0, .int .u8 0, .int .u8 0, .int .u8 0, .int .u8 0, .int .u8 0, .int .u8 0, .int .u8 0, .int .u8 0, .int .u8 0, .int .u8 0, .int .u8 0, .int .u8 0, .int .u8 0, .int .u8 0, .int .u8 0] 23) = U86 := hU86
              rw [hU86, hGe86] at hN86
              rw [hU86] at hb86 ho76n86
              rw [hGe86] at hge86
              rw [hc86, hGe86]
              clear hGe86 hU86 hc86 hn86
              refine wpAnyG_one (i := 6) rfl (by kernel_rfl) (by kernel_rfl) (fun K hK => ?_)
              go_simp
              have hN87 : Holds (U86.alloc (.cells (row .u8 [2]) 5)) U86.heap.size .u8 5 [2] := Holds.new U86 .u8 5 [2]
              have hn87 : Below U86.heap.size U86 (U86.alloc (.cells (row .u8 [2]) 5)) := (Below.refl _ _).alloc (Nat.le_refl _) _
              have hb87 : Below W0.heap.size W0 (U86.alloc (.cells (row .u8 [2]) 5)) := hb86.trans (hn87.mono hb86.size)
              have hge87 := hb86.size
              have ho76n86n87 := ho76n86.belowM hn87
              have hN86n87 := hN86.alloc (.cells (row .u8 [2]) 5)
              refine hK.out _ _ (fun _ => hS) ?_
              clear hK K
              obtain ⟨G87, hGe87⟩ : ∃ q, U86.heap.size = q := ⟨_, rfl⟩
              obtain ⟨U87, hU87⟩ : ∃ q, U86.alloc (.cells (row .u8 [2]) 5) = q := ⟨_, rfl⟩
              have hc87 : U86.alloc (.cells #[.int .u8 2] 5) = U87 := hU87
              rw [hU87, hGe87] at hN87
              rw [hU87] at hb87 ho76n86n87 hN86n87
              rw [hGe87] at hge87
              rw [hc87, hGe87]
              clear hGe87 hU87 hc87 hn87
              refine wpAnyG_one (i := 7) rfl (by kernel_rfl) (by kernel_rfl) (fun K hK => ?_)
              refine wp_appA _ _ rfl W0.heap.size _ (T1 ++ b) rfl ho76n86n87 (some ⟨G87, 0, none⟩) 1 1 [2] rfl (hN87.bytes rfl (by simp)) (by rw [List.length_append, HBL.out, hT1l]; omega) hb87.size ?_
              intro v88 u88 ho88 hg88
              have hb88 : Below W0.heap.size W0 u88 := below_grown hb87 ho76n86n87 hg88 hb87.size
              rw [List.append_assoc] at ho88
              have h788 := holds_grown hN86n87 ho76n86n87 hg88 (by decide)
              clear hg88
              refine hK.out _ _ (fun _ => hS) ?_
              clear hK K
              refine wpAnyG_one (i := 8) rfl (by kernel_rfl) (by kernel_rfl) (fun K hK => ?_)
              go_wp2_with (go_at_call 5; refine (hI _ _ _ (hBw.trans (hb88.mono hBw.size)) (hkW.below hb88 hkW.lt) ho88).mono ?_; rintro e u89 ⟨rfl, hx89⟩)
              have hb89 : Below W0.heap.size W0 u89 := hb88.trans (hx89.mono hb88.size)
              have h789 := h788.below hx89 h788.lt
              refine hK.out _ _ (fun _ => hS) ?_
              clear hK K
              refine wpAnyG_one (i := 10) rfl (by kernel_rfl) (by kernel_rfl) (fun K hK => ?_)
              refine wp_st 23 _ _ rfl _ rfl rfl h789 (by rw [hT2l]; exact sizeKey) (by simp [hT2l]) ?_
              refine hK.out _ _ (fun h => absurd (show true = false from h) (by decide)) ?_
              clear hK K
              refine wpAnyG_done (by kernel_rfl) ?_ _
              exact ⟨_, _, _, _, _, _, rfl, below_setRow hb89 hge86 _, h789.setRow T2⟩
          · skip
            go_simp
            have hN90 : Holds (u75.alloc (.cells (row .u8 [2]) 5)) u75.heap.size .u8 5 [2] := Holds.new u75 .u8 5 [2]
            have hn90 : Below u75.heap.size u75 (u75.alloc (.cells (row .u8 [2]) 5)) := (Below.refl _ _).alloc (Nat.le_refl _) _
            have hb90 : Below W0.heap.size W0 (u75.alloc (.cells (row .u8 [2]) 5)) := hb75.trans (hn90.mono hb75.size)
            have hge90 := hb75.size
            have ho75n90 := ho75.belowM hn90
            refine hK.out _ _ (fun _ => hS) ?_
            clear hK K
            obtain ⟨G90, hGe90⟩ : ∃ q, u75.heap.size = q := ⟨_, rfl⟩
            obtain ⟨U90, hU90⟩ : ∃ q, u75.alloc (.cells (row .u8 [2]) 5) = q := ⟨_, rfl⟩
            have hc90 : u75.alloc (.cells #[.int .u8 2] 5) = U90 := hU90
            rw [hU90, hGe90] at hN90
            rw [hU90] at hb90 ho75n90
            rw [hGe90] at hge90
            rw [hc90, hGe90]
            clear hGe90 hU90 hc90 hn90
            refine wpAnyG_two (i := 5) (j := 9) rfl rfl (by kernel_rfl) (by kernel_rfl) (by kernel_rfl) (fun K hK => ?_) (fun K hK => ?_)
            · skip
              refine wp_appA _ _ rfl W0.heap.size _ T1 rfl ho75n90 y m cb b rfl (hyW.below hb90) (by rw [hT1l]; omega) hb90.size ?_
              intro v91 u91 ho91 hg91
              have hb91 : Below W0.heap.size W0 u91 := below_grown hb90 ho75n90 hg91 hb90.size
              have h491 := holds_grownL hN90 ho75n90 hg91 (by rw [hT1l]; decide)
              clear hg91
              refine hK.out _ _ (fun _ => hS) ?_
              clear hK K
              refine wpAnyG_two (i := 7) (j := 9) rfl rfl (by kernel_rfl) (by kernel_rfl) (by kernel_rfl) (fun K hK => ?_) (fun K hK => ?_)
              · skip
                refine wp_appA _ _ rfl W0.heap.size _ (T1 ++ b) rfl ho91 (some ⟨G90, 0, none⟩) 1 1 [2] rfl (h491.bytes rfl (by simp)) (by rw [List.length_append, HBL.out, hT1l]; omega) hb91.size ?_
                intro v92 u92 ho92 hg92
                have hb92 : Below W0.heap.size W0 u92 := below_grown hb91 ho91 hg92 hb91.size
                rw [List.append_assoc] at ho92
                clear hg92
                refine hK.out _ _ (fun _ => hS) ?_
                clear hK K
                refine wpAnyG_two (i := 8) (j := 9) rfl rfl (by kernel_rfl) (by kernel_rfl) (by kernel_rfl) (fun K hK => ?_) (fun K hK => ?_)
                · skip
                  go_wp2_with (go_at_call 5; refine (hI _ _ _ (hBw.trans (hb92.mono hBw.size)) (hkW.below hb92 hkW.lt) ho92).mono ?_; rintro e u93 ⟨rfl, hx93⟩)
                  have hb93 : Below W0.heap.size W0 u93 := hb92.trans (hx93.mono hb92.size)
                  refine hK.out _ _ (fun _ => hS) ?_
                  clear hK K
                  refine wpAnyG_one (i := 9) rfl (by kernel_rfl) (by kernel_rfl) (fun K hK => ?_)
                  go_simp
                  have hN94 : Holds (u93.alloc (.cells (row .u8 (List.replicate 32 0)) 23)) u93.heap.size .u8 23 (List.replicate 32 0) := Holds.new u93 .u8 23 (List.replicate 32 0)
                  have hn94 : Below u93.heap.size u93 (u93.alloc (.cells (row .u8 (List.replicate 32 0)) 23)) := (Below.refl _ _).alloc (Nat.le_refl _) _
                  have hb94 : Below W0.heap.size W0 (u93.alloc (.cells (row .u8 (List.replicate 32 0)) 23)) := hb93.trans (hn94.mono hb93.size)
                  have hge94 := hb93.size
                  refine hK.out _ _ (fun _ => hS) ?_
                  clear hK K
                  obtain ⟨G94, hGe94⟩ : ∃ q, u93.heap.size = q := ⟨_, rfl⟩
                  obtain ⟨U94, hU94⟩ : ∃ q, u93.alloc (.cells (row .u8 (List.replicate 32 0)) 23) = q := ⟨_, rfl⟩
                  have hc94 : u93.alloc (.cells #[.int .u8 0, .int .u8 0, .int .u8 0, .int .u8 0, .int .u8 0, .int .u8 0, .int .u8 0, .int .u8 0, .int .u8 0, .int .u8 0, .int .u8 0, .int .u8 0, .int .u8 0, .int .u8 0, .int .u8 0, .int .u8 0, .int .u8 0, .int .u8 0, .int .u8 0, .int .u8 0, .int .u8 0, .int .u8 0, .int .u8 0, .int .u8 0, .int .u8 0, .int .u8 0, .int .u8 0, .int .u8 0, .int .u8 0, .int .u8 0, .int .u8 0, .int .u8 0] 23) = U94 := hU94
                  rw [hU94, hGe94] at hN94
                  rw [hU94] at hb94 
                  rw [hGe94] at hge94
                  rw [hc94, hGe94]
                  clear hGe94 hU94 hc94 hn94
                  refine wpAnyG_one (i := 10) rfl (by kernel_rfl) (by kernel_rfl) (fun K hK => ?_)
                  refine wp_st 23 _ _ rfl _ rfl rfl hN94 (by rw [hT2l]; exact sizeKey) (by simp [hT2l]) ?_
                  refine hK.out _ _ (fun h => absurd (show true = false from h) (by decide)) ?_
                  clear hK K
                  refine wpAnyG_done (by kernel_rfl) ?_ _
                  exact ⟨_, _, _, _, _, _, rfl, below_setRow hb94 hge94 _, hN94.setRow T2⟩
                · skip
                  go_simp
                  have hN95 : Holds (u92.alloc (.cells (row .u8 (List.replicate 32 0)) 23)) u92.heap.size .u8 23 (List.replicate 32 0) := Holds.new u92 .u8 23 (List.replicate 32 0)
                  have hn95 : Below u92.heap.size u92 (u92.alloc (.cells (row .u8 (List.replicate 32 0)) 23)) := (Below.refl _ _).alloc (Nat.le_refl _) _
                  have hb95 : Below W0.heap.size W0 (u92.alloc (.cells (row .u8 (List.replicate 32 0)) 23)) := hb92.trans (hn95.mono hb92.size)
                  have hge95 := hb92.size
                  have ho92n95 := ho92.belowM hn95
                  refine hK.out _ _ (fun _ => hS) ?_
                  clear hK K
                  obtain ⟨G95, hGe95⟩ : ∃ q, u92.heap.size = q := ⟨_, rfl⟩
                  obtain ⟨U95, hU95⟩ : ∃ q, u92.alloc (.cells (row .u8 (List.replicate 32 0)) 23) = q := ⟨_, rfl⟩
                  have hc95 : u92.alloc (.cells #[.int .u8 0, .int .u8 0, .int .u8 0, .int .u8 0, .int .u8 0, .int .u8 0, .int .u8 0, .int .u8 0, .int .u8 0, .int .u8 0, .int .u8 0, .int .u8 0, .int .u8 0, .int .u8 0, .int .u8 0, .int .u8 0, .int .u8 0, .int .u8 0, .int .u8 0, .int .u8 0, .int .u8 0, .int .u8 0, .int .u8 0, .int .u8 0, .int .u8 0, .int .u8 0, .int .u8 0, .int .u8 0, .int .u8 0, .int .u8 0, .int .u8 0, .int .u8 0] 23) = U95 := hU95
                  rw [hU95, hGe95] at hN95
                  rw [hU95] at hb95 ho92n95
                  rw [hGe95] at hge95
                  rw [hc95, hGe95]
                  clear hGe95 hU95 hc95 hn95
                  refine wpAnyG_one (i := 8) rfl (by kernel_rfl) (by kernel_rfl) (fun K hK => ?_)
                  go_wp2_with (go_at_call 5; refine (hI _ _ _ (hBw.trans (hb95.mono hBw.size)) (hkW.below hb95 hkW.lt) ho92n95).mono ?_; rintro e u96 ⟨rfl, hx96⟩)
                  have hb96 : Below W0.heap.size W0 u96 := hb95.trans (hx96.mono hb95.size)
                  have h796 := hN95.below hx96 hN95.lt
                  refine hK.out _ _ (fun _ => hS) ?_
                  clear hK K
                  refine wpAnyG_one (i := 10) rfl (by kernel_rfl) (by kernel_rfl) (fun K hK => ?_)
                  refine wp_st 23 _ _ rfl _ rfl rfl h796 (by rw [hT2l]; exact sizeKey) (by simp [hT2l]) ?_
                  refine hK.out _ _ (fun h => absurd (show true = false from h) (by decide)) ?_
                  clear hK K
                  refine wpAnyG_done (by kernel_rfl) ?_ _
                  exact ⟨_, _, _, _, _, _, rfl, below_setRow hb96 hge95 _, h796.setRow T2⟩
              · skip
                go_simp
                have hN97 : Holds (u91.alloc (.cells (row .u8 (List.replicate 32 0)) 23)) u91.heap.size .u8 23 (List.replicate 32 0) := Holds.new u91 .u8 23 (List.replicate 32 0)
                have hn97 : Below u91.heap.size u91 (u91.alloc (.cells (row .u8 (List.replicate 32 0)) 23)) := (Below.refl _ _).alloc (Nat.le_refl _) _
                have hb97 : Below W0.heap.size W0 (u91.alloc (.cells (row .u8 (List.replicate 32 0)) 23)) := hb91.trans (hn97.mono hb91.size)
                have hge97 := hb91.size
                have ho91n97 := ho91.belowM hn97
                have h491n97 := h491.alloc (.cells (row .u8 (List.replicate 32 0)) 23)
                refine hK.out _ _ (fun _ => hS) ?_
                clear hK K
                obtain ⟨G97, hGe97⟩ : ∃ q, u91.heap.size = q := ⟨_, rfl⟩
                have hlt497 := h491.lt
                obtain ⟨U97, hU97⟩ : ∃ q, u91.alloc (.cells (row .u8 (List.replicate 32 0)) 23) = q := ⟨_, rfl⟩
                have hc97 : u91.alloc (.cells #[.int .u8 0, .int .u8 0, .int .u8 0, .int .u8 0, .int .u8 0, .int .u8 0, .int .u8 0, .int .u8 0, .int .u8 0, .int .u8 0, .int .u8 0, .int .u8 0, .int .u8 0, .int .u8 0, .int .u8 0, .int .u8 0, .int .u8 0, .int .u8 0, .int .u8 0, .int .u8 0, .int .u8 0, .int .u8 0, .int .u8 0, .int .u8 0, .int .u8 0, .int .u8 0, .int .u8 0, .int .u8 0, .int .u8 0, .int .u8 0, .int .u8 0, .int .u8 0] 23) = U97 := hU97
                rw [hU97, hGe97] at hN97
                rw [hU97] at hb97 ho91n97 h491n97
                rw [hGe97] at hge97 hlt497
                rw [hc97, hGe97]
                clear hGe97 hU97 hc97 hn97
                refine wpAnyG_one (i := 7) rfl (by kernel_rfl) (by kernel_rfl) (fun K hK => ?_)
                refine wp_appA _ _ rfl W0.heap.size _ (T1 ++ b) rfl ho91n97 (some ⟨G90, 0, none⟩) 1 1 [2] rfl (h491n97.bytes rfl (by simp)) (by rw [List.length_append, HBL.out, hT1l]; omega) hb97.size ?_
                intro v98 u98 ho98 hg98
                have hb98 : Below W0.heap.size W0 u98 := below_grown hb97 ho91n97 hg98 hb97.size
                rw [List.append_assoc] at ho98
                have h798 := holds_grown hN97 ho91n97 hg98 (by decide)
                clear hg98
                refine hK.out _ _ (fun _ => hS) ?_
                clear hK K
                refine wpAnyG_one (i := 8) rfl (by kernel_rfl) (by kernel_rfl) (fun K hK => ?_)
                go_wp2_with (go_at_call 5; refine (hI _ _ _ (hBw.trans (hb98.mono hBw.size)) (hkW.below hb98 hkW.lt) ho98).mono ?_; rintro e u99 ⟨rfl, hx99⟩)
                have hb99 : Below W0.heap.size W0 u99 := hb98.trans (hx99.mono hb98.size)
                have h799 := h798.below hx99 h798.lt
                refine hK.out _ _ (fun _ => hS) ?_
                clear hK K
                refine wpAnyG_one (i := 10) rfl (by kernel_rfl) (by kernel_rfl) (fun K hK => ?_)
                refine wp_st 23 _ _ rfl _ rfl rfl h799 (by rw [hT2l]; exact sizeKey) (by simp [hT2l]) ?_
                refine hK.out _ _ (fun h => absurd (show true = false from h) (by decide)) ?_
                clear hK K
                refine wpAnyG_done (by kernel_rfl) ?_ _
                exact ⟨_, _, _, _, _, _, rfl, below_setRow hb99 hge97 _, h799.setRow T2⟩
            · skip
              go_simp
              have hN100 : Holds (U90.alloc (.cells (row .u8 (List.replicate 32 0)) 23)) U90.heap.size .u8 23 (List.replicate 32 0) := Holds.new U90 .u8 23 (List.replicate 32 0)
              have hn100 : Below U90.heap.size U90 (U90.alloc (.cells (row .u8 (List.replicate 32 0)) 23)) := (Below.refl _ _).alloc (Nat.le_refl _) _
              have hb100 : Below W0.heap.size W0 (U90.alloc (.cells (row .u8 (List.replicate 32 0)) 23)) := hb90.trans (hn100.mono hb90.size)
              have hge100 := hb90.size
              have ho75n90n100 := ho75n90.belowM hn100
              have hN90n100 := hN90.alloc (.cells (row .u8 (List.replicate 32 0)) 23)
              refine hK.out _ _ (fun _ => hS) ?_
              clear hK K
              obtain ⟨G100, hGe100⟩ : ∃ q, U90.heap.size = q := ⟨_, rfl⟩
              have hlt4100 := hN90.lt
              obtain ⟨U100, hU100⟩ : ∃ q, U90.alloc (.cells (row .u8 (List.replicate 32 0)) 23) = q := ⟨_, rfl⟩
              have hc100 : U90.alloc (.cells #[.int .u8 0, .int .u8 0, .int .u8 0, .int .u8 0, .int .u8 0, .int .u8 0, .int .u8 0, .int .u8 0, .int .u8 0, .int .u8 0, .int .u8 0, .int .u8 0, .int .u8 0, .int .u8 0, .int .u8 0, .int .u8 0, .int .u8 0, .int .u8 0, .int .u8 0, .int .u8 0, .int .u8 0, .int .u8 0, .int .u8 0, .int .u8 0, .int .u8 0, .int .u8 0, .int .u8 0, .int .u8 0, .int .u8 0, .int .u8 0, .int .u8 0, .int .u8 0] 23) = U100 := hU100
              rw [hU100, hGe100] at hN100
              rw [hU100] at hb100 ho75n90n100 hN90n100
              rw [hGe100] at hge100 hlt4100
              rw [hc100, hGe100]
              clear hGe100 hU100 hc100 hn100
              refine wpAnyG_one (i := 5) rfl (by kernel_rfl) (by kernel_rfl) (fun K hK => ?_)
              refine wp_appA _ _ rfl W0.heap.size _ T1 rfl ho75n90n100 y m cb b rfl (hyW.below hb100) (by rw [hT1l]; omega) hb100.size ?_
              intro v101 u101 ho101 hg101
              have hb101 : Below W0.heap.size W0 u101 := below_grown hb100 ho75n90n100 hg101 hb100.size
              have h4101 := holds_grownL hN90n100 ho75n90n100 hg101 (by rw [hT1l]; decide)
              have h7101 := holds_grown hN100 ho75n90n100 hg101 (by decide)
              clear hg101
              refine hK.out _ _ (fun _ => hS) ?_
              clear hK K
              refine wpAnyG_one (i := 7) rfl (by kernel_rfl) (by kernel_rfl) (fun K hK => ?_)
              refine wp_appA _ _ rfl W0.heap.size _ (T1 ++ b) rfl ho101 (some ⟨G90, 0, none⟩) 1 1 [2] rfl (h4101.bytes rfl (by simp)) (by rw [List.length_append, HBL.out, hT1l]; omega) hb101.size ?_
              intro v102 u102 ho102 hg102
              have hb102 : Below W0.heap.size W0 u102 := below_grown hb101 ho101 hg102 hb101.size
              rw [List.append_assoc] at ho102
              have h7102 := holds_grown h7101 ho101 hg102 (by decide)
              clear hg102
              refine hK.out _ _ (fun _ => hS) ?_
              clear hK K
              refine wpAnyG_one (i := 8) rfl (by kernel_rfl) (by kernel_rfl) (fun K hK => ?_)
              go_wp2_with (go_at_call 5; refine (hI _ _ _ (hBw.trans (hb102.mono hBw.size)) (hkW.below hb102 hkW.lt) ho102).mono ?_; rintro e u103 ⟨rfl, hx103⟩)
              have hb103 : Below W0.heap.size W0 u103 := hb102.trans (hx103.mono hb102.size)
              have h7103 := h7102.below hx103 h7102.lt
              refine hK.out _ _ (fun _ => hS) ?_
              clear hK K
              refine wpAnyG_one (i := 10) rfl (by kernel_rfl) (by kernel_rfl) (fun K hK => ?_)
              refine wp_st 23 _ _ rfl _ rfl rfl h7103 (by rw [hT2l]; exact sizeKey) (by simp [hT2l]) ?_
              refine hK.out _ _ (fun h => absurd (show true = false from h) (by decide)) ?_
              clear hK K
              refine wpAnyG_done (by kernel_rfl) ?_ _
              exact ⟨_, _, _, _, _, _, rfl, below_setRow hb103 hge100 _, h7103.setRow T2⟩
          · skip
            go_simp
            have hN104 : Holds (u75.alloc (.cells (row .u8 (List.replicate 32 0)) 23)) u75.heap.size .u8 23 (List.replicate 32 0) := Holds.new u75 .u8 23 (List.replicate 32 0)
            have hn104 : Below u75.heap.size u75 (u75.alloc (.cells (row .u8 (List.replicate 32 0)) 23)) := (Below.refl _ _).alloc (Nat.le_refl _) _
            have hb104 : Below W0.heap.size W0 (u75.alloc (.cells (row .u8 (List.replicate 32 0)) 23)) := hb75.trans (hn104.mono hb75.size)
            have hge104 := hb75.size
            have ho75n104 := ho75.belowM hn104
            refine hK.out _ _ (fun _ => hS) ?_
            clear hK K
            obtain ⟨G104, hGe104⟩ : ∃ q, u75.heap.size = q := ⟨_, rfl⟩
            obtain ⟨U104, hU104⟩ : ∃ q, u75.alloc (.cells (row .u8 (List.replicate 32 0)) 23) = q := ⟨_, rfl⟩
            have hc104 : u75.alloc (.cells #[.int .u8 0, .int .u8 0, .int .u8 0, .int .u8 0, .int .u8 0, .int .u8 0, .int .u8 0, .int .u8 0, .int .u8 0, .int .u8 0, .int .u8 0, .int .u8 0, .int .u8 0, .int .u8 0, .int .u8 0, .int .u8 0, .int .u8 0, .int .u8 0, .int .u8 0, .int .u8 0, .int .u8 0, .int .u8 0, .int .u8 0, .int .u8 0, .int .u8 0, .int .u8 0, .int .u8 0, .int .u8 0, .int .u8 0, .int .u8 0, .int .u8 0, .int .u8 0] 23) = U104 := hU104
            rw [hU104, hGe104] at hN104
            rw [hU104] at hb104 ho75n104
            rw [hGe104] at hge104
            rw [hc104, hGe104]
            clear hGe104 hU104 hc104 hn104
            refine wpAnyG_two (i := 5) (j := 6) rfl rfl (by kernel_rfl) (by kernel_rfl) (by kernel_rfl) (fun K hK => ?_) (fun K hK => ?_)
            · skip
              refine wp_appA _ _ rfl W0.heap.size _ T1 rfl ho75n104 y m cb b rfl (hyW.below hb104) (by rw [hT1l]; omega) hb104.size ?_
              intro v105 u105 ho105 hg105
              have hb105 : Below W0.heap.size W0 u105 := below_grown hb104 ho75n104 hg105 hb104.size
              have h7105 := holds_grown hN104 ho75n104 hg105 (by decide)
              clear hg105
              refine hK.out _ _ (fun _ => hS) ?_
              clear hK K
              refine wpAnyG_one (i := 6) rfl (by kernel_rfl) (by kernel_rfl) (fun K hK => ?_)
              go_simp
              have hN106 : Holds (u105.alloc (.cells (row .u8 [2]) 5)) u105.heap.size .u8 5 [2] := Holds.new u105 .u8 5 [2]
              have hn106 : Below u105.heap.size u105 (u105.alloc (.cells (row .u8 [2]) 5)) := (Below.refl _ _).alloc (Nat.le_refl _) _
              have hb106 : Below W0.heap.size W0 (u105.alloc (.cells (row .u8 [2]) 5)) := hb105.trans (hn106.mono hb105.size)
              have hge106 := hb105.size
              have ho105n106 := ho105.belowM hn106
              have h7105n106 := h7105.alloc (.cells (row .u8 [2]) 5)
              refine hK.out _ _ (fun _ => hS) ?_
              clear hK K
              obtain ⟨G106, hGe106⟩ : ∃ q, u105.heap.size = q := ⟨_, rfl⟩
              obtain ⟨U106, hU106⟩ : ∃ q, u105.alloc (.cells (row .u8 [2]) 5) = q := ⟨_, rfl⟩
              have hc106 : u105.alloc (.cells #[.int .u8 2] 5) = U106 := hU106
              rw [hU106, hGe106] at hN106
              rw [hU106] at hb106 ho105n106 h7105n106
              rw [hGe106] at hge106
              rw [hc106, hGe106]
              clear hGe106 hU106 hc106 hn106
              refine wpAnyG_one (i := 7) rfl (by kernel_rfl) (by kernel_rfl) (fun K hK => ?_)
              refine wp_appA _ _ rfl W0.heap.size _ (T1 ++ b) rfl ho105n106 (some ⟨G106, 0, none⟩) 1 1 [2] rfl (hN106.bytes rfl (by simp)) (by rw [List.length_append, HBL.out, hT1l]; omega) hb106.size ?_
              intro v107 u107 ho107 hg107
              have hb107 : Below W0.heap.size W0 u107 := below_grown hb106 ho105n106 hg107 hb106.size
              rw [List.append_assoc] at ho107
              have h7107 := holds_grown h7105n106 ho105n106 hg107 (by decide)
              clear hg107
              refine hK.out _ _ (fun _ => hS) ?_
              clear hK K
              refine wpAnyG_one (i := 8) rfl (by kernel_rfl) (by kernel_rfl) (fun K hK => ?_)
              go_wp2_with (go_at_call 5; refine (hI _ _ _ (hBw.trans (hb107.mono hBw.size)) (hkW.below hb107 hkW.lt) ho107).mono ?_; rintro e u108 ⟨rfl, hx108⟩)
              have hb108 : Below W0.heap.size W0 u108 := hb107.trans (hx108.mono hb107.size)
              have h7108 := h7107.below hx108 h7107.lt
              refine hK.out _ _ (fun _ => hS) ?_
              clear hK K
              refine wpAnyG_one (i := 10) rfl (by kernel_rfl) (by kernel_rfl) (fun K hK => ?_)
              refine wp_st 23 _ _ rfl _ rfl rfl h7108 (by rw [hT2l]; exact sizeKey) (by simp [hT2l]) ?_
              refine hK.out _ _ (fun h => absurd (show true = false from h) (by decide)) ?_
              clear hK K
              refine wpAnyG_done (by kernel_rfl) ?_ _
              exact ⟨_, _, _, _, _, _, rfl, below_setRow hb108 hge104 _, h7108.setRow T2⟩
            · skip
              go_simp
              have hN109 : Holds (U104.alloc (.cells (row .u8 [2]) 5)) U104.heap.size .u8 5 [2] := Holds.new U104 .u8 5 [2]
              have hn109 : Below U104.heap.size U104 (U104.alloc (.cells (row .u8 [2]) 5)) := (Below.refl _ _).alloc (Nat.le_refl _) _
              have hb109 : Below W0.heap.size W0 (U104.alloc (.cells (row .u8 [2]) 5)) := hb104.trans (hn109.mono hb104.size)
              have hge109 := hb104.size
              have ho75n104n109 := ho75n104.belowM hn109
              have hN104n109 := hN104.alloc (.cells (row .u8 [2]) 5)
              refine hK.out _ _ (fun _ => hS) ?_
              clear hK K
              obtain ⟨G109, hGe109⟩ : ∃ q, U104.heap.size = q := ⟨_, rfl⟩
              obtain ⟨U109, hU109⟩ : ∃ q, U104.alloc (.cells (row .u8 [2]) 5) = q := ⟨_, rfl⟩
              have hc109 : U104.alloc (.cells #[.int .u8 2] 5) = U109 := hU109
              rw [hU109, hGe109] at hN109
              rw [hU109] at hb109 ho75n104n109 hN104n109
              rw [hGe109] at hge109
              rw [hc109, hGe109]
              clear hGe109 hU109 hc109 hn109
              refine wpAnyG_one (i := 5) rfl (by kernel_rfl) (by kernel_rfl) (fun K hK => ?_)
              refine wp_appA _ _ rfl W0.heap.size _ T1 rfl ho75n104n109 y m cb b rfl (hyW.below hb109) (by rw [hT1l]; omega) hb109.size ?_
              intro v110 u110 ho110 hg110
              have hb110 : Below W0.heap.size W0 u110 := below_grown hb109 ho75n104n109 hg110 hb109.size
              have h4110 := holds_grownL hN109 ho75n104n109 hg110 (by rw [hT1l]; decide)
              have h7110 := holds_grown hN104n109 ho75n104n109 hg110 (by decide)
              clear hg110
              refine hK.out _ _ (fun _ => hS) ?_
              clear hK K
              refine wpAnyG_one (i := 7) rfl (by kernel_rfl) (by kernel_rfl) (fun K hK => ?_)
              refine wp_appA _ _ rfl W0.heap.size _ (T1 ++ b) rfl ho110 (some ⟨G109, 0, none⟩) 1 1 [2] rfl (h4110.bytes rfl (by simp)) (by rw [List.length_append, HBL.out, hT1l]; omega) hb110.size ?_
              intro v111 u111 ho111 hg111
              have hb111 : Below W0.heap.size W0 u111 := below_grown hb110 ho110 hg111 hb110.size
              rw [List.append_assoc] at ho111
              have h7111 := holds_grown h7110 ho110 hg111 (by decide)
              clear hg111
              refine hK.out _ _ (fun _ => hS) ?_
              clear hK K
              refine wpAnyG_one (i := 8) rfl (by kernel_rfl) (by kernel_rfl) (fun K hK => ?_)
              go_wp2_with (go_at_call 5; refine (hI _ _ _ (hBw.trans (hb111.mono hBw.size)) (hkW.below hb111 hkW.lt) ho111).mono ?_; rintro e u112 ⟨rfl, hx112⟩)
              have hb112 : Below W0.heap.size W0 u112 := hb111.trans (hx112.mono hb111.size)
              have h7112 := h7111.below hx112 h7111.lt
              refine hK.out _ _ (fun _ => hS) ?_
              clear hK K
              refine wpAnyG_one (i := 10) rfl (by kernel_rfl) (by kernel_rfl) (fun K hK => ?_)
              refine wp_st 23 _ _ rfl _ rfl rfl h7112 (by rw [hT2l]; exact sizeKey) (by simp [hT2l]) ?_
              refine hK.out _ _ (fun h => absurd (show true = false from h) (by decide)) ?_
              clear hK K
              refine wpAnyG_done (by kernel_rfl) ?_ _
              exact ⟨_, _, _, _, _, _, rfl, below_setRow hb112 hge104 _, h7112.setRow T2⟩
        · skip
          go_simp
          have hN113 : Holds (U74.alloc (.cells (row .u8 [2]) 5)) U74.heap.size .u8 5 [2] := Holds.new U74 .u8 5 [2]
          have hn113 : Below U74.heap.size U74 (U74.alloc (.cells (row .u8 [2]) 5)) := (Below.refl _ _).alloc (Nat.le_refl _) _
          have hb113 : Below W0.heap.size W0 (U74.alloc (.cells (row .u8 [2]) 5)) := hb74.trans (hn113.mono hb74.size)
          have hge113 := hb74.size
          have hO74n113 := hO74.belowM hn113
          refine hK.out _ _ (fun _ => hS) ?_
          clear hK K
          obtain ⟨G113, hGe113⟩ : ∃ q, U74.heap.size = q := ⟨_, rfl⟩
          have hlt1113 := hltg74
          obtain ⟨U113, hU113⟩ : ∃ q, U74.alloc (.cells (row .u8 [2]) 5) = q := ⟨_, rfl⟩
          have hc113 : U74.alloc (.cells #[.int .u8 2] 5) = U113 := hU113
          rw [hU113, hGe113] at hN113
          rw [hU113] at hb113 hO74n113
          rw [hGe113] at hge113 hlt1113
          rw [hc113, hGe113]
          have hne113 : G74 ≠ G113 := by omega
          have hltg113 : G74 < U113.heap.size := by rw [← hU113]; simp; omega
          clear hGe113 hU113 hc113 hn113
          refine wpAnyG_two (i := 3) (j := 9) rfl rfl (by kernel_rfl) (by kernel_rfl) (by kernel_rfl) (fun K hK => ?_) (fun K hK => ?_)
          · skip
            refine wp_appA _ _ rfl W0.heap.size _ [] rfl hO74n113 (some ⟨GA, 0, none⟩) 32 32 T1 rfl (hAW.below hb113) (by simp) hb113.size ?_
            intro v114 u114 ho114 hg114
            have hb114 : Below W0.heap.size W0 u114 := below_grown hb113 hO74n113 hg114 hb113.size
            rw [List.nil_append] at ho114
            have h4114 := holds_grownA hN113 hg114 hne113
            clear hg114
            refine hK.out _ _ (fun _ => hS) ?_
            clear hK K
            refine wpAnyG_two (i := 5) (j := 9) rfl rfl (by kernel_rfl) (by kernel_rfl) (by kernel_rfl) (fun K hK => ?_) (fun K hK => ?_)
            · skip
              refine wp_appA _ _ rfl W0.heap.size _ T1 rfl ho114 y m cb b rfl (hyW.below hb114) (by rw [hT1l]; omega) hb114.size ?_
              intro v115 u115 ho115 hg115
              have hb115 : Below W0.heap.size W0 u115 := below_grown hb114 ho114 hg115 hb114.size
              have h4115 := holds_grownL h4114 ho114 hg115 (by rw [hT1l]; decide)
              clear hg115
              refine hK.out _ _ (fun _ => hS) ?_
              clear hK K
              refine wpAnyG_two (i := 7) (j := 9) rfl rfl (by kernel_rfl) (by kernel_rfl) (by kernel_rfl) (fun K hK => ?_) (fun K hK => ?_)
              · skip
                refine wp_appA _ _ rfl W0.heap.size _ (T1 ++ b) rfl ho115 (some ⟨G113, 0, none⟩) 1 1 [2] rfl (h4115.bytes rfl (by simp)) (by rw [List.length_append, HBL.out, hT1l]; omega) hb115.size ?_
                intro v116 u116 ho116 hg116
                have hb116 : Below W0.heap.size W0 u116 := below_grown hb115 ho115 hg116 hb115.size
                rw [List.append_assoc] at ho116
                clear hg116
                refine hK.out _ _ (fun _ => hS) ?_
                clear hK K
                refine wpAnyG_two (i := 8) (j := 9) rfl rfl (by kernel_rfl) (by kernel_rfl) (by kernel_rfl) (fun K hK => ?_) (fun K hK => ?_)
                · skip
                  go_wp2_with (go_at_call 5; refine (hI _ _ _ (hBw.trans (hb116.mono hBw.size)) (hkW.below hb116 hkW.lt) ho116).mono ?_; rintro e u117 ⟨rfl, hx117⟩)
                  have hb117 : Below W0.heap.size W0 u117 := hb116.trans (hx117.mono hb116.size)
                  refine hK.out _ _ (fun _ => hS) ?_
                  clear hK K
                  refine wpAnyG_one (i := 9) rfl (by kernel_rfl) (by kernel_rfl) (fun K hK => ?_)
                  go_simp
                  have hN118 : Holds (u117.alloc (.cells (row .u8 (List.replicate 32 0)) 23)) u117.heap.size .u8 23 (List.replicate 32 0) := Holds.new u117 .u8 23 (List.replicate 32 0)
                  have hn118 : Below u117.heap.size u117 (u117.alloc (.cells (row .u8 (List.replicate 32 0)) 23)) := (Below.refl _ _).alloc (Nat.le_refl _) _
                  have hb118 : Below W0.heap.size W0 (u117.alloc (.cells (row .u8 (List.replicate 32 0)) 23)) := hb117.trans (hn118.mono hb117.size)
                  have hge118 := hb117.size
                  refine hK.out _ _ (fun _ => hS) ?_
                  clear hK K
                  obtain ⟨G118, hGe118⟩ : ∃ q, u117.heap.size = q := ⟨_, rfl⟩
                  obtain ⟨U118, hU118⟩ : ∃ q, u117.alloc (.cells (row .u8 (List.replicate 32 0)) 23) = q := ⟨_, rfl⟩
                  have hc118 : u117.alloc (.cells #[.int .u8 0, .int .u8 0, .int .u8 0, .int .u8 0, .int .u8 0, .int .u8 0, .int .u8 0, .int .u8 0, .int .u8 0, .int .u8 0, .int .u8 0, .int .u8 0, .int .u8 0, .int .u8 0, .int .u8 0, .int .u8 0, .int .u8 0, .int .u8 0, .int .u8 0, .int .u8 0, .int .u8 0, .int .u8 0, .int .u8 0, .int .u8 0, .int .u8 0, .int .u8 0, .int .u8 0, .int .u8 0, .int .u8 0, .int .u8 0, .int .u8 0, .int .u8 0] 23) = U118 := hU118
                  rw [hU118, hGe118] at hN118
                  rw [hU118] at hb118 
                  rw [hGe118] at hge118
                  rw [hc118, hGe118]
                  clear hGe118 hU118 hc118 hn118
                  refine wpAnyG_one (i := 10) rfl (by kernel_rfl) (by kernel_rfl) (fun K hK => ?_)
                  refine wp_st 23 _ _ rfl _ rfl rfl hN118 (by rw [hT2l]; exact sizeKey) (by simp [hT2l]) ?_
                  refine hK.out _ _ (fun h => absurd (show true = false from h) (by decide)) ?_
                  clear hK K
                  refine wpAnyG_done (by kernel_rfl) ?_ _
                  exact ⟨_, _, _, _, _, _, rfl, below_setRow hb118 hge118 _, hN118.setRow T2⟩
                · skip
                  go_simp
                  have hN119 : Holds (u116.alloc (.cells (row .u8 (List.replicate 32 0)) 23)) u116.heap.size .u8 23 (List.replicate 32 0) := Holds.new u116 .u8 23 (List.replicate 32 0)
                  have hn119 : Below u116.heap.size u116 (u116.alloc (.cells (row .u8 (List.replicate 32 0)) 23)) := (Below.refl _ _).alloc (Nat.le_refl _) _
                  have hb119 : Below W0.heap.size W0 (u116.alloc (.cells (row .u8 (List.replicate 32 0)) 23)) := hb116.trans (hn119.mono hb116.size)
                  have hge119 := hb116.size
                  have ho116n119 := ho116.belowM hn119
                  refine hK.out _ _ (fun _ => hS) ?_
                  clear hK K
                  obtain ⟨G119, hGe119⟩ : ∃ q, u116.heap.size = q := ⟨_, rfl⟩
                  obtain ⟨U119, hU119⟩ : ∃ q, u116.alloc (.cells (row .u8 (List.replicate 32 0)) 23) = q := ⟨_, rfl⟩
                  have hc119 : u116.alloc (.cells #[.int .u8 0, .int .u8 0, .int .u8 0, .int .u8 0, .int .u8 0, .int .u8 0, .int .u8 0, .int .u8 0, .int .u8 0, .int .u8 0, .int .u8 0, .int .u8 0, .int .u8 0, .int .u8 0, .int .u8 0, .int .u8 0, .int .u8 0, .int .u8 0, .int .u8 0, .int .u8 0, .int .u8 0, .int .u8 0, .int .u8 0, .int .u8 0, .int .u8 0, .int .u8 0, .int .u8 0, .int .u8 0, .int .u8 0, .int .u8 0, .int .u8 0, .int .u8 0] 23) = U119 := hU119
                  rw [hU119, hGe119] at hN119
                  rw [hU119] at hb119 ho116n119
                  rw [hGe119] at hge119
                  rw [hc119, hGe119]
                  clear hGe119 hU119 hc119 hn119
                  refine wpAnyG_one (i := 8) rfl (by kernel_rfl) (by kernel_rfl) (fun K hK => ?_)
                  go_wp2_with (go_at_call 5; refine (hI _ _ _ (hBw.trans (hb119.mono hBw.size)) (hkW.below hb119 hkW.lt) ho116n119).mono ?_; rintro e u120 ⟨rfl, hx120⟩)
                  have hb120 : Below W0.heap.size W0 u120 := hb119.trans (hx120.mono hb119.size)
                  have h7120 := hN119.below hx120 hN119.lt
                  refine hK.out _ _ (fun _ => hS) ?_
                  clear hK K
                  refine wpAnyG_one (i := 10) rfl (by kernel_rfl) (by kernel_rfl) (fun K hK => ?_)
                  refine wp_st 23 _ _ rfl _ rfl rfl h7120 (by rw [hT2l]; exact sizeKey) (by simp [hT2l]) ?_
                  refine hK.out _ _ (fun h => absurd (show true = false from h) (by decide)) ?_
                  clear hK K
                  refine wpAnyG_done (by kernel_rfl) ?_ _
                  exact ⟨_, _, _, _, _, _, rfl, below_setRow hb120 hge119 _, h7120.setRow T2⟩
              · skip
                go_simp
                have hN121 : Holds (u115.alloc (.cells (row .u8 (List.replicate 32 0)) 23)) u115.heap.size .u8 23 (List.replicate 32 0) := Holds.new u115 .u8 23 (List.replicate 32 0)
                have hn121 : Below u115.heap.size u115 (u115.alloc (.cells (row .u8 (List.replicate 32 0)) 23)) := (Below.refl _ _).alloc (Nat.le_refl _) _
                have hb121 : Below W0.heap.size W0 (u115.alloc (.cells (row .u8 (List.replicate 32 0)) 23)) := hb115.trans (hn121.mono hb115.size)
                have hge121 := hb115.size
                have ho115n121 := ho115.belowM hn121
                have h4115n121 := h4115.alloc (.cells (row .u8 (List.replicate 32 0)) 23)
                refine hK.out _ _ (fun _ => hS) ?_
                clear hK K
                obtain ⟨G121, hGe121⟩ : ∃ q, u115.heap.size = q := ⟨_, rfl⟩
                have hlt4121 := h4115.lt
                obtain ⟨U121, hU121⟩ : ∃ q, u115.alloc (.cells (row .u8 (List.replicate 32 0)) 23) = q := ⟨_, rfl⟩
                have hc121 : u115.alloc (.cells #[.int .u8 0, .int .u8 0, .int .u8 0, .int .u8 0, .int .u8 0, .int .u8 0, .int .u8 0, .int .u8 0, .int .u8 0, .int .u8 0, .int .u8 0, .int .u8 0, .int .u8 0, .int .u8 0, .int .u8 0, .int .u8 0, .int .u8 0, .int .u8 0, .int .u8 0, .int .u8 0, .int .u8 0, .int .u8 0, .int .u8 0, .int .u8 0, .int .u8 0, .int .u8 0, .int .u8 0, .int .u8 0, .int .u8 0, .int .u8 0, .int .u8 0, .int .u8 0] 23) = U121 := hU121
                rw [hU121, hGe121] at hN121
                rw [hU121] at hb121 ho115n121 h4115n121
                rw [hGe121] at hge121 hlt4121
                rw [hc121, hGe121]
                clear hGe121 hU121 hc121 hn121
                refine wpAnyG_one (i := 7) rfl (by kernel_rfl) (by kernel_rfl) (fun K hK => ?_)
                refine wp_appA _ _ rfl W0.heap.size _ (T1 ++ b) rfl ho115n121 (some ⟨G113, 0, none⟩) 1 1 [2] rfl (h4115n121.bytes rfl (by simp)) (by rw [List.length_append, HBL.out, hT1l]; omega) hb121.size ?_
                intro v122 u122 ho122 hg122
                have hb122 : Below W0.heap.size W0 u122 := below_grown hb121 ho115n121 hg122 hb121.size
                rw [List.append_assoc] at ho122
                have h7122 := holds_grown hN121 ho115n121 hg122 (by decide)
                clear hg122
                refine hK.out _ _ (fun _ => hS) ?_
                clear hK K
                refine wpAnyG_one (i := 8) rfl (by kernel_rfl) (by kernel_rfl) (fun K hK => ?_)
                go_wp2_with (go_at_call 5; refine (hI _ _ _ (hBw.trans (hb122.mono hBw.size)) (hkW.below hb122 hkW.lt) ho122).mono ?_; rintro e u123 ⟨rfl, hx123⟩)
                have hb123 : Below W0.heap.size W0 u123 := hb122.trans (hx123.mono hb122.size)
                have h7123 := h7122.below hx123 h7122.lt
                refine hK.out _ _ (fun _ => hS) ?_
                clear hK K
                refine wpAnyG_one (i := 10) rfl (by kernel_rfl) (by kernel_rfl) (fun K hK => ?_)
                refine wp_st 23 _ _ rfl _ rfl rfl h7123 (by rw [hT2l]; exact sizeKey) (by simp [hT2l]) ?_
                refine hK.out _ _ (fun h => absurd (show true = false from h) (by decide)) ?_
                clear hK K
                refine wpAnyG_done (by kernel_rfl) ?_ _
                exact ⟨_, _, _, _, _, _, rfl, below_setRow hb123 hge121 _, h7123.setRow T2⟩
            · skip
              go_simp
              have hN124 : Holds (u114.alloc (.cells (row .u8 (List.replicate 32 0)) 23)) u114.heap.size .u8 23 (List.replicate 32 0) := Holds.new u114 .u8 23 (List.replicate 32 0)
              have hn124 : Below u114.heap.size u114 (u114.alloc (.cells (row .u8 (List.replicate 32 0)) 23)) := (Below.refl _ _).alloc (Nat.le_refl _) _
              have hb124 : Below W0.heap.size W0 (u114.alloc (.cells (row .u8 (List.replicate 32 0)) 23)) := hb114.trans (hn124.mono hb114.size)
              have hge124 := hb114.size
              have ho114n124 := ho114.belowM hn124
              have h4114n124 := h4114.alloc (.cells (row .u8 (List.replicate 32 0)) 23)
              refine hK.out _ _ (fun _ => hS) ?_
              clear hK K
              obtain ⟨G124, hGe124⟩ : ∃ q, u114.heap.size = q := ⟨_, rfl⟩
              have hlt4124 := h4114.lt
              obtain ⟨U124, hU124⟩ : ∃ q, u114.alloc (.cells (row .u8 (List.replicate 32 0)) 23) = q := ⟨_, rfl⟩
              have hc124 : u114.alloc (.cells #[.int .u8 0, .int .u8 0, .int .u8 0, .int .u8 0, .int .u8 0, .int .u8 0, .int .u8 0, .int .u8 0, .int .u8 0, .int .u8 0, .int .u8 0, .int .u8 0, .int .u8 0, .int .u8 0, .int .u8 0, .int .u8 0, .int .u8 0, .int .u8 0, .int .u8 0, .int .u8 0, .int .u8 0, .int .u8 0, .int .u8 0, .int .u8 0, .int .u8 0, .int .u8 0, .int .u8 0, .int .u8 0, .int .u8 0, .int .u8 0, .int .u8 0, .int .u8 0] 23) = U124 := hU124
              rw [hU124, hGe124] at hN124
              rw [hU124] at hb124 ho114n124 h4114n124
              rw [hGe124] at hge124 hlt4124
              rw [hc124, hGe124]
              clear hGe124 hU124 hc124 hn124
              refine wpAnyG_one (i := 5) rfl (by kernel_rfl) (by kernel_rfl) (fun K hK => ?_)
              refine wp_appA _ _ rfl W0.heap.size _ T1 rfl ho114n124 y m cb b rfl (hyW.below hb124) (by rw [hT1l]; omega) hb124.size ?_
              intro v125 u125 ho125 hg125
              have hb125 : Below W0.heap.size W0 u125 := below_grown hb124 ho114n124 hg125 hb124.size
              have h4125 := holds_grownL h4114n124 ho114n124 hg125 (by rw [hT1l]; decide)
              have h7125 := holds_grown hN124 ho114n124 hg125 (by decide)
              clear hg125
              refine hK.out _ _ (fun _ => hS) ?_
              clear hK K
              refine wpAnyG_one (i := 7) rfl (by kernel_rfl) (by kernel_rfl) (fun K hK => ?_)
              refine wp_appA _ _ rfl W0.heap.size _ (T1 ++ b) rfl ho125 (some ⟨G113, 0, none⟩) 1 1 [2] rfl (h4125.bytes rfl (by simp)) (by rw [List.length_append, HBL.out, hT1l]; omega) hb125.size ?_
              intro v126 u126 ho126 hg126
              have hb126 : Below W0.heap.size W0 u126 := below_grown hb125 ho125 hg126 hb125.size
              rw [List.append_assoc] at ho126
              have h7126 := holds_grown h7125 ho125 hg126 (by decide)
              clear hg126
              refine hK.out _ _ (fun _ => hS) ?_
              clear hK K
              refine wpAnyG_one (i := 8) rfl (by kernel_rfl) (by kernel_rfl) (fun K hK => ?_)
              go_wp2_with (go_at_call 5; refine (hI _ _ _ (hBw.trans (hb126.mono hBw.size)) (hkW.below hb126 hkW.lt) ho126).mono ?_; rintro e u127 ⟨rfl, hx127⟩)
              have hb127 : Below W0.heap.size W0 u127 := hb126.trans (hx127.mono hb126.size)
              have h7127 := h7126.below hx127 h7126.lt
              refine hK.out _ _ (fun _ => hS) ?_
              clear hK K
              refine wpAnyG_one (i := 10) rfl (by kernel_rfl) (by kernel_rfl) (fun K hK => ?_)
              refine wp_st 23 _ _ rfl _ rfl rfl h7127 (by rw [hT2l]; exact sizeKey) (by simp [hT2l]) ?_
              refine hK.out _ _ (fun h => absurd (show true = false from h) (by decide)) ?_
              clear hK K
              refine wpAnyG_done (by kernel_rfl) ?_ _
              exact ⟨_, _, _, _, _, _, rfl, below_setRow hb127 hge124 _, h7127.setRow T2⟩
          · skip
            go_simp
            have hN128 : Holds (U113.alloc (.cells (row .u8 (List.replicate 32 0)) 23)) U113.heap.size .u8 23 (List.replicate 32 0) := Holds.new U113 .u8 23 (List.replicate 32 0)
            have hn128 : Below U113.heap.size U113 (U113.alloc (.cells (row .u8 (List.replicate 32 0)) 23)) := (Below.refl _ _).alloc (Nat.le_refl _) _
            have hb128 : Below W0.heap.size W0 (U113.alloc (.cells (row .u8 (List.replicate 32 0)) 23)) := hb113.trans (hn128.mono hb113.size)
            have hge128 := hb113.size
            have hO74n113n128 := hO74n113.belowM hn128
            have hN113n128 := hN113.alloc (.cells (row .u8 (List.replicate 32 0)) 23)
            refine hK.out _ _ (fun _ => hS) ?_
            clear hK K
            obtain ⟨G128, hGe128⟩ : ∃ q, U113.heap.size = q := ⟨_, rfl⟩
            have hlt4128 := hN113.lt
            have hlt1128 := hltg113
            obtain ⟨U128, hU128⟩ : ∃ q, U113.alloc (.cells (row .u8 (List.replicate 32 0)) 23) = q := ⟨_, rfl⟩
            have hc128 : U113.alloc (.cells #[.int .u8 0, .int .u8 0, .int .u8 0, .int .u8 0, .int .u8 0, .int .u8 0, .int .u8 0, .int .u8 0, .int .u8 0, .int .u8 0, .int .u8 0, .int .u8 0, .int .u8 0, .int .u8 0, .int .u8 0, .int .u8 0, .int .u8 0, .int .u8 0, .int .u8 0, .int .u8 0, .int .u8 0, .int .u8 0, .int .u8 0, .int .u8 0, .int .u8 0, .int .u8 0, .int .u8 0, .int .u8 0, .int .u8 0, .int .u8 0, .int .u8 0, .int .u8 0] 23) = U128 := hU128
            rw [hU128, hGe128] at hN128
            rw [hU128] at hb128 hO74n113n128 hN113n128
            rw [hGe128] at hge128 hlt4128 hlt1128
            rw [hc128, hGe128]
            have hltg128 : G74 < U128.heap.size := by rw [← hU128]; simp; omega
            clear hGe128 hU128 hc128 hn128
            refine wpAnyG_one (i := 3) rfl (by kernel_rfl) (by kernel_rfl) (fun K hK => ?_)
            refine wp_appA _ _ rfl W0.heap.size _ [] rfl hO74n113n128 (some ⟨GA, 0, none⟩) 32 32 T1 rfl (hAW.below hb128) (by simp) hb128.size ?_
            intro v129 u129 ho129 hg129
            have hb129 : Below W0.heap.size W0 u129 := below_grown hb128 hO74n113n128 hg129 hb128.size
            rw [List.nil_append] at ho129
            have h4129 := holds_grownA hN113n128 hg129 hne113
            have h7129 := holds_grown hN128 hO74n113n128 hg129 (by decide)
            clear hg129
            refine hK.out _ _ (fun _ => hS) ?_
            clear hK K
            refine wpAnyG_one (i := 5) rfl (by kernel_rfl) (by kernel_rfl) (fun K hK => ?_)
            refine wp_appA _ _ rfl W0.heap.size _ T1 rfl ho129 y m cb b rfl (hyW.below hb129) (by rw [hT1l]; omega) hb129.size ?_
            intro v130 u130 ho130 hg130
            have hb130 : Below W0.heap.size W0 u130 := below_grown hb129 ho129 hg130 hb129.size
            have h4130 := holds_grownL h4129 ho129 hg130 (by rw [hT1l]; decide)
            have h7130 := holds_grown h7129 ho129 hg130 (by decide)
            clear hg130
            refine hK.out _ _ (fun _ => hS) ?_
            clear hK K
            refine wpAnyG_one (i := 7) rfl (by kernel_rfl) (by kernel_rfl) (fun K hK => ?_)
            refine wp_appA _ _ rfl W0.heap.size _ (T1 ++ b) rfl ho130 (some ⟨G113, 0, none⟩) 1 1 [2] rfl (h4130.bytes rfl (by simp)) (by rw [List.length_append, HBL.out, hT1l]; omega) hb130.size ?_
            intro v131 u131 ho131 hg131
            have hb131 : Below W0.heap.size W0 u131 := below_grown hb130 ho130 hg131 hb130.size
            rw [List.append_assoc] at ho131
            have h7131 := holds_grown h7130 ho130 hg131 (by decide)
            clear hg131
            refine hK.out _ _ (fun _ => hS) ?_
            clear hK K
            refine wpAnyG_one (i := 8) rfl (by kernel_rfl) (by kernel_rfl) (fun K hK => ?_)
            go_wp2_with (go_at_call 5; refine (hI _ _ _ (hBw.trans (hb131.mono hBw.size)) (hkW.below hb131 hkW.lt) ho131).mono ?_; rintro e u132 ⟨rfl, hx132⟩)
            have hb132 : Below W0.heap.size W0 u132 := hb131.trans (hx132.mono hb131.size)
            have h7132 := h7131.below hx132 h7131.lt
            refine hK.out _ _ (fun _ => hS) ?_
            clear hK K
            refine wpAnyG_one (i := 10) rfl (by kernel_rfl) (by kernel_rfl) (fun K hK => ?_)
            refine wp_st 23 _ _ rfl _ rfl rfl h7132 (by rw [hT2l]; exact sizeKey) (by simp [hT2l]) ?_
            refine hK.out _ _ (fun h => absurd (show true = false from h) (by decide)) ?_
            clear hK K
            refine wpAnyG_done (by kernel_rfl) ?_ _
            exact ⟨_, _, _, _, _, _, rfl, below_setRow hb132 hge128 _, h7132.setRow T2⟩
        · skip
          go_simp
          have hN133 : Holds (U74.alloc (.cells (row .u8 (List.replicate 32 0)) 23)) U74.heap.size .u8 23 (List.replicate 32 0) := Holds.new U74 .u8 23 (List.replicate 32 0)
          have hn133 : Below U74.heap.size U74 (U74.alloc (.cells (row .u8 (List.replicate 32 0)) 23)) := (Below.refl _ _).alloc (Nat.le_refl _) _
          have hb133 : Below W0.heap.size W0 (U74.alloc (.cells (row .u8 (List.replicate 32 0)) 23)) := hb74.trans (hn133.mono hb74.size)
          have hge133 := hb74.size
          have hO74n133 := hO74.belowM hn133
          refine hK.out _ _ (fun _ => hS) ?_
          clear hK K
          obtain ⟨G133, hGe133⟩ : ∃ q, U74.heap.size = q := ⟨_, rfl⟩
          have hlt1133 := hltg74
          obtain ⟨U133, hU133⟩ : ∃ q, U74.alloc (.cells (row .u8 (List.replicate 32 0)) 23) = q := ⟨_, rfl⟩
          have hc133 : U74.alloc (.cells #[.int .u8 0, .int .u8 0, .int .u8 0, .int .u8 0, .int .u8 0, .int .u8 0, .int .u8 0, .int .u8 0, .int .u8 0, .int .u8 0, .int .u8 0, .int .u8 0, .int .u8 0, .int .u8 0, .int .u8 0, .int .u8 0, .int .u8 0, .int .u8 0, .int .u8 0, .int .u8 0, .int .u8 0, .int .u8 0, .int .u8 0, .int .u8 0, .int .u8 0, .int .u8 0, .int .u8 0, .int .u8 0, .int .u8 0, .int .u8 0, .int .u8 0, .int .u8 0] 23) = U133 := hU133
          rw [hU133, hGe133] at hN133
          rw [hU133] at hb133 hO74n133
          rw [hGe133] at hge133 hlt1133
          rw [hc133, hGe133]
          have hltg133 : G74 < U133.heap.size := by rw [← hU133]; simp; omega
          clear hGe133 hU133 hc133 hn133
          refine wpAnyG_two (i := 3) (j := 6) rfl rfl (by kernel_rfl) (by kernel_rfl) (by kernel_rfl) (fun K hK => ?_) (fun K hK => ?_)
          · skip
            refine wp_appA _ _ rfl W0.heap.size _ [] rfl hO74n133 (some ⟨GA, 0, none⟩) 32 32 T1 rfl (hAW.below hb133) (by simp) hb133.size ?_
            intro v134 u134 ho134 hg134
            have hb134 : Below W0.heap.size W0 u134 := below_grown hb133 hO74n133 hg134 hb133.size
            rw [List.nil_append] at ho134
            have h7134 := holds_grown hN133 hO74n133 hg134 (by decide)
            clear hg134
            refine hK.out _ _ (fun _ => hS) ?_
            clear hK K
            refine wpAnyG_two (i := 5) (j := 6) rfl rfl (by kernel_rfl) (by kernel_rfl) (by kernel_rfl) (fun K hK => ?_) (fun K hK => ?_)
            · skip
              refine wp_appA _ _ rfl W0.heap.size _ T1 rfl ho134 y m cb b rfl (hyW.below hb134) (by rw [hT1l]; omega) hb134.size ?_
              intro v135 u135 ho135 hg135
              have hb135 : Below W0.heap.size W0 u135 := below_grown hb134 ho134 hg135 hb134.size
              have h7135 := holds_grown h7134 ho134 hg135 (by decide)
              clear hg135
              refine hK.out _ _ (fun _ => hS) ?_
              clear hK K
              refine wpAnyG_one (i := 6) rfl (by kernel_rfl) (by kernel_rfl) (fun K hK => ?_)
              go_simp
              have hN136 : Holds (u135.alloc (.cells (row .u8 [2]) 5)) u135.heap.size .u8 5 [2] := Holds.new u135 .u8 5 [2]
              have hn136 : Below u135.heap.size u135 (u135.alloc (.cells (row .u8 [2]) 5)) := (Below.refl _ _).alloc (Nat.le_refl _) _
              have hb136 : Below W0.heap.size W0 (u135.alloc (.cells (row .u8 [2]) 5)) := hb135.trans (hn136.mono hb135.size)
              have hge136 := hb135.size
              have ho135n136 := ho135.belowM hn136
              have h7135n136 := h7135.alloc (.cells (row .u8 [2]) 5)
              refine hK.out _ _ (fun _ => hS) ?_
              clear hK K
              obtain ⟨G136, hGe136⟩ : ∃ q, u135.heap.size = q := ⟨_, rfl⟩
              obtain ⟨U136, hU136⟩ : ∃ q, u135.alloc (.cells (row .u8 [2]) 5) = q := ⟨_, rfl⟩
              have hc136 : u135.alloc (.cells #[.int .u8 2] 5) = U136 := hU136
              rw [hU136, hGe136] at hN136
              rw [hU136] at hb136 ho135n136 h7135n136
              rw [hGe136] at hge136
              rw [hc136, hGe136]
              clear hGe136 hU136 hc136 hn136
              refine wpAnyG_one (i := 7) rfl (by kernel_rfl) (by kernel_rfl) (fun K hK => ?_)
              refine wp_appA _ _ rfl W0.heap.size _ (T1 ++ b) rfl ho135n136 (some ⟨G136, 0, none⟩) 1 1 [2] rfl (hN136.bytes rfl (by simp)) (by rw [List.length_append, HBL.out, hT1l]; omega) hb136.size ?_
              intro v137 u137 ho137 hg137
              have hb137 : Below W0.heap.size W0 u137 := below_grown hb136 ho135n136 hg137 hb136.size
              rw [List.append_assoc] at ho137
              have h7137 := holds_grown h7135n136 ho135n136 hg137 (by decide)
              clear hg137
              refine hK.out _ _ (fun _ => hS) ?_
              clear hK K
              refine wpAnyG_one (i := 8) rfl (by kernel_rfl) (by kernel_rfl) (fun K hK => ?_)
              go_wp2_with (go_at_call 5; refine (hI _ _ _ (hBw.trans (hb137.mono hBw.size)) (hkW.below hb137 hkW.lt) ho137).mono ?_; rintro e u138 ⟨rfl, hx138⟩)
              have hb138 : Below W0.heap.size W0 u138 := hb137.trans (hx138.mono hb137.size)
              have h7138 := h7137.below hx138 h7137.lt
              refine hK.out _ _ (fun _ => hS) ?_
              clear hK K
              refine wpAnyG_one (i := 10) rfl (by kernel_rfl) (by kernel_rfl) (fun K hK => ?_)
              refine wp_st 23 _ _ rfl _ rfl rfl h7138 (by rw [hT2l]; exact sizeKey) (by simp [hT2l]) ?_
              refine hK.out _ _ (fun h => absurd (show true = false from h) (by decide)) ?_
              clear hK K
              refine wpAnyG_done (by kernel_rfl) ?_ _
              exact ⟨_, _, _, _, _, _, rfl, below_setRow hb138 hge133 _, h7138.setRow T2⟩
            · skip
              go_simp
              have hN139 : Holds (u134.alloc (.cells (row .u8 [2]) 5)) u134.heap.size .u8 5 [2] := Holds.new u134 .u8 5 [2]
              have hn139 : Below u134.heap.size u134 (u134.alloc (.cells (row .u8 [2]) 5)) := (Below.refl _ _).alloc (Nat.le_refl _) _
              have hb139 : Below W0.heap.size W0 (u134.alloc (.cells (row .u8 [2]) 5)) := hb134.trans (hn139.mono hb134.size)
              have hge139 := hb134.size
              have ho134n139 := ho134.belowM hn139
              have h7134n139 := h7134.alloc (.cells (row .u8 [2]) 5)
              refine hK.out _ _ (fun _ => hS) ?_
              clear hK K
              obtain ⟨G139, hGe139⟩ : ∃ q, u134.heap.size = q := ⟨_, rfl⟩
              obtain ⟨U139, hU139⟩ : ∃ q, u134.alloc (.cells (row .u8 [2]) 5) = q := ⟨_, rfl⟩
              have hc139 : u134.alloc (.cells #[.int .u8 2] 5) = U139 := hU139
              rw [hU139, hGe139] at hN139
              rw [hU139] at hb139 ho134n139 h7134n139
              rw [hGe139] at hge139
              rw [hc139, hGe139]
              clear hGe139 hU139 hc139 hn139
              refine wpAnyG_one (i := 5) rfl (by kernel_rfl) (by kernel_rfl) (fun K hK => ?_)
              refine wp_appA _ _ rfl W0.heap.size _ T1 rfl ho134n139 y m cb b rfl (hyW.below hb139) (by rw [hT1l]; omega) hb139.size ?_
              intro v140 u140 ho140 hg140
              have hb140 : Below W0.heap.size W0 u140 := below_grown hb139 ho134n139 hg140 hb139.size
              have h4140 := holds_grownL hN139 ho134n139 hg140 (by rw [hT1l]; decide)
              have h7140 := holds_grown h7134n139 ho134n139 hg140 (by decide)
              clear hg140
              refine hK.out _ _ (fun _ => hS) ?_
              clear hK K
              refine wpAnyG_one (i := 7) rfl (by kernel_rfl) (by kernel_rfl) (fun K hK => ?_)
              refine wp_appA _ _ rfl W0.heap.size _ (T1 ++ b) rfl ho140 (some ⟨G139, 0, none⟩) 1 1 [2] rfl (h4140.bytes rfl (by simp)) (by rw [List.length_append, HBL.out, hT1l]; omega) hb140.size ?_
              intro v141 u141 ho141 hg141
              have hb141 : Below W0.heap.size W0 u141 := below_grown hb140 ho140 hg141 hb140.size
              rw [List.append_assoc] at ho141
              have h7141 := holds_grown h7140 ho140 hg141 (by decide)
              clear hg141
              refine hK.out _ _ (fun _ => hS) ?_
              clear hK K
              refine wpAnyG_one (i := 8) rfl (by kernel_rfl) (by kernel_rfl) (fun K hK => ?_)
              go_wp2_with (go_at_call 5; refine (hI _ _ _ (hBw.trans (hb141.mono hBw.size)) (hkW.below hb141 hkW.lt) ho141).mono ?_; rintro e u142 ⟨rfl, hx142⟩)
              have hb142 : Below W0.heap.size W0 u142 := hb141.trans (hx142.mono hb141.size)
              have h7142 := h7141.below hx142 h7141.lt
              refine hK.out _ _ (fun _ => hS) ?_
              clear hK K
              refine wpAnyG_one (i := 10) rfl (by kernel_rfl) (by kernel_rfl) (fun K hK => ?_)
              refine wp_st 23 _ _ rfl _ rfl rfl h7142 (by rw [hT2l]; exact sizeKey) (by simp [hT2l]) ?_
              refine hK.out _ _ (fun h => absurd (show true = false from h) (by decide)) ?_
              clear hK K
              refine wpAnyG_done (by kernel_rfl) ?_ _
              exact ⟨_, _, _, _, _, _, rfl, below_setRow hb142 hge133 _, h7142.setRow T2⟩
          · skip
            go_simp
            have hN143 : Holds (U133.alloc (.cells (row .u8 [2]) 5)) U133.heap.size .u8 5 [2] := Holds.new U133 .u8 5 [2]
            have hn143 : Below U133.heap.size U133 (U133.alloc (.cells (row .u8 [2]) 5)) := (Below.refl _ _).alloc (Nat.le_refl _) _
            have hb143 : Below W0.heap.size W0 (U133.alloc (.cells (row .u8 [2]) 5)) := hb133.trans (hn143.mono hb133.size)
            have hge143 := hb133.size
            have hO74n133n143 := hO74n133.belowM hn143
            have hN133n143 := hN133.alloc (.cells (row .u8 [2]) 5)
            refine hK.out _ _ (fun _ => hS) ?_
            clear hK K
            obtain ⟨G143, hGe143⟩ : ∃ q, U133.heap.size = q := ⟨_, rfl⟩
            have hlt1143 := hltg133
            obtain ⟨U143, hU143⟩ : ∃ q, U133.alloc (.cells (row .u8 [2]) 5) = q := ⟨_, rfl⟩
            have hc143 : U133.alloc (.cells #[.int .u8 2] 5) = U143 := hU143
            rw [hU143, hGe143] at hN143
            rw [hU143] at hb143 hO74n133n143 hN133n143
            rw [hGe143] at hge143 hlt1143
            rw [hc143, hGe143]
            have hne143 : G74 ≠ G143 := by omega
            have hltg143 : G74 < U143.heap.size := by rw [← hU143]; simp; omega
            clear hGe143 hU143 hc143 hn143
            refine wpAnyG_one (i := 3) rfl (by kernel_rfl) (by kernel_rfl) (fun K hK => ?_)
            refine wp_appA _ _ rfl W0.heap.size _ [] rfl hO74n133n143 (some ⟨GA, 0, none⟩) 32 32 T1 rfl (hAW.below hb143) (by simp) hb143.size ?_
            intro v144 u144 ho144 hg144
            have hb144 : Below W0.heap.size W0 u144 := below_grown hb143 hO74n133n143 hg144 hb143.size
            rw [List.nil_append] at ho144
            have h4144 := holds_grownA hN143 hg144 hne143
            have h7144 := holds_grown hN133n143 hO74n133n143 hg144 (by decide)
            clear hg144
            refine hK.out _ _ (fun _ => hS) ?_
            clear hK K
            refine wpAnyG_one (i := 5) rfl (by kernel_rfl) (by kernel_rfl) (fun K hK => ?_)
            refine wp_appA _ _ rfl W0.heap.size _ T1 rfl ho144 y m cb b rfl (hyW.below hb144) (by rw [hT1l]; omega) hb144.size ?_
            intro v145 u145 ho145 hg145
            have hb145 : Below W0.heap.size W0 u145 := below_grown hb144 ho144 hg145 hb144.size
            have h4145 := holds_grownL h4144 ho144 hg145 (by rw [hT1l]; decide)
            have h7145 := holds_grown h7144 ho144 hg145 (by decide)
            clear hg145
            refine hK.out _ _ (fun _ => hS) ?_
            clear hK K
            refine wpAnyG_one (i := 7) rfl (by kernel_rfl) (by kernel_rfl) (fun K hK => ?_)
            refine wp_appA _ _ rfl W0.heap.size _ (T1 ++ b) rfl ho145 (some ⟨G143, 0, none⟩) 1 1 [2] rfl (h4145.bytes rfl (by simp)) (by rw [List.length_append, HBL.out, hT1l]; omega) hb145.size ?_
            intro v146 u146 ho146 hg146
            have hb146 : Below W0.heap.size W0 u146 := below_grown hb145 ho145 hg146 hb145.size
            rw [List.append_assoc] at ho146
            have h7146 := holds_grown h7145 ho145 hg146 (by decide)
            clear hg146
            refine hK.out _ _ (fun _ => hS) ?_
            clear hK K
            refine wpAnyG_one (i := 8) rfl (by kernel_rfl) (by kernel_rfl) (fun K hK => ?_)
            go_wp2_with (go_at_call 5; refine (hI _ _ _ (hBw.trans (hb146.mono hBw.size)) (hkW.below hb146 hkW.lt) ho146).mono ?_; rintro e u147 ⟨rfl, hx147⟩)
            have hb147 : Below W0.heap.size W0 u147 := hb146.trans (hx147.mono hb146.size)
            have h7147 := h7146.below hx147 h7146.lt
            refine hK.out _ _ (fun _ => hS) ?_
            clear hK K
            refine wpAnyG_one (i := 10) rfl (by kernel_rfl) (by kernel_rfl) (fun K hK => ?_)
            refine wp_st 23 _ _ rfl _ rfl rfl h7147 (by rw [hT2l]; exact sizeKey) (by simp [hT2l]) ?_
            refine hK.out _ _ (fun h => absurd (show true = false from h) (by decide)) ?_
            clear hK K
            refine wpAnyG_done (by kernel_rfl) ?_ _
            exact ⟨_, _, _, _, _, _, rfl, below_setRow hb147 hge133 _, h7147.setRow T2⟩
      · skip
        go_simp
        have hN148 : Holds (D0.alloc (.cells (row .u8 [2]) 5)) D0.heap.size .u8 5 [2] := Holds.new D0 .u8 5 [2]
        have hn148 : Below D0.heap.size D0 (D0.alloc (.cells (row .u8 [2]) 5)) := (Below.refl _ _).alloc (Nat.le_refl _) _
        have hb148 : Below W0.heap.size W0 (D0.alloc (.cells (row .u8 [2]) 5)) := hb0.trans (hn148.mono hb0.size)
        have hge148 := hb0.size
        refine hK.out _ _ (fun _ => hS) ?_
        clear hK K
        obtain ⟨G148, hGe148⟩ : ∃ q, D0.heap.size = q := ⟨_, rfl⟩
        obtain ⟨U148, hU148⟩ : ∃ q, D0.alloc (.cells (row .u8 [2]) 5) = q := ⟨_, rfl⟩
        have hc148 : D0.alloc (.cells #[.int .u8 2] 5) = U148 := hU148
        rw [hU148, hGe148] at hN148
        rw [hU148] at hb148 
        rw [hGe148] at hge148
        rw [hc148, hGe148]
        clear hGe148 hU148 hc148 hn148
        refine wpAnyG_two (i := 1) (j := 9) rfl rfl (by kernel_rfl) (by kernel_rfl) (by kernel_rfl) (fun K hK => ?_) (fun K hK => ?_)
        · skip
          go_simp
          have hN149 : Holds (U148.alloc (.cells (row .u8 []) 5)) U148.heap.size .u8 5 [] := Holds.new U148 .u8 5 []
          have hn149 : Below U148.heap.size U148 (U148.alloc (.cells (row .u8 []) 5)) := (Below.refl _ _).alloc (Nat.le_refl _) _
          have hb149 : Below W0.heap.size W0 (U148.alloc (.cells (row .u8 []) 5)) := hb148.trans (hn149.mono hb148.size)
          have hge149 := hb148.size
          have hN148n149 := hN148.alloc (.cells (row .u8 []) 5)
          refine hK.out _ _ (fun _ => hS) ?_
          clear hK K
          obtain ⟨G149, hGe149⟩ : ∃ q, U148.heap.size = q := ⟨_, rfl⟩
          have hlt4149 := hN148.lt
          obtain ⟨U149, hU149⟩ : ∃ q, U148.alloc (.cells (row .u8 []) 5) = q := ⟨_, rfl⟩
          have hc149 : U148.alloc (.cells #[] 5) = U149 := hU149
          rw [hU149, hGe149] at hN149
          rw [hU149] at hb149 hN148n149
          rw [hGe149] at hge149 hlt4149
          rw [hc149, hGe149]
          have hO149 : OwnB U149 W0.heap.size (.slice (some ⟨G149, 0, none⟩) 0 0) [] := by rw [← hU149, ← hGe149]; exact ownB_empty U148 W0.heap.size hb148.size
          have hltg149 : G149 < U149.heap.size := hN149.lt
          have hne149 : G149 ≠ G148 := by omega
          clear hGe149 hU149 hc149 hn149
          refine wpAnyG_two (i := 3) (j := 9) rfl rfl (by kernel_rfl) (by kernel_rfl) (by kernel_rfl) (fun K hK => ?_) (fun K hK => ?_)
          · skip
            refine wp_appA _ _ rfl W0.heap.size _ [] rfl hO149 (some ⟨GA, 0, none⟩) 32 32 T1 rfl (hAW.below hb149) (by simp) hb149.size ?_
            intro v150 u150 ho150 hg150
            have hb150 : Below W0.heap.size W0 u150 := below_grown hb149 hO149 hg150 hb149.size
            rw [List.nil_append] at ho150
            have h4150 := holds_grownA hN148n149 hg150 hne149
            clear hg150
            refine hK.out _ _ (fun _ => hS) ?_
            clear hK K
            refine wpAnyG_two (i := 5) (j := 9) rfl rfl (by kernel_rfl) (by kernel_rfl) (by kernel_rfl) (fun K hK => ?_) (fun K hK => ?_)
            · skip
              refine wp_appA _ _ rfl W0.heap.size _ T1 rfl ho150 y m cb b rfl (hyW.below hb150) (by rw [hT1l]; omega) hb150.size ?_
              intro v151 u151 ho151 hg151
              have hb151 : Below W0.heap.size W0 u151 := below_grown hb150 ho150 hg151 hb150.size
              have h4151 := holds_grownL h4150 ho150 hg151 (by rw [hT1l]; decide)
              clear hg151
              refine hK.out _ _ (fun _ => hS) ?_
              clear hK K
              refine wpAnyG_two (i := 7) (j := 9) rfl rfl (by kernel_rfl) (by kernel_rfl) (by kernel_rfl) (fun K hK => ?_) (fun K hK => ?_)
              · skip
                refine wp_appA _ _ rfl W0.heap.size _ (T1 ++ b) rfl ho151 (some ⟨G148, 0, none⟩) 1 1 [2] rfl (h4151.bytes rfl (by simp)) (by rw [List.length_append, HBL.out, hT1l]; omega) hb151.size ?_
                intro v152 u152 ho152 hg152
                have hb152 : Below W0.heap.size W0 u152 := below_grown hb151 ho151 hg152 hb151.size
                rw [List.append_assoc] at ho152
                clear hg152
                refine hK.out _ _ (fun _ => hS) ?_
                clear hK K
                refine wpAnyG_two (i := 8) (j := 9) rfl rfl (by kernel_rfl) (by kernel_rfl) (by kernel_rfl) (fun K hK => ?_) (fun K hK => ?_)
                · skip
                  go_wp2_with (go_at_call 5; refine (hI _ _ _ (hBw.trans (hb152.mono hBw.size)) (hkW.below hb152 hkW.lt) ho152).mono ?_; rintro e u153 ⟨rfl, hx153⟩)
                  have hb153 : Below W0.heap.size W0 u153 := hb152.trans (hx153.mono hb152.size)
                  refine hK.out _ _ (fun _ => hS) ?_
                  clear hK K
                  refine wpAnyG_one (i := 9) rfl (by kernel_rfl) (by kernel_rfl) (fun K hK => ?_)
                  go_simp
                  have hN154 : Holds (u153.alloc (.cells (row .u8 (List.replicate 32 0)) 23)) u153.heap.size .u8 23 (List.replicate 32 0) := Holds.new u153 .u8 23 (List.replicate 32 0)
                  have hn154 : Below u153.heap.size u153 (u153.alloc (.cells (row .u8 (List.replicate 32 0)) 23)) := (Below.refl _ _).alloc (Nat.le_refl _) _
                  have hb154 : Below W0.heap.size W0 (u153.alloc (.cells (row .u8 (List.replicate 32 0)) 23)) := hb153.trans (hn154.mono hb153.size)
                  have hge154 := hb153.size
                  refine hK.out _ _ (fun _ => hS) ?_
                  clear hK K
                  obtain ⟨G154, hGe154⟩ : ∃ q, u153.heap.size = q := ⟨_, rfl⟩
                  obtain ⟨U154, hU154⟩ : ∃ q, u153.alloc (.cells (row .u8 (List.replicate 32 0)) 23) = q := ⟨_, rfl⟩
                  have hc154 : u153.alloc (.cells #[.int .u8 0, .int .u8 0, .int .u8 0, .int .u8 0, .int .u8 0, .int .u8 0, .int .u8 0, .int .u8 0, .int .u8 0, .int .u8 0, .int .u8 0, .int .u8 0, .int .u8 0, .int .u8 0, .int .u8 0, .int .u8 0, .int .u8 0, .int .u8 0, .int .u8 0, .int .u8 0, .int .u8 0, .int .u8 0, .int .u8 0, .int .u8 0, .int .u8 0, .int .u8 0, .int .u8 0, .int .u8 0, .int .u8 0, .int .u8 0, .int .u8 0, .int .u8 0] 23) = U154 := hU154
                  rw [hU154, hGe154] at hN154
                  rw [hU154] at hb154 
                  rw [hGe154] at hge154
                  rw [hc154, hGe154]
                  clear hGe154 hU154 hc154 hn154
                  refine wpAnyG_one (i := 10) rfl (by kernel_rfl) (by kernel_rfl) (fun K hK => ?_)
                  refine wp_st 23 _ _ rfl _ rfl rfl hN154 (by rw [hT2l]; exact sizeKey) (by simp [hT2l]) ?_
                  refine hK.out _ _ (fun h => absurd (show true = false from h) (by decide)) ?_
                  clear hK K
                  refine wpAnyG_done (by kernel_rfl) ?_ _
                  exact ⟨_, _, _, _, _, _, rfl, below_setRow hb154 hge154 _, hN154.setRow T2⟩
                · skip
                  go_simp
                  have hN155 : Holds (u152.alloc (.cells (row .u8 (List.replicate 32 0)) 23)) u152.heap.size .u8 23 (List.replicate 32 0) := Holds.new u152 .u8 23 (List.replicate 32 0)
                  have hn155 : Below u152.heap.size u152 (u152.alloc (.cells (row .u8 (List.replicate 32 0)) 23)) := (Below.refl _ _).alloc (Nat.le_refl _) _
                  have hb155 : Below W0.heap.size W0 (u152.alloc (.cells (row .u8 (List.replicate 32 0)) 23)) := hb152.trans (hn155.mono hb152.size)
                  have hge155 := hb152.size
                  have ho152n155 := ho152.belowM hn155
                  refine hK.out _ _ (fun _ => hS) ?_
                  clear hK K
                  obtain ⟨G155, hGe155⟩ : ∃ q, u152.heap.size = q := ⟨_, rfl⟩
                  obtain ⟨U155, hU155⟩ : ∃ q, u152.alloc (.cells (row .u8 (List.replicate 32 0)) 23) = q := ⟨_, rfl⟩
                  have hc155 : u152.alloc (.cells #[.int .u8 0, .int .u8 0, .int .u8 0, .int .u8 0, .int .u8 0, .int .u8 0, .int .u8 0, .int .u8 0, .int .u8 0, .int .u8 0, .int .u8 0, .int .u8 0, .int .u8 0, .int .u8 0, .int .u8 0, .int .u8 0, .int .u8 0, .int .u8 0, .int .u8 0, .int .u8 0, .int .u8 0, .int .u8 0, .int .u8 0, .int .u8 0, .int .u8 0, .int .u8 0, .int .u8 0, .int .u8 0, .int .u8 0, .int .u8 0, .int .u8 0, .int .u8 0] 23) = U155 := hU155
                  rw [hU155, hGe155] at hN155
                  rw [hU155] at hb155 ho152n155
                  rw [hGe155] at hge155
                  rw [hc155, hGe155]
                  clear hGe155 hU155 hc155 hn155
                  refine wpAnyG_one (i := 8) rfl (by kernel_rfl) (by kernel_rfl) (fun K hK => ?_)
                  go_wp2_with (go_at_call 5; refine (hI _ _ _ (hBw.trans (hb155.mono hBw.size)) (hkW.below hb155 hkW.lt) ho152n155).mono ?_; rintro e u156 ⟨rfl, hx156⟩)
                  have hb156 : Below W0.heap.size W0 u156 := hb155.trans (hx156.mono hb155.size)
                  have h7156 := hN155.below hx156 hN155.lt
                  refine hK.out _ _ (fun _ => hS) ?_
                  clear hK K
                  refine wpAnyG_one (i := 10) rfl (by kernel_rfl) (by kernel_rfl) (fun K hK => ?_)
                  refine wp_st 23 _ _ rfl _ rfl rfl h7156 (by rw [hT2l]; exact sizeKey) (by simp [hT2l]) ?_
                  refine hK.out _ _ (fun h => absurd (show true = false from h) (by decide)) ?_
                  clear hK K
                  refine wpAnyG_done (by kernel_rfl) ?_ _
                  exact ⟨_, _, _, _, _, _, rfl, below_setRow hb156 hge155 _, h7156.setRow T2⟩
              · skip
                go_simp
                have hN157 : Holds (u151.alloc (.cells (row .u8 (List.replicate 32 0)) 23)) u151.heap.size .u8 23 (List.replicate 32 0) := Holds.new u151 .u8 23 (List.replicate 32 0)
                have hn157 : Below u151.heap.size u151 (u151.alloc (.cells (row .u8 (List.replicate 32 0)) 23)) := (Below.refl _ _).alloc (Nat.le_refl _) _
                have hb157 : Below W0.heap.size W0 (u151.alloc (.cells (row .u8 (List.replicate 32 0)) 23)) := hb151.trans (hn157.mono hb151.size)
                have hge157 := hb151.size
                have ho151n157 := ho151.belowM hn157
                have h4151n157 := h4151.alloc (.cells (row .u8 (List.replicate 32 0)) 23)
                refine hK.out _ _ (fun _ => hS) ?_
                clear hK K
                obtain ⟨G157, hGe157⟩ : ∃ q, u151.heap.size = q := ⟨_, rfl⟩
                have hlt4157 := h4151.lt
                obtain ⟨U157, hU157⟩ : ∃ q, u151.alloc (.cells (row .u8 (List.replicate 32 0)) 23) = q := ⟨_, rfl⟩
                have hc157 : u151.alloc (.cells #[.int .u8 0, .int .u8 0, .int .u8 0, .int .u8 0, .int .u8 0, .int .u8 0, .int .u8 0, .int .u8 0, .int .u8 0, .int .u8 0, .int .u8 0, .int .u8 0, .int .u8 0, .int .u8 0, .int .u8 0, .int .u8 0, .int .u8 0, .int .u8 0, .int .u8 0, .int .u8 0, .int .u8 0, .int .u8 0, .int .u8 0, .int .u8 0, .int .u8 0, .int .u8 0, .int .u8 0, .int .u8 0, .int .u8 0, .int .u8 0, .int .u8 0, .int .u8 0] 23) = U157 := hU157
                rw [hU157, hGe157] at hN157
                rw [hU157] at hb157 ho151n157 h4151n157
                rw [hGe157] at hge157 hlt4157
                rw [hc157, hGe157]
                clear hGe157 hU157 hc157 hn157
                refine wpAnyG_one (i := 7) rfl (by kernel_rfl) (by kernel_rfl) (fun K hK => ?_)
                refine wp_appA _ _ rfl W0.heap.size _ (T1 ++ b) rfl ho151n157 (some ⟨G148, 0, none⟩) 1 1 [2] rfl (h4151n157.bytes rfl (by simp)) (by rw [List.length_append, HBL.out, hT1l]; omega) hb157.size ?_
                intro v158 u158 ho158 hg158
                have hb158 : Below W0.heap.size W0 u158 := below_grown hb157 ho151n157 hg158 hb157.size
                rw [List.append_assoc] at ho158
                have h7158 := holds_grown hN157 ho151n157 hg158 (by decide)
                clear hg158
                refine hK.out _ _ (fun _ => hS) ?_
                clear hK K
                refine wpAnyG_one (i := 8) rfl (by kernel_rfl) (by kernel_rfl) (fun K hK => ?_)
                go_wp2_with (go_at_call 5; refine (hI _ _ _ (hBw.trans (hb158.mono hBw.size)) (hkW.below hb158 hkW.lt) ho158).mono ?_; rintro e u159 ⟨rfl, hx159⟩)
                have hb159 : Below W0.heap.size W0 u159 := hb158.trans (hx159.mono hb158.size)
                have h7159 := h7158.below hx159 h7158.lt
                refine hK.out _ _ (fun _ => hS) ?_
                clear hK K
                refine wpAnyG_one (i := 10) rfl (by kernel_rfl) (by kernel_rfl) (fun K hK => ?_)
                refine wp_st 23 _ _ rfl _ rfl rfl h7159 (by rw [hT2l]; exact sizeKey) (by simp [hT2l]) ?_
                refine hK.out _ _ (fun h => absurd (show true = false from h) (by decide)) ?_
                clear hK K
                refine wpAnyG_done (by kernel_rfl) ?_ _
                exact ⟨_, _, _, _, _, _, rfl, below_setRow hb159 hge157 _, h7159.setRow T2⟩
            · skip
              go_simp
              have hN160 : Holds (u150.alloc (.cells (row .u8 (List.replicate 32 0)) 23)) u150.heap.size .u8 23 (List.replicate 32 0) := Holds.new u150 .u8 23 (List.replicate 32 0)
              have hn160 : Below u150.heap.size u150 (u150.alloc (.cells (row .u8 (List.replicate 32 0)) 23)) := (Below.refl _ _).alloc (Nat.le_refl _) _
              have hb160 : Below W0.heap.size W0 (u150.alloc (.cells (row .u8 (List.replicate 32 0)) 23)) := hb150.trans (hn160.mono hb150.size)
              have hge160 := hb150.size
              have ho150n160 := ho150.belowM hn160
              have h4150n160 := h4150.alloc (.cells (row .u8 (List.replicate 32 0)) 23)
              refine hK.out _ _ (fun _ => hS) ?_
              clear hK K
              obtain ⟨G160, hGe160⟩ : ∃ q, u150.heap.size = q := ⟨_, rfl⟩
              have hlt4160 := h4150.lt
              obtain ⟨U160, hU160⟩ : ∃ q, u150.alloc (.cells (row .u8 (List.replicate 32 0)) 23) = q := ⟨_, rfl⟩
              have hc160 : u150.alloc (.cells #[.int .u8 0, .int .u8 0, .int .u8 0, .int .u8 0, .int .u8 0, .int .u8 0, .int .u8 0, .int .u8 0, .int .u8 0, .int .u8 0, .int .u8 0, .int .u8 0, .int .u8 0, .int .u8 0, .int .u8 0, .int .u8 0, .int .u8 0, .int .u8 0, .int .u8 0, .int .u8 0, .int .u8 0, .int .u8 0, .int .u8 0, .int .u8 0, .int .u8 0, .int .u8 0, .int .u8 0, .int .u8 0, .int .u8 0, .int .u8 0, .int .u8 0, .int .u8 0] 23) = U160 := hU160
              rw [hU160, hGe160] at hN160
              rw [hU160] at hb160 ho150n160 h4150n160
              rw [hGe160] at hge160 hlt4160
              rw [hc160, hGe160]
              clear hGe160 hU160 hc160 hn160
              refine wpAnyG_one (i := 5) rfl (by kernel_rfl) (by kernel_rfl) (fun K hK => ?_)
              refine wp_appA _ _ rfl W0.heap.size _ T1 rfl ho150n160 y m cb b rfl (hyW.below hb160) (by rw [hT1l]; omega) hb160.size ?_
              intro v161 u161 ho161 hg161
              have hb161 : Below W0.heap.size W0 u161 := below_grown hb160 ho150n160 hg161 hb160.size
              have h4161 := holds_grownL h4150n160 ho150n160 hg161 (by rw [hT1l]; decide)
              have h7161 := holds_grown hN160 ho150n160 hg161 (by decide)
              clear hg161
              refine hK.out _ _ (fun _ => hS) ?_
              clear hK K
              refine wpAnyG_one (i := 7) rfl (by kernel_rfl) (by kernel_rfl) (fun K hK => ?_)
              refine wp_appA _ _ rfl W0.heap.size _ (T1 ++ b) rfl ho161 (some ⟨G148, 0, none⟩) 1 1 [2] rfl (h4161.bytes rfl (by simp)) (by rw [List.length_append, HBL.out, hT1l]; omega) hb161.size ?_
              intro v162 u162 ho162 hg162
              have hb162 : Below W0.heap.size W0 u162 := below_grown hb161 ho161 hg162 hb161.size
              rw [List.append_assoc] at ho162
              have h7162 := holds_grown h7161 ho161 hg162 (by decide)
              clear hg162
              refine hK.out _ _ (fun _ => hS) ?_
              clear hK K
              refine wpAnyG_one (i := 8) rfl (by kernel_rfl) (by kernel_rfl) (fun K hK => ?_)
              go_wp2_with (go_at_call 5; refine (hI _ _ _ (hBw.trans (hb162.mono hBw.size)) (hkW.below hb162 hkW.lt) ho162).mono ?_; rintro e u163 ⟨rfl, hx163⟩)
              have hb163 : Below W0.heap.size W0 u163 := hb162.trans (hx163.mono hb162.size)
              have h7163 := h7162.below hx163 h7162.lt
              refine hK.out _ _ (fun _ => hS) ?_
              clear hK K
              refine wpAnyG_one (i := 10) rfl (by kernel_rfl) (by kernel_rfl) (fun K hK => ?_)
              refine wp_st 23 _ _ rfl _ rfl rfl h7163 (by rw [hT2l]; exact sizeKey) (by simp [hT2l]) ?_
              refine hK.out _ _ (fun h => absurd (show true = false from h) (by decide)) ?_
              clear hK K
              refine wpAnyG_done (by kernel_rfl) ?_ _
              exact ⟨_, _, _, _, _, _, rfl, below_setRow hb163 hge160 _, h7163.setRow T2⟩
          · skip
            go_simp
            have hN164 : Holds (U149.alloc (.cells (row .u8 (List.replicate 32 0)) 23)) U149.heap.size .u8 23 (List.replicate 32 0) := Holds.new U149 .u8 23 (List.replicate 32 0)
            have hn164 : Below U149.heap.size U149 (U149.alloc (.cells (row .u8 (List.replicate 32 0)) 23)) := (Below.refl _ _).alloc (Nat.le_refl _) _
            have hb164 : Below W0.heap.size W0 (U149.alloc (.cells (row .u8 (List.replicate 32 0)) 23)) := hb149.trans (hn164.mono hb149.size)
            have hge164 := hb149.size
            have hO149n164 := hO149.belowM hn164
            have hN148n149n164 := hN148n149.alloc (.cells (row .u8 (List.replicate 32 0)) 23)
            refine hK.out _ _ (fun _ => hS) ?_
            clear hK K
            obtain ⟨G164, hGe164⟩ : ∃ q, U149.heap.size = q := ⟨_, rfl⟩
            have hlt4164 := hN148n149.lt
            have hlt1164 := hltg149
            obtain ⟨U164, hU164⟩ : ∃ q, U149.alloc (.cells (row .u8 (List.replicate 32 0)) 23) = q := ⟨_, rfl⟩
            have hc164 : U149.alloc (.cells #[.int .u8 0, .int .u8 0, .int .u8 0, .int .u8 0, .int .u8 0, .int .u8 0, .int .u8 0, .int .u8 0, .int .u8 0, .int .u8 0, .int .u8 0, .int .u8 0, .int .u8 0, .int .u8 0, .int .u8 0, .int .u8 0, .int .u8 0, .int .u8 0, .int .u8 0, .int .u8 0, .int .u8 0, .int .u8 0, .int .u8 0, .int .u8 0, .int .u8 0, .int .u8 0, .int .u8 0, .int .u8 0, .int .u8 0, .int .u8 0, .int .u8 0, .int .u8 0] 23) = U164 := hU164
            rw [hU164, hGe164] at hN164
            rw [hU164] at hb164 hO149n164 hN148n149n164
            rw [hGe164] at hge164 hlt4164 hlt1164
            rw [hc164, hGe164]
            have hltg164 : G149 < U164.heap.size := by rw [← hU164]; simp; omega
            clear hGe164 hU164 hc164 hn164
            refine wpAnyG_one (i := 3) rfl (by kernel_rfl) (by kernel_rfl) (fun K hK => ?_)
            refine wp_appA _ _ rfl W0.heap.size _ [] rfl hO149n164 (some ⟨GA, 0, none⟩) 32 32 T1 rfl (hAW.below hb164) (by simp) hb164.size ?_
            intro v165 u165 ho165 hg165
            have hb165 : Below W0.heap.size W0 u165 := below_grown hb164 hO149n164 hg165 hb164.size
            rw [List.nil_append] at ho165
            have h4165 := holds_grownA hN148n149n164 hg165 hne149
            have h7165 := holds_grown hN164 hO149n164 hg165 (by decide)
            clear hg165
            refine hK.out _ _ (fun _ => hS) ?_
            clear hK K
            refine wpAnyG_one (i := 5) rfl (by kernel_rfl) (by kernel_rfl) (fun K hK => ?_)
            refine wp_appA _ _ rfl W0.heap.size _ T1 rfl ho165 y m cb b rfl (hyW.below hb165) (by rw [hT1l]; omega) hb165.size ?_
            intro v166 u166 ho166 hg166
            have hb166 : Below W0.heap.size W0 u166 := below_grown hb165 ho165 hg166 hb165.size
            have h4166 := holds_grownL h4165 ho165 hg166 (by rw [hT1l]; decide)
            have h7166 := holds_grown h7165 ho165 hg166 (by decide)
            clear hg166
            refine hK.out _ _ (fun _ => hS) ?_
            clear hK K
            refine wpAnyG_one (i := 7) rfl (by kernel_rfl) (by kernel_rfl) (fun K hK => ?_)
            refine wp_appA _ _ rfl W0.heap.size _ (T1 ++ b) rfl ho166 (some ⟨G148, 0, none⟩) 1 1 [2] rfl (h4166.bytes rfl (by simp)) (by rw [List.length_append, HBL.out, hT1l]; omega) hb166.size ?_
            intro v167 u167 ho167 hg167
            have hb167 : Below W0.heap.size W0 u167 := below_grown hb166 ho166 hg167 hb166.size
            rw [List.append_assoc] at ho167
            have h7167 := holds_grown h7166 ho166 hg167 (by decide)
            clear hg167
            refine hK.out _ _ (fun _ => hS) ?_
            clear hK K
            refine wpAnyG_one (i := 8) rfl (by kernel_rfl) (by kernel_rfl) (fun K hK => ?_)
            go_wp2_with (go_at_call 5; refine (hI _ _ _ (hBw.trans (hb167.mono hBw.size)) (hkW.below hb167 hkW.lt) ho167).mono ?_; rintro e u168 ⟨rfl, hx168⟩)
            have hb168 : Below W0.heap.size W0 u168 := hb167.trans (hx168.mono hb167.size)
            have h7168 := h7167.below hx168 h7167.lt
            refine hK.out _ _ (fun _ => hS) ?_
            clear hK K
            refine wpAnyG_one (i := 10) rfl (by kernel_rfl) (by kernel_rfl) (fun K hK => ?_)
            refine wp_st 23 _ _ rfl _ rfl rfl h7168 (by rw [hT2l]; exact sizeKey) (by simp [hT2l]) ?_
            refine hK.out _ _ (fun h => absurd (show true = false from h) (by decide)) ?_
            clear hK K
            refine wpAnyG_done (by kernel_rfl) ?_ _
            exact ⟨_, _, _, _, _, _, rfl, below_setRow hb168 hge164 _, h7168.setRow T2⟩
        · skip
          go_simp
          have hN169 : Holds (U148.alloc (.cells (row .u8 (List.replicate 32 0)) 23)) U148.heap.size .u8 23 (List.replicate 32 0) := Holds.new U148 .u8 23 (List.replicate 32 0)
          have hn169 : Below U148.heap.size U148 (U148.alloc (.cells (row .u8 (List.replicate 32 0)) 23)) := (Below.refl _ _).alloc (Nat.le_refl _) _
          have hb169 : Below W0.heap.size W0 (U148.alloc (.cells (row .u8 (List.replicate 32 0)) 23)) := hb148.trans (hn169.mono hb148.size)
          have hge169 := hb148.size
          have hN148n169 := hN148.alloc (.cells (row .u8 (List.replicate 32 0)) 23)
          refine hK.out _ _ (fun _ => hS) ?_
          clear hK K
          obtain ⟨G169, hGe169⟩ : ∃ q, U148.heap.size = q := ⟨_, rfl⟩
          have hlt4169 := hN148.lt
          obtain ⟨U169, hU169⟩ : ∃ q, U148.alloc (.cells (row .u8 (List.replicate 32 0)) 23) = q := ⟨_, rfl⟩
          have hc169 : U148.alloc (.cells #[.int .u8 0, .int .u8 0, .int .u8 0, .int .u8 0, .int .u8 0, .int .u8 0, .int .u8 0, .int .u8 0, .int .u8 0, .int .u8 0, .int .u8 0, .int .u8 0, .int .u8 0, .int .u8 0, .int .u8 0, .int .u8 0, .int .u8 0, .int .u8 0, .int .u8 0, .int .u8 0, .int .u8 0, .int .u8 0, .int .u8 0, .int .u8 0, .int .u8 0, .int .u8 0, .int .u8 0, .int .u8 0, .int .u8 0, .int .u8 0, .int .u8 0, .int .u8 0] 23) = U169 := hU169
          rw [hU169, hGe169] at hN169
          rw [hU169] at hb169 hN148n169
          rw [hGe169] at hge169 hlt4169
          rw [hc169, hGe169]
          clear hGe169 hU169 hc169 hn169
          refine wpAnyG_one (i := 1) rfl (by kernel_rfl) (by kernel_rfl) (fun K hK => ?_)
          go_simp
          have hN170 : Holds (U169.alloc (.cells (row .u8 []) 5)) U169.heap.size .u8 5 [] := Holds.new U169 .u8 5 []
          have hn170 : Below U169.heap.size U169 (U169.alloc (.cells (row .u8 []) 5)) := (Below.refl _ _).alloc (Nat.le_refl _) _
          have hb170 : Below W0.heap.size W0 (U169.alloc (.cells (row .u8 []) 5)) := hb169.trans (hn170.mono hb169.size)
          have hge170 := hb169.size
          have hN148n169n170 := hN148n169.alloc (.cells (row .u8 []) 5)
          have hN169n170 := hN169.alloc (.cells (row .u8 []) 5)
          refine hK.out _ _ (fun _ => hS) ?_
          clear hK K
          obtain ⟨G170, hGe170⟩ : ∃ q, U169.heap.size = q := ⟨_, rfl⟩
          have hlt4170 := hN148n169.lt
          obtain ⟨U170, hU170⟩ : ∃ q, U169.alloc (.cells (row .u8 []) 5) = q := ⟨_, rfl⟩
          have hc170 : U169.alloc (.cells #[] 5) = U170 := hU170
          rw [hU170, hGe170] at hN170
          rw [hU170] at hb170 hN148n169n170 hN169n170
          rw [hGe170] at hge170 hlt4170
          rw [hc170, hGe170]
          have hO170 : OwnB U170 W0.heap.size (.slice (some ⟨G170, 0, none⟩) 0 0) [] := by rw [← hU170, ← hGe170]; exact ownB_empty U169 W0.heap.size hb169.size
          have hltg170 : G170 < U170.heap.size := hN170.lt
          have hne170 : G170 ≠ G148 := by omega
          clear hGe170 hU170 hc170 hn170
          refine wpAnyG_one (i := 3) rfl (by kernel_rfl) (by kernel_rfl) (fun K hK => ?_)
          refine wp_appA _ _ rfl W0.heap.size _ [] rfl hO170 (some ⟨GA, 0, none⟩) 32 32 T1 rfl (hAW.below hb170) (by simp) hb170.size ?_
          intro v171 u171 ho171 hg171
          have hb171 : Below W0.heap.size W0 u171 := below_grown hb170 hO170 hg171 hb170.size
          rw [List.nil_append] at ho171
          have h4171 := holds_grownA hN148n169n170 hg171 hne170
          have h7171 := holds_grown hN169n170 hO170 hg171 (by decide)
          clear hg171
          refine hK.out _ _ (fun _ => hS) ?_
          clear hK K
          refine wpAnyG_one (i := 5) rfl (by kernel_rfl) (by kernel_rfl) (fun K hK => ?_)
          refine wp_appA _ _ rfl W0.heap.size _ T1 rfl ho171 y m cb b rfl (hyW.below hb171) (by rw [hT1l]; omega) hb171.size ?_
          intro v172 u172 ho172 hg172
          have hb172 : Below W0.heap.size W0 u172 := below_grown hb171 ho171 hg172 hb171.size
          have h4172 := holds_grownL h4171 ho171 hg172 (by rw [hT1l]; decide)
          have h7172 := holds_grown h7171 ho171 hg172 (by decide)
          clear hg172
          refine hK.out _ _ (fun _ => hS) ?_
          clear hK K
          refine wpAnyG_one (i := 7) rfl (by kernel_rfl) (by kernel_rfl) (fun K hK => ?_)
          refine wp_appA _ _ rfl W0.heap.size _ (T1 ++ b) rfl ho172 (some ⟨G148, 0, none⟩) 1 1 [2] rfl (h4172.bytes rfl (by simp)) (by rw [List.length_append, HBL.out, hT1l]; omega) hb172.size ?_
          intro v173 u173 ho173 hg173
          have hb173 : Below W0.heap.size W0 u173 := below_grown hb172 ho172 hg173 hb172.size
          rw [List.append_assoc] at ho173
          have h7173 := holds_grown h7172 ho172 hg173 (by decide)
          clear hg173
          refine hK.out _ _ (fun _ => hS) ?_
          clear hK K
          refine wpAnyG_one (i := 8) rfl (by kernel_rfl) (by kernel_rfl) (fun K hK => ?_)
          go_wp2_with (go_at_call 5; refine (hI _ _ _ (hBw.trans (hb173.mono hBw.size)) (hkW.below hb173 hkW.lt) ho173).mono ?_; rintro e u174 ⟨rfl, hx174⟩)
          have hb174 : Below W0.heap.size W0 u174 := hb173.trans (hx174.mono hb173.size)
          have h7174 := h7173.below hx174 h7173.lt
          refine hK.out _ _ (fun _ => hS) ?_
          clear hK K
          refine wpAnyG_one (i := 10) rfl (by kernel_rfl) (by kernel_rfl) (fun K hK => ?_)
          refine wp_st 23 _ _ rfl _ rfl rfl h7174 (by rw [hT2l]; exact sizeKey) (by simp [hT2l]) ?_
          refine hK.out _ _ (fun h => absurd (show true = false from h) (by decide)) ?_
          clear hK K
          refine wpAnyG_done (by kernel_rfl) ?_ _
          exact ⟨_, _, _, _, _, _, rfl, below_setRow hb174 hge169 _, h7174.setRow T2⟩
      · skip
        go_simp
        have hN175 : Holds (D0.alloc (.cells (row .u8 (List.replicate 32 0)) 23)) D0.heap.size .u8 23 (List.replicate 32 0) := Holds.new D0 .u8 23 (List.replicate 32 0)
        have hn175 : Below D0.heap.size D0 (D0.alloc (.cells (row .u8 (List.replicate 32 0)) 23)) := (Below.refl _ _).alloc (Nat.le_refl _) _
        have hb175 : Below W0.heap.size W0 (D0.alloc (.cells (row .u8 (List.replicate 32 0)) 23)) := hb0.trans (hn175.mono hb0.size)
        have hge175 := hb0.size
        refine hK.out _ _ (fun _ => hS) ?_
        clear hK K
        obtain ⟨G175, hGe175⟩ : ∃ q, D0.heap.size = q := ⟨_, rfl⟩
        obtain ⟨U175, hU175⟩ : ∃ q, D0.alloc (.cells (row .u8 (List.replicate 32 0)) 23) = q := ⟨_, rfl⟩
        have hc175 : D0.alloc (.cells #[.int .u8 0, .int .u8 0, .int .u8 0, .int .u8 0, .int .u8 0, .int .u8 0, .int .u8 0, .int .u8 0, .int .u8 0, .int .u8 0, .int .u8 0, .int .u8 0, .int .u8 0, .int .u8 0, .int .u8 0, .int .u8 0, .int .u8 0, .int .u8 0, .int .u8 0, .int .u8 0, .int .u8 0, .int .u8 0, .int .u8 0, .int .u8 0, .int .u8 0, .int .u8 0, .int .u8 0, .int .u8 0, .int .u8 0, .int .u8 0, .int .u8 0, .int .u8 0] 23) = U175 := hU175
        rw [hU175, hGe175] at hN175
        rw [hU175] at hb175 
        rw [hGe175] at hge175
        rw [hc175, hGe175]
        clear hGe175 hU175 hc175 hn175
        refine wpAnyG_two (i := 1) (j := 6) rfl rfl (by kernel_rfl) (by kernel_rfl) (by kernel_rfl) (fun K hK => ?_) (fun K hK => ?_)
        · skip
          go_simp
          have hN176 : Holds (U175.alloc (.cells (row .u8 []) 5)) U175.heap.size .u8 5 [] := Holds.new U175 .u8 5 []
          have hn176 : Below U175.heap.size U175 (U175.alloc (.cells (row .u8 []) 5)) := (Below.refl _ _).alloc (Nat.le_refl _) _
          have hb176 : Below W0.heap.size W0 (U175.alloc (.cells (row .u8 []) 5)) := hb175.trans (hn176.mono hb175.size)
          have hge176 := hb175.size
          have hN175n176 := hN175.alloc (.cells (row .u8 []) 5)
          refine hK.out _ _ (fun _ => hS) ?_
          clear hK K
          obtain ⟨G176, hGe176⟩ : ∃ q, U175.heap.size = q := ⟨_, rfl⟩
          obtain ⟨U176, hU176⟩ : ∃ q, U175.alloc (.cells (row .u8 []) 5) = q := ⟨_, rfl⟩
          have hc176 : U175.alloc (.cells #[] 5) = U176 := hU176
          rw [hU176, hGe176] at hN176
          rw [hU176] at hb176 hN175n176
          rw [hGe176] at hge176
          rw [hc176, hGe176]
          have hO176 : OwnB U176 W0.heap.size (.slice (some ⟨G176, 0, none⟩) 0 0) [] := by rw [← hU176, ← hGe176]; exact ownB_empty U175 W0.heap.size hb175.size
          have hltg176 : G176 < U176.heap.size := hN176.lt
          clear hGe176 hU176 hc176 hn176
          refine wpAnyG_two (i := 3) (j := 6) rfl rfl (by kernel_rfl) (by kernel_rfl) (by kernel_rfl) (fun K hK => ?_) (fun K hK => ?_)
          · skip
            refine wp_appA _ _ rfl W0.heap.size _ [] rfl hO176 (some ⟨GA, 0, none⟩) 32 32 T1 rfl (hAW.below hb176) (by simp) hb176.size ?_
            intro v177 u177 ho177 hg177
            have hb177 : Below W0.heap.size W0 u177 := below_grown hb176 hO176 hg177 hb176.size
            rw [List.nil_append] at ho177
            have h7177 := holds_grown hN175n176 hO176 hg177 (by decide)
            clear hg177
            refine hK.out _ _ (fun _ => hS) ?_
            clear hK K
            refine wpAnyG_two (i := 5) (j := 6) rfl rfl (by kernel_rfl) (by kernel_rfl) (by kernel_rfl) (fun K hK => ?_) (fun K hK => ?_)
            · skip
              refine wp_appA _ _ rfl W0.heap.size _ T1 rfl ho177 y m cb b rfl (hyW.below hb177) (by rw [hT1l]; omega) hb177.size ?_
              intro v178 u178 ho178 hg178
              have hb178 : Below W0.heap.size W0 u178 := below_grown hb177 ho177 hg178 hb177.size
              have h7178 := holds_grown h7177 ho177 hg178 (by decide)
              clear hg178
              refine hK.out _ _ (fun _ => hS) ?_
              clear hK K
              refine wpAnyG_one (i := 6) rfl (by kernel_rfl) (by kernel_rfl) (fun K hK => ?_)
              go_simp
              have hN179 : Holds (u178.alloc (.cells (row .u8 [2]) 5)) u178.heap.size .u8 5 [2] := Holds.new u178 .u8 5 [2]
              have hn179 : Below u178.heap.size u178 (u178.alloc (.cells (row .u8 [2]) 5)) := (Below.refl _ _).alloc (Nat.le_refl _) _
              have hb179 : Below W0.heap.size W0 (u178.alloc (.cells (row .u8 [2]) 5)) := hb178.trans (hn179.mono hb178.size)
              have hge179 := hb178.size
              have ho178n179 := ho178.belowM hn179
              have h7178n179 := h7178.alloc (.cells (row .u8 [2]) 5)
              refine hK.out _ _ (fun _ => hS) ?_
              clear hK K
              obtain ⟨G179, hGe179⟩ : ∃ q, u178.heap.size = q := ⟨_, rfl⟩
              obtain ⟨U179, hU179⟩ : ∃ q, u178.alloc (.cells (row .u8 [2]) 5) = q := ⟨_, rfl⟩
              have hc179 : u178.alloc (.cells #[.int .u8 2] 5) = U179 := hU179
              rw [hU179, hGe179] at hN179
              rw [hU179] at hb179 ho178n179 h7178n179
              rw [hGe179] at hge179
              rw [hc179, hGe179]
              clear hGe179 hU179 hc179 hn179
              refine wpAnyG_one (i := 7) rfl (by kernel_rfl) (by kernel_rfl) (fun K hK => ?_)
              refine wp_appA _ _ rfl W0.heap.size _ (T1 ++ b) rfl ho178n179 (some ⟨G179, 0, none⟩) 1 1 [2] rfl (hN179.bytes rfl (by simp)) (by rw [List.length_append, HBL.out, hT1l]; omega) hb179.size ?_
              intro v180 u180 ho180 hg180
              have hb180 : Below W0.heap.size W0 u180 := below_grown hb179 ho178n179 hg180 hb179.size
              rw [List.append_assoc] at ho180
              have h7180 := holds_grown h7178n179 ho178n179 hg180 (by decide)
              clear hg180
              refine hK.out _ _ (fun _ => hS) ?_
              clear hK K
              refine wpAnyG_one (i := 8) rfl (by kernel_rfl) (by kernel_rfl) (fun K hK => ?_)
              go_wp2_with (go_at_call 5; refine (hI _ _ _ (hBw.trans (hb180.mono hBw.size)) (hkW.below hb180 hkW.lt) ho180).mono ?_; rintro e u181 ⟨rfl, hx181⟩)
              have hb181 : Below W0.heap.size W0 u181 := hb180.trans (hx181.mono hb180.size)
              have h7181 := h7180.below hx181 h7180.lt
              refine hK.out _ _ (fun _ => hS) ?_
              clear hK K
              refine wpAnyG_one (i := 10) rfl (by kernel_rfl) (by kernel_rfl) (fun K hK => ?_)
              refine wp_st 23 _ _ rfl _ rfl rfl h7181 (by rw [hT2l]; exact sizeKey) (by simp [hT2l]) ?_
              refine hK.out _ _ (fun h => absurd (show true = false from h) (by decide)) ?_
              clear hK K
              refine wpAnyG_done (by kernel_rfl) ?_ _
              exact ⟨_, _, _, _, _, _, rfl, below_setRow hb181 hge175 _, h7181.setRow T2⟩
            · skip
              go_simp
              have hN182 : Holds (u177.alloc (.cells (row .u8 [2]) 5)) u177.heap.size .u8 5 [2] := Holds.new u177 .u8 5 [2]
              have hn182 : Below u177.heap.size u177 (u177.alloc (.cells (row .u8 [2]) 5)) := (Below.refl _ _).alloc (Nat.le_refl _) _
              have hb182 : Below W0.heap.size W0 (u177.alloc (.cells (row .u8 [2]) 5)) := hb177.trans (hn182.mono hb177.size)
              have hge182 := hb177.size
              have ho177n182 := ho177.belowM hn182
              have h7177n182 := h7177.alloc (.cells (row .u8 [2]) 5)
              refine hK.out _ _ (fun _ => hS) ?_
              clear hK K
              obtain ⟨G182, hGe182⟩ : ∃ q, u177.heap.size = q := ⟨_, rfl⟩
              obtain ⟨U182, hU182⟩ : ∃ q, u177.alloc (.cells (row .u8 [2]) 5) = q := ⟨_, rfl⟩
              have hc182 : u177.alloc (.cells #[.int .u8 2] 5) = U182 := hU182
              rw [hU182, hGe182] at hN182
              rw [hU182] at hb182 ho177n182 h7177n182
              rw [hGe182] at hge182
              rw [hc182, hGe182]
              clear hGe182 hU182 hc182 hn182
              refine wpAnyG_one (i := 5) rfl (by kernel_rfl) (by kernel_rfl) (fun K hK => ?_)
              refine wp_appA _ _ rfl W0.heap.size _ T1 rfl ho177n182 y m cb b rfl (hyW.below hb182) (by rw [hT1l]; omega) hb182.size ?_
              intro v183 u183 ho183 hg183
              have hb183 : Below W0.heap.size W0 u183 := below_grown hb182 ho177n182 hg183 hb182.size
              have h4183 := holds_grownL hN182 ho177n182 hg183 (by rw [hT1l]; decide)
              have h7183 := holds_grown h7177n182 ho177n182 hg183 (by decide)
              clear hg183
              refine hK.out _ _ (fun _ => hS) ?_
              clear hK K
              refine wpAnyG_one (i := 7) rfl (by kernel_rfl) (by kernel_rfl) (fun K hK => ?_)
              refine wp_appA _ _ rfl W0.heap.size _ (T1 ++ b) rfl ho183 (some ⟨G182, 0, none⟩) 1 1 [2] rfl (h4183.bytes rfl (by simp)) (by rw [List.length_append, HBL.out, hT1l]; omega) hb183.size ?_
              intro v184 u184 ho184 hg184
              have hb184 : Below W0.heap.size W0 u184 := below_grown hb183 ho183 hg184 hb183.size
              rw [List.append_assoc] at ho184
              have h7184 := holds_grown h7183 ho183 hg184 (by decide)
              clear hg184
              refine hK.out _ _ (fun _ => hS) ?_
              clear hK K
              refine wpAnyG_one (i := 8) rfl (by kernel_rfl) (by kernel_rfl) (fun K hK => ?_)
              go_wp2_with (go_at_call 5; refine (hI _ _ _ (hBw.trans (hb184.mono hBw.size)) (hkW.below hb184 hkW.lt) ho184).mono ?_; rintro e u185 ⟨rfl, hx185⟩)
              have hb185 : Below W0.heap.size W0 u185 := hb184.trans (hx185.mono hb184.size)
              have h7185 := h7184.below hx185 h7184.lt
              refine hK.out _ _ (fun _ => hS) ?_
              clear hK K
              refine wpAnyG_one (i := 10) rfl (by kernel_rfl) (by kernel_rfl) (fun K hK => ?_)
              refine wp_st 23 _ _ rfl _ rfl rfl h7185 (by rw [hT2l]; exact sizeKey) (by simp [hT2l]) ?_
              refine hK.out _ _ (fun h => absurd (show true = false from h) (by decide)) ?_
              clear hK K
              refine wpAnyG_done (by kernel_rfl) ?_ _
              exact ⟨_, _, _, _, _, _, rfl, below_setRow hb185 hge175 _, h7185.setRow T2⟩
          · skip
            go_simp
            have hN186 : Holds (U176.alloc (.cells (row .u8 [2]) 5)) U176.heap.size .u8 5 [2] := Holds.new U176 .u8 5 [2]
            have hn186 : Below U176.heap.size U176 (U176.alloc (.cells (row .u8 [2]) 5)) := (Below.refl _ _).alloc (Nat.le_refl _) _
            have hb186 : Below W0.heap.size W0 (U176.alloc (.cells (row .u8 [2]) 5)) := hb176.trans (hn186.mono hb176.size)
            have hge186 := hb176.size
            have hO176n186 := hO176.belowM hn186
            have hN175n176n186 := hN175n176.alloc (.cells (row .u8 [2]) 5)
            refine hK.out _ _ (fun _ => hS) ?_
            clear hK K
            obtain ⟨G186, hGe186⟩ : ∃ q, U176.heap.size = q := ⟨_, rfl⟩
            have hlt1186 := hltg176
            obtain ⟨U186, hU186⟩ : ∃ q, U176.alloc (.cells (row .u8 [2]) 5) = q := ⟨_, rfl⟩
            have hc186 : U176.alloc (.cells #[.int .u8 2] 5) = U186 := hU186
            rw [hU186, hGe186] at hN186
            rw [hU186] at hb186 hO176n186 hN175n176n186
            rw [hGe186] at hge186 hlt1186
            rw [hc186, hGe186]
            have hne186 : G176 ≠ G186 := by omega
            have hltg186 : G176 < U186.heap.size := by rw [← hU186]; simp; omega
            clear hGe186 hU186 hc186 hn186
            refine wpAnyG_one (i := 3) rfl (by kernel_rfl) (by kernel_rfl) (fun K hK => ?_)
            refine wp_appA _ _ rfl W0.heap.size _ [] rfl hO176n186 (some ⟨GA, 0, none⟩) 32 32 T1 rfl (hAW.below hb186) (by simp) hb186.size ?_
            intro v187 u187 ho187 hg187
            have hb187 : Below W0.heap.size W0 u187 := below_grown hb186 hO176n186 hg187 hb186.size
            rw [List.nil_append] at ho187
            have h4187 := holds_grownA hN186 hg187 hne186
            have h7187 := holds_grown hN175n176n186 hO176n186 hg187 (by decide)
            clear hg187
            refine hK.out _ _ (fun _ => hS) ?_
            clear hK K
            refine wpAnyG_one (i := 5) rfl (by kernel_rfl) (by kernel_rfl) (fun K hK => ?_)
            refine wp_appA _ _ rfl W0.heap.size _ T1 rfl ho187 y m cb b rfl (hyW.below hb187) (by rw [hT1l]; omega) hb187.size ?_
            intro v188 u188 ho188 hg188
            have hb188 : Below W0.heap.size W0 u188 := below_grown hb187 ho187 hg188 hb187.size
            have h4188 := holds_grownL h4187 ho187 hg188 (by rw [hT1l]; decide)
            have h7188 := holds_grown h7187 ho187 hg188 (by decide)
            clear hg188
            refine hK.out _ _ (fun _ => hS) ?_
            clear hK K
            refine wpAnyG_one (i := 7) rfl (by kernel_rfl) (by kernel_rfl) (fun K hK => ?_)
            refine wp_appA _ _ rfl W0.heap.size _ (T1 ++ b) rfl ho188 (some ⟨G186, 0, none⟩) 1 1 [2] rfl (h4188.bytes rfl (by simp)) (by rw [List.length_append, HBL.out, hT1l]; omega) hb188.size ?_
            intro v189 u189 ho189 hg189
            have hb189 : Below W0.heap.size W0 u189 := below_grown hb188 ho188 hg189 hb188.size
            rw [List.append_assoc] at ho189
            have h7189 := holds_grown h7188 ho188 hg189 (by decide)
            clear hg189
            refine hK.out _ _ (fun _ => hS) ?_
            clear hK K
            refine wpAnyG_one (i := 8) rfl (by kernel_rfl) (by kernel_rfl) (fun K hK => ?_)
            go_wp2_with (go_at_call 5; refine (hI _ _ _ (hBw.trans (hb189.mono hBw.size)) (hkW.below hb189 hkW.lt) ho189).mono ?_; rintro e u190 ⟨rfl, hx190⟩)
            have hb190 : Below W0.heap.size W0 u190 := hb189.trans (hx190.mono hb189.size)
            have h7190 := h7189.below hx190 h7189.lt
            refine hK.out _ _ (fun _ => hS) ?_
            clear hK K
            refine wpAnyG_one (i := 10) rfl (by kernel_rfl) (by kernel_rfl) (fun K hK => ?_)
            refine wp_st 23 _ _ rfl _ rfl rfl h7190 (by rw [hT2l]; exact sizeKey) (by simp [hT2l]) ?_
            refine hK.out _ _ (fun h => absurd (show true = false from h) (by decide)) ?_
            clear hK K
            refine wpAnyG_done (by kernel_rfl) ?_ _
            exact ⟨_, _, _, _, _, _, rfl, below_setRow hb190 hge175 _, h7190.setRow T2⟩
        · skip
          go_simp
          have hN191 : Holds (U175.alloc (.cells (row .u8 [2]) 5)) U175.heap.size .u8 5 [2] := Holds.new U175 .u8 5 [2]
          have hn191 : Below U175.heap.size U175 (U175.alloc (.cells (row .u8 [2]) 5)) := (Below.refl _ _).alloc (Nat.le_refl _) _
          have hb191 : Below W0.heap.size W0 (U175.alloc (.cells (row .u8 [2]) 5)) := hb175.trans (hn191.mono hb175.size)
          have hge191 := hb175.size
          have hN175n191 := hN175.alloc (.cells (row .u8 [2]) 5)
          refine hK.out _ _ (fun _ => hS) ?_
          clear hK K
          obtain ⟨G191, hGe191⟩ : ∃ q, U175.heap.size = q := ⟨_, rfl⟩
          obtain ⟨U191, hU191⟩ : ∃ q, U175.alloc (.cells (row .u8 [2]) 5) = q := ⟨_, rfl⟩
          have hc191 : U175.alloc (.cells #[.int .u8 2] 5) = U191 := hU191
          rw [hU191, hGe191] at hN191
          rw [hU191] at hb191 hN175n191
          rw [hGe191] at hge191
          rw [hc191, hGe191]
          clear hGe191 hU191 hc191 hn191
          refine wpAnyG_one (i := 1) rfl (by kernel_rfl) (by kernel_rfl) (fun K hK => ?_)
          go_simp
          have hN192 : Holds (U191.alloc (.cells (row .u8 []) 5)) U191.heap.size .u8 5 [] := Holds.new U191 .u8 5 []
          have hn192 : Below U191.heap.size U191 (U191.alloc (.cells (row .u8 []) 5)) := (Below.refl _ _).alloc (Nat.le_refl _) _
          have hb192 : Below W0.heap.size W0 (U191.alloc (.cells (row .u8 []) 5)) := hb191.trans (hn192.mono hb191.size)
          have hge192 := hb191.size
          have hN191n192 := hN191.alloc (.cells (row .u8 []) 5)
          have hN175n191n192 := hN175n191.alloc (.cells (row .u8 []) 5)
          refine hK.out _ _ (fun _ => hS) ?_
          clear hK K
          obtain ⟨G192, hGe192⟩ : ∃ q, U191.heap.size = q := ⟨_, rfl⟩
          have hlt4192 := hN191.lt
          obtain ⟨U192, hU192⟩ : ∃ q, U191.alloc (.cells (row .u8 []) 5) = q := ⟨_, rfl⟩
          have hc192 : U191.alloc (.cells #[] 5) = U192 := hU192
          rw [hU192, hGe192] at hN192
          rw [hU192] at hb192 hN191n192 hN175n191n192
          rw [hGe192] at hge192 hlt4192
          rw [hc192, hGe192]
          have hO192 : OwnB U192 W0.heap.size (.slice (some ⟨G192, 0, none⟩) 0 0) [] := by rw [← hU192, ← hGe192]; exact ownB_empty U191 W0.heap.size hb191.size
          have hltg192 : G192 < U192.heap.size := hN192.lt
          have hne192 : G192 ≠ G191 := by omega
          clear hGe192 hU192 hc192 hn192
          refine wpAnyG_one (i := 3) rfl (by kernel_rfl) (by kernel_rfl) (fun K hK => ?_)
          refine wp_appA _ _ rfl W0.heap.size _ [] rfl hO192 (some ⟨GA, 0, none⟩) 32 32 T1 rfl (hAW.below hb192) (by simp) hb192.size ?_
          intro v193 u193 ho193 hg193
          have hb193 : Below W0.heap.size W0 u193 := below_grown hb192 hO192 hg193 hb192.size
          rw [List.nil_append] at ho193
          have h4193 := holds_grownA hN191n192 hg193 hne192
          have h7193 := holds_grown hN175n191n192 hO192 hg193 (by decide)
          clear hg193
          refine hK.out _ _ (fun _ => hS) ?_
          clear hK K
          refine wpAnyG_one (i := 5) rfl (by kernel_rfl) (by kernel_rfl) (fun K hK => ?_)
          refine wp_appA _ _ rfl W0.heap.size _ T1 rfl ho193 y m cb b rfl (hyW.below hb193) (by rw [hT1l]; omega) hb193.size ?_
          intro v194 u194 ho194 hg194
          have hb194 : Below W0.heap.size W0 u194 := below_grown hb193 ho193 hg194 hb193.size
          have h4194 := holds_grownL h4193 ho193 hg194 (by rw [hT1l]; decide)
          have h7194 := holds_grown h7193 ho193 hg194 (by decide)
          clear hg194
          refine hK.out _ _ (fun _ => hS) ?_
          clear hK K
          refine wpAnyG_one (i := 7) rfl (by kernel_rfl) (by kernel_rfl) (fun K hK => ?_)
          refine wp_appA _ _ rfl W0.heap.size _ (T1 ++ b) rfl ho194 (some ⟨G191, 0, none⟩) 1 1 [2] rfl (h4194.bytes rfl (by simp)) (by rw [List.length_append, HBL.out, hT1l]; omega) hb194.size ?_
          intro v195 u195 ho195 hg195
          have hb195 : Below W0.heap.size W0 u195 := below_grown hb194 ho194 hg195 hb194.size
          rw [List.append_assoc] at ho195
          have h7195 := holds_grown h7194 ho194 hg195 (by decide)
          clear hg195
          refine hK.out _ _ (fun _ => hS) ?_
          clear hK K
          refine wpAnyG_one (i := 8) rfl (by kernel_rfl) (by kernel_rfl) (fun K hK => ?_)
          go_wp2_with (go_at_call 5; refine (hI _ _ _ (hBw.trans (hb195.mono hBw.size)) (hkW.below hb195 hkW.lt) ho195).mono ?_; rintro e u196 ⟨rfl, hx196⟩)
          have hb196 : Below W0.heap.size W0 u196 := hb195.trans (hx196.mono hb195.size)
          have h7196 := h7195.below hx196 h7195.lt
          refine hK.out _ _ (fun _ => hS) ?_
          clear hK K
          refine wpAnyG_one (i := 10) rfl (by kernel_rfl) (by kernel_rfl) (fun K hK => ?_)
          refine wp_st 23 _ _ rfl _ rfl rfl h7196 (by rw [hT2l]; exact sizeKey) (by simp [hT2l]) ?_
          refine hK.out _ _ (fun h => absurd (show true = false from h) (by decide)) ?_
          clear hK K
          refine wpAnyG_done (by kernel_rfl) ?_ _
          exact ⟨_, _, _, _, _, _, rfl, below_setRow hb196 hge175 _, h7196.setRow T2⟩
    · rintro a W ⟨u19, u21, u23, u24, u25, GB, rfl, hbB, hGB⟩
      have hBw2 : Below w.heap.size w W := hBw.trans (hbB.mono hBw.size)
      have hkW2 := hkW.below hbB hkW.lt
      have hGA2 := hGA.below hbB hGA.lt
      have hX1 := hX W hBw2
      clear hX hI hAW hyW hkW hGA hbB hBw
      go_upto_region 5 with (first
        | (refine wpList_ld rfl 23 _ rfl _ rfl hkW2 Tryd.underlying23 sizeKey hk ?_)
        | (go_at_call 6; refine hX1.mono ?_; rintro e w2 ⟨g, ca, rfl, hyA, hb2⟩))
      have hB3 : Below w.heap.size w w2 := hBw2.trans (hb2.mono hBw2.size)
      have hA3 := hGA2.below hb2 hGA2.lt
      have hB3' := hGB.below hb2 hGB.lt
      have hle := hyA.le
      have htop := hyA.top
      have c1 : Bytes w2 (some ⟨g, 0, none⟩) 32 ca T1 := by
        have := hyA.cut 0 32 (by omega) (by omega)
        rw [List.drop_zero, Nat.sub_zero, Nat.sub_zero, List.take_left' hT1l, show subA (some ⟨g, 0, none⟩) ca 0 = some ⟨g, 0, none⟩ by unfold subA; split <;> rfl] at this
        exact this
      have c2 : Bytes w2 (some ⟨g, 32, none⟩) 32 (ca - 32) T2 := by
        have := hyA.cut 32 64 (by omega) (by omega)
        rw [List.drop_left' hT1l, show 64 - 32 = 32 from rfl, List.take_of_length_le (by omega), show subA (some ⟨g, 0, none⟩) ca 32 = some ⟨g, 32, none⟩ by unfold subA; rw [if_neg (by omega), Option.map_some, Addr.add_mid']] at this
        exact this
      have k1 : ∀ wx, (Instr.slice 24 (.slice (some ⟨g, 0, none⟩) 64 ca) none (some (.int .i64 32)) none).run Tryd.prog wx = .ok (.slice (some ⟨g, 0, none⟩) 32 ca) wx := fun wx => by
        have := run_cut_h wx (some ⟨g, 0, none⟩) 64 ca 32 (by omega)
        rw [show subA (some ⟨g, 0, none⟩) ca 0 = some ⟨g, 0, none⟩ by unfold subA; split <;> rfl] at this
        exact this
      have k2 : ∀ wx, (Instr.slice 24 (.slice (some ⟨g, 0, none⟩) 64 ca) (some (.int .i64 32)) none none).run Tryd.prog wx = .ok (.slice (some ⟨g, 32, none⟩) 32 (ca - 32)) wx := fun wx => by
        have := run_cut_l wx (some ⟨g, 0, none⟩) 64 ca 32 (by omega)
        rw [show subA (some ⟨g, 0, none⟩) ca 32 = some ⟨g, 32, none⟩ by unfold subA; rw [if_neg (by omega), Option.map_some, Addr.add_mid']] at this
        exact this
      have q1 := fun wx (h : Below w2.heap.size w2 wx) => equal_below (some ⟨g, 0, none⟩) 32 ca T1 (some ⟨GA, 0, none⟩) 32 32 wx (c1.below h) ((hA3.below h hA3.lt).bytes hT1l.symm (by omega)) hT1u
      have q2 := fun wx (h : Below w2.heap.size w2 wx) => equal_below (some ⟨g, 32, none⟩) 32 (ca - 32) T2 (some ⟨GB, 0, none⟩) 32 32 wx (c2.below h) ((hB3'.below h hB3'.lt).bytes hT2l.symm (by omega)) hT2u
      clear hX1 c1 c2 hyA hGA2 hGB hA3 hB3' hT1u hT2u hkW2
      refine wp_region_gate (fun _ => True) 19 (by kernel_rfl) ?_
      have hS : (fun _ : World => True) w2.drew := trivial
      refine wpAnyG_any (i := 0) (v := ?_) rfl (by kernel_rfl) (by kernel_rfl) (by kernel_rfl) (fun _ _ _ h => h) (by kernel_rfl) (fun _ => hS) (by kernel_rfl) ?_ ?_
      rotate_left
      · intro _; go_simp; try with_reducible rfl
      simp only [Act.put, List.setIfInBounds_toArray, List.set_cons_zero, List.set_cons_succ]
      refine wpAnyG_any (i := 1) (v := .bool true) rfl (by kernel_rfl) (by kernel_rfl) (by kernel_rfl) (fun _ _ _ h => h) (by kernel_rfl) (fun _ => hS) (by kernel_rfl) ?_ ?_
      · intro _; go_simp
      simp only [Act.put, List.setIfInBounds_toArray, List.set_cons_zero, List.set_cons_succ]
      refine wpAnyG_any (i := 2) (v := .bool true) rfl (by kernel_rfl) (by kernel_rfl) (by kernel_rfl) (fun _ _ _ h => h) (by kernel_rfl) (fun _ => hS) (by kernel_rfl) ?_ ?_
      · intro _; go_simp
      simp only [Act.put, List.setIfInBounds_toArray, List.set_cons_zero, List.set_cons_succ]
      refine wpAnyG_any (i := 3) (v := ?_) rfl (by kernel_rfl) (by kernel_rfl) (by kernel_rfl) (fun _ _ _ h => h) (by kernel_rfl) (fun _ => hS) (by kernel_rfl) ?_ ?_
      rotate_left
      · intro _; go_simp; try with_reducible rfl
      simp only [Act.put, List.setIfInBounds_toArray, List.set_cons_zero, List.set_cons_succ]
      refine wpAnyG_any (i := 4) (v := ?_) rfl (by kernel_rfl) (by kernel_rfl) (by kernel_rfl) (fun _ _ _ h => h) (by kernel_rfl) (fun _ => hS) (by kernel_rfl) ?_ ?_
      rotate_left
      · intro _; go_simp; try with_reducible rfl
      simp only [Act.put, List.setIfInBounds_toArray, List.set_cons_zero, List.set_cons_succ]
      refine wpAnyG_any (i := 5) (v := .bool true) rfl (by kernel_rfl) (by kernel_rfl) (by kernel_rfl) (fun _ _ _ h => h) (by kernel_rfl) (fun _ => hS) (by kernel_rfl) ?_ ?_
      · intro _; go_simp
      simp only [Act.put, List.setIfInBounds_toArray, List.set_cons_zero, List.set_cons_succ]
      refine wpAnyG_any (i := 6) (v := .bool true) rfl (by kernel_rfl) (by kernel_rfl) (by kernel_rfl) (fun _ _ _ h => h) (by kernel_rfl) (fun _ => hS) (by kernel_rfl) ?_ ?_
      · intro _; go_simp
      simp only [Act.put, List.setIfInBounds_toArray, List.set_cons_zero, List.set_cons_succ]
      refine wpAnyG_any (i := 7) (v := .bool true) rfl (by kernel_rfl) (by kernel_rfl) (by kernel_rfl) (fun _ _ _ h => h) (by kernel_rfl) (fun _ => hS) (by kernel_rfl) ?_ ?_
      · intro _; go_simp
      simp only [Act.put, List.setIfInBounds_toArray, List.set_cons_zero, List.set_cons_succ]
      refine wpAnyG_any (i := 8) (v := ?_) rfl (by kernel_rfl) (by kernel_rfl) (by kernel_rfl) (fun _ _ _ h => h) (by kernel_rfl) (fun _ => hS) (by kernel_rfl) ?_ ?_
      rotate_left
      · intro _; go_simp; try with_reducible rfl
      simp only [Act.put, List.setIfInBounds_toArray, List.set_cons_zero, List.set_cons_succ]
      refine wpAnyG_any (i := 9) (v := .slice (some ⟨g, 0, none⟩) 32 ca) rfl (by kernel_rfl) (by kernel_rfl) (by kernel_rfl) (fun _ _ _ h => h) (by kernel_rfl) (fun _ => hS) (by kernel_rfl) ?_ ?_
      · intro _; go_simp
      simp only [Act.put, List.setIfInBounds_toArray, List.set_cons_zero, List.set_cons_succ]
      refine wpAnyG_any (i := 10) (v := ?_) rfl (by kernel_rfl) (by kernel_rfl) (by kernel_rfl) (fun _ _ _ h => h) (by kernel_rfl) (fun _ => hS) (by kernel_rfl) ?_ ?_
      rotate_left
      · intro _; go_simp; try with_reducible rfl
      simp only [Act.put, List.setIfInBounds_toArray, List.set_cons_zero, List.set_cons_succ]
      refine wpAnyG_one (i := 11) rfl (by kernel_rfl) (by kernel_rfl) (fun K hK => ?_)
      go_wp2_with (go_at_call 7; refine (q1 _ (Below.refl _ _).drew).mono ?_; rintro e w5 ⟨rfl, hb5⟩)
      have hB5 : Below w2.heap.size w2 w5 := ((Below.refl _ _).drew).trans hb5
      refine hK.out _ _ (fun _ => hS) ?_
      clear hK K
      refine wpAnyG_any (i := 12) (v := .bool true) rfl (by kernel_rfl) (by kernel_rfl) (by kernel_rfl) (fun _ _ _ h => h) (by kernel_rfl) (fun _ => hS) (by kernel_rfl) ?_ ?_
      · intro _; go_simp
      simp only [Act.put, List.setIfInBounds_toArray, List.set_cons_zero, List.set_cons_succ]
      refine wpAnyG_any (i := 13) (v := .bool true) rfl (by kernel_rfl) (by kernel_rfl) (by kernel_rfl) (fun _ _ _ h => h) (by kernel_rfl) (fun _ => hS) (by kernel_rfl) ?_ ?_
      · intro _; go_simp
      simp only [Act.put, List.setIfInBounds_toArray, List.set_cons_zero, List.set_cons_succ]
      refine wpAnyG_any (i := 14) (v := ?_) rfl (by kernel_rfl) (by kernel_rfl) (by kernel_rfl) (fun _ _ _ h => h) (by kernel_rfl) (fun _ => hS) (by kernel_rfl) ?_ ?_
      rotate_left
      · intro _; go_simp; try with_reducible rfl
      simp only [Act.put, List.setIfInBounds_toArray, List.set_cons_zero, List.set_cons_succ]
      refine wpAnyG_any (i := 15) (v := .slice (some ⟨g, 32, none⟩) 32 (ca - 32)) rfl (by kernel_rfl) (by kernel_rfl) (by kernel_rfl) (fun _ _ _ h => h) (by kernel_rfl) (fun _ => hS) (by kernel_rfl) ?_ ?_
      · intro _; go_simp
      simp only [Act.put, List.setIfInBounds_toArray, List.set_cons_zero, List.set_cons_succ]
      refine wpAnyG_any (i := 16) (v := ?_) rfl (by kernel_rfl) (by kernel_rfl) (by kernel_rfl) (fun _ _ _ h => h) (by kernel_rfl) (fun _ => hS) (by kernel_rfl) ?_ ?_
      rotate_left
      · intro _; go_simp; try with_reducible rfl
      simp only [Act.put, List.setIfInBounds_toArray, List.set_cons_zero, List.set_cons_succ]
      refine wpAnyG_one (i := 17) rfl (by kernel_rfl) (by kernel_rfl) (fun K hK => ?_)
      go_wp2_with (go_at_call 7; refine (q2 _ hB5).mono ?_; rintro e w6 ⟨rfl, hb6⟩)
      have hB6 : Below w2.heap.size w2 w6 := hB5.trans (hb6.mono hB5.size)
      refine hK.out _ _ (fun _ => hS) ?_
      clear hK K
      refine wpAnyG_any (i := 18) (v := .bool true) rfl (by kernel_rfl) (by kernel_rfl) (by kernel_rfl) (fun _ _ _ h => h) (by kernel_rfl) (fun _ => hS) (by kernel_rfl) ?_ ?_
      · intro _; go_simp
      simp only [Act.put, List.setIfInBounds_toArray, List.set_cons_zero, List.set_cons_succ]
      refine wpAnyG_one (i := 19) rfl (by kernel_rfl) (by kernel_rfl) (fun K hK => ?_)
      go_simp
      refine hK.out _ _ (fun h => absurd (show true = false from h) (by decide)) ?_
      clear hK K
      refine wpAnyG_done (by kernel_rfl) ?_ _
      go_wp2
      go_ret
      exact ⟨rfl, hB3.trans (hB6.mono hB3.size)⟩
end Go.Proofs.YtoebbfifebpnbadDoor
