/- The statement MacFirst, walked: a region with two blocks that may be made at any time, order by order. (Written by mkfirst.py.) -/
import Derived.Test.YtoebbfifebpnbaaDoorLive2
import Derived.Test.YtoebbfifebpnbaaDoorFewL2
import Derived.Test.YtoebbfifebpnbaaDoorStrB
import Derived.Test.YtoebbfifebpnbaaDoorGateS5
namespace Go.Proofs.YtoebbfifebpnbaaDoor
open Go.RowKit
set_option maxRecDepth 20000
set_option linter.unusedSimpArgs false

theorem exp_first (k b : List Int) : expL k b 32 = tagL k (b ++ [1]) := by
  have h : expL k b 32 = (outK k b 1).take 32 := rfl
  rw [h]
  simp only [outK, tK, List.nil_append]
  rw [List.take_of_length_le (by rw [tagL_length]; omega)]
  rfl

set_option maxHeartbeats 60000000 in
theorem first_walk (k : List Int) (y : Option Addr) (lb cb : Nat) (b0 : List Int) (w : World) (hk : k.length = 32) (hKT : KTab w) (hy : Bytes w y lb cb b0) :
    Calls Tryd.prog 3 #[.agg (row .u8 k), .slice y lb cb] w fun e w' => e = .returned (.bool true) ∧ Below w.heap.size w w' := by
  have hy6 := hy.fewM 100
  obtain ⟨m, hm⟩ : ∃ q, min lb 100 = q := ⟨_, rfl⟩
  obtain ⟨b, hb⟩ : ∃ q, b0.take 100 = q := ⟨_, rfl⟩
  have hm6 : m ≤ 100 := by omega
  have hf1 : ∀ wx, Below w.heap.size w wx → Calls Tryd.prog 4 #[.slice y lb cb, .int .i64 100] wx (fun e w' => e = .returned (.slice y m cb) ∧ wx = w') := fun wx hb' => by
    rw [← hm]; exact few2_any y lb cb 100 b0 wx (hy.below hb') (by omega) (by omega)
  rw [hm, hb] at hy6
  clear hm hb hy
  have hbl : b.length = m := hy6.len_eq.symm
  have HBL : VeilE (b.length = m) := ⟨hbl⟩
  have hX : ∀ (wx : World), Below w.heap.size w wx → Calls Tryd.prog 5 #[.agg (row .u8 k), .slice y m cb, .int .i64 32] wx fun e w' => ∃ xa ca, e = .returned (.tuple #[.slice xa 32 ca, .int .i64 0]) ∧ Bytes w' xa 32 ca (tagL k (b ++ [1])) ∧ Below wx.heap.size wx w' := fun wx hb' =>
    (expand_any k y m cb b 32 wx hk (hy6.below hb') (by omega) (by omega) (hKT.below hb')).mono fun e w' ⟨v, he, ho, hbb⟩ => by
      obtain ⟨x, n', c, hv, hn'⟩ := ho.isSlice
      rw [expL_length] at hn'
      subst hn' hv
      exact ⟨x, c, he, by rw [← exp_first]; exact ho.bytes.2, hbb⟩
  have hTl := tagL_length k (b ++ [1])
  have hH : ∀ (v : Value) (base : Nat) (wx : World), Below w.heap.size w wx → Holds wx w.heap.size .u8 23 k → OwnB wx base v (b ++ [1]) → Calls Tryd.prog 6 #[.slice (some ⟨w.heap.size, 0, none⟩) 32 32, v] wx fun e w' => e = .returned (.agg (row .u8 (tagL k (b ++ [1])))) ∧ Below wx.heap.size wx w' := fun v base wx hb' hh ho => by
    obtain ⟨x', n', c', rfl, hn'⟩ := ho.isSlice
    exact hmac_any (some ⟨w.heap.size, 0, none⟩) 32 32 k x' n' c' (b ++ [1]) wx (hh.bytes hk.symm (by omega)) (by omega) ho.bytes.2 (by rw [hn', List.length_append, HBL.out]; simp; omega) (hKT.below hb')
  obtain ⟨TG, hTG⟩ : ∃ q, tagL k (b ++ [1]) = q := ⟨_, rfl⟩
  rw [hTG] at hX hH hTl
  have hLV := fun wx (h : Below w.heap.size w wx) => live2_any wx (hKT.below h)
  clear hTG hbl
  go_enter Tryd.func3, Tryd.ntmps3
  go_upto_region 1 with fail
  refine forget (p := fun y => Code.wp _ _ _ _ y) (fun W0 => Below w.heap.size w W0 ∧ Holds W0 w.heap.size .u8 23 k) ⟨(Below.refl _ _).alloc (Nat.le_refl _) _, Holds.new w .u8 23 k⟩ ?_
  rintro V0 ⟨hB0, hk0⟩
  go_upto_region 2 with (go_at_call 4; refine (hf1 _ hB0).mono ?_; rintro e w' ⟨rfl, rfl⟩)
  have hX1 := hX V0 hB0
  clear hf1 hX
  go_upto_region 3 with (first
    | (refine wpList_ld rfl 23 _ rfl _ rfl hk0 Tryd.underlying23 sizeKey hk ?_)
    | (go_at_call 5; refine hX1.mono ?_; rintro e W0 ⟨xa, ca, rfl, hyA, hb2⟩))
  have hBw : Below w.heap.size w W0 := hB0.trans (hb2.mono hB0.size)
  have hkW := hk0.below hb2 hk0.lt
  have hyW := hy6.below hBw
  clear hX1 hk0 hB0 hb2 hy6
  refine wp_region_gate (fun _ => True) 8 (by kernel_rfl) ?_
  obtain ⟨D0, hD0⟩ : ∃ q, W0.drew = q := ⟨_, rfl⟩
  have hb0 : Below W0.heap.size W0 D0 := by rw [← hD0]; exact (Below.refl _ _).drew
  rw [hD0]
  clear hD0
  have hS : (fun _ : World => True) D0 := trivial
  refine wpAnyG_any (i := 0) (v := ?_) rfl (by kernel_rfl) (by kernel_rfl) (by kernel_rfl) (fun _ _ _ h => h) (by kernel_rfl) (fun _ => hS) (by kernel_rfl) ?_ ?_
  rotate_left
  · intro _; go_simp; try with_reducible rfl
  simp only [Act.put, List.setIfInBounds_toArray, List.set_cons_zero, List.set_cons_succ]
  refine wpAnyG_any (i := 2) (v := ?_) rfl (by kernel_rfl) (by kernel_rfl) (by kernel_rfl) (fun _ _ _ h => h) (by kernel_rfl) (fun _ => hS) (by kernel_rfl) ?_ ?_
  rotate_left
  · intro _; go_simp; try with_reducible rfl
  simp only [Act.put, List.setIfInBounds_toArray, List.set_cons_zero, List.set_cons_succ]
  refine wpAnyG_three (i := 1) (j := 4) (l := 7) rfl rfl rfl (by kernel_rfl) (by kernel_rfl) (by kernel_rfl) (by kernel_rfl) (fun K hK => ?_) (fun K hK => ?_) (fun K hK => ?_)
  · skip
    go_simp
    have hN1 : Holds (D0.alloc (.cells (row .u8 []) 5)) D0.heap.size .u8 5 [] := Holds.new D0 .u8 5 []
    have hn1 : Below D0.heap.size D0 (D0.alloc (.cells (row .u8 []) 5)) := (Below.refl _ _).alloc (Nat.le_refl _) _
    have hb1 : Below W0.heap.size W0 (D0.alloc (.cells (row .u8 []) 5)) := hb0.trans (hn1.mono hb0.size)
    have hge1 := hb0.size
    refine hK.out _ _ (fun _ => hS) ?_
    clear hK K
    obtain ⟨G1, hGe1⟩ : ∃ q, D0.heap.size = q := ⟨_, rfl⟩
    obtain ⟨U1, hU1⟩ : ∃ q, D0.alloc (.cells (row .u8 []) 5) = q := ⟨_, rfl⟩
    have hc1 : D0.alloc (.cells #[] 5) = U1 := hU1
    rw [hU1, hGe1] at hN1
    rw [hU1] at hb1 
    rw [hGe1] at hge1
    rw [hc1, hGe1]
    have hO1 : OwnB U1 W0.heap.size (.slice (some ⟨G1, 0, none⟩) 0 0) [] := by rw [← hU1, ← hGe1]; exact OwnB.empty D0 W0.heap.size hb0.size
    have hltg1 : G1 < U1.heap.size := hN1.lt
    clear hGe1 hU1 hc1 hn1
    refine wpAnyG_three (i := 3) (j := 4) (l := 7) rfl rfl rfl (by kernel_rfl) (by kernel_rfl) (by kernel_rfl) (by kernel_rfl) (fun K hK => ?_) (fun K hK => ?_) (fun K hK => ?_)
    · skip
      refine wp_appA _ _ rfl W0.heap.size _ [] rfl hO1 y m cb b rfl (hyW.below hb1) (by simp; omega) hb1.size ?_
      intro v2 u2 ho2 hg2
      have hb2 : Below W0.heap.size W0 u2 := below_grown hb1 hO1 hg2 hb1.size
      rw [List.nil_append] at ho2
      clear hg2
      refine hK.out _ _ (fun _ => hS) ?_
      clear hK K
      refine wpAnyG_two (i := 4) (j := 7) rfl rfl (by kernel_rfl) (by kernel_rfl) (by kernel_rfl) (fun K hK => ?_) (fun K hK => ?_)
      · skip
        go_simp
        have hN3 : Holds (u2.alloc (.cells (row .u8 [1]) 5)) u2.heap.size .u8 5 [1] := Holds.new u2 .u8 5 [1]
        have hn3 : Below u2.heap.size u2 (u2.alloc (.cells (row .u8 [1]) 5)) := (Below.refl _ _).alloc (Nat.le_refl _) _
        have hb3 : Below W0.heap.size W0 (u2.alloc (.cells (row .u8 [1]) 5)) := hb2.trans (hn3.mono hb2.size)
        have hge3 := hb2.size
        have ho2n3 := ho2.belowM hn3
        refine hK.out _ _ (fun _ => hS) ?_
        clear hK K
        obtain ⟨G3, hGe3⟩ : ∃ q, u2.heap.size = q := ⟨_, rfl⟩
        obtain ⟨U3, hU3⟩ : ∃ q, u2.alloc (.cells (row .u8 [1]) 5) = q := ⟨_, rfl⟩
        have hc3 : u2.alloc (.cells #[.int .u8 1] 5) = U3 := hU3
        rw [hU3, hGe3] at hN3
        rw [hU3] at hb3 ho2n3
        rw [hGe3] at hge3
        rw [hc3, hGe3]
        clear hGe3 hU3 hc3 hn3
        refine wpAnyG_two (i := 5) (j := 7) rfl rfl (by kernel_rfl) (by kernel_rfl) (by kernel_rfl) (fun K hK => ?_) (fun K hK => ?_)
        · skip
          refine wp_appA _ _ rfl W0.heap.size _ b rfl ho2n3 (some ⟨G3, 0, none⟩) 1 1 [1] rfl (hN3.bytes rfl (by simp)) (by rw [HBL.out]; omega) hb3.size ?_
          intro v4 u4 ho4 hg4
          have hb4 : Below W0.heap.size W0 u4 := below_grown hb3 ho2n3 hg4 hb3.size
          clear hg4
          refine hK.out _ _ (fun _ => hS) ?_
          clear hK K
          refine wpAnyG_two (i := 6) (j := 7) rfl rfl (by kernel_rfl) (by kernel_rfl) (by kernel_rfl) (fun K hK => ?_) (fun K hK => ?_)
          · skip
            go_wp2_with (go_at_call 6; refine (hH _ _ _ (hBw.trans (hb4.mono hBw.size)) (hkW.below hb4 hkW.lt) ho4).mono ?_; rintro e u5 ⟨rfl, hx5⟩)
            have hb5 : Below W0.heap.size W0 u5 := hb4.trans (hx5.mono hb4.size)
            refine hK.out _ _ (fun _ => hS) ?_
            clear hK K
            refine wpAnyG_one (i := 7) rfl (by kernel_rfl) (by kernel_rfl) (fun K hK => ?_)
            go_simp
            have hN6 : Holds (u5.alloc (.cells (row .u8 (List.replicate 32 0)) 23)) u5.heap.size .u8 23 (List.replicate 32 0) := Holds.new u5 .u8 23 (List.replicate 32 0)
            have hn6 : Below u5.heap.size u5 (u5.alloc (.cells (row .u8 (List.replicate 32 0)) 23)) := (Below.refl _ _).alloc (Nat.le_refl _) _
            have hb6 : Below W0.heap.size W0 (u5.alloc (.cells (row .u8 (List.replicate 32 0)) 23)) := hb5.trans (hn6.mono hb5.size)
            have hge6 := hb5.size
            refine hK.out _ _ (fun _ => hS) ?_
            clear hK K
            obtain ⟨G6, hGe6⟩ : ∃ q, u5.heap.size = q := ⟨_, rfl⟩
            obtain ⟨U6, hU6⟩ : ∃ q, u5.alloc (.cells (row .u8 (List.replicate 32 0)) 23) = q := ⟨_, rfl⟩
            have hc6 : u5.alloc (.cells #[.int .u8 0, .int .u8 0, .int .u8 0, .int .u8 0, .int .u8 0, .int .u8 0, .int .u8 0, .int .u8 0, .int .u8 0, .int .u8 0, .int .u8 0, .int .u8 0, .int .u8 0, .int .u8 0, .int .u8 0, .int .u8 0, .int .u8 0, .int .u8 0, .int .u8 0, .int .u8 0, .int .u8 0, .int .u8 0, .int .u8 0, .int .u8 0, .int .u8 0, .int .u8 0, .int .u8 0, .int .u8 0, .int .u8 0, .int .u8 0, .int .u8 0, .int .u8 0] 23) = U6 := hU6
            rw [hU6, hGe6] at hN6
            rw [hU6] at hb6 
            rw [hGe6] at hge6
            rw [hc6, hGe6]
            clear hGe6 hU6 hc6 hn6
            refine wpAnyG_one (i := 8) rfl (by kernel_rfl) (by kernel_rfl) (fun K hK => ?_)
            refine wp_st 23 _ _ rfl _ rfl rfl hN6 (by rw [hTl]; exact sizeKey) (by simp [hTl]) ?_
            refine hK.out _ _ (fun h => absurd (show true = false from h) (by decide)) ?_
            clear hK K
            refine wpAnyG_done (by kernel_rfl) ?_ _
            refine forget (p := fun y => Exit.then _ _ _ _ y) (fun W => Below W0.heap.size W0 W ∧ Holds W G6 .u8 23 TG) ⟨below_setRow hb6 hge6 _, hN6.setRow TG⟩ ?_
            rintro W1 ⟨hb01, hG1⟩
            go_upto_region 4 with fail
            have hBw1 : Below w.heap.size w W1 := hBw.trans (hb01.mono hBw.size)
            have hyA1 := hyA.below hb01
            have cA := fun wx (h : Below W1.heap.size W1 wx) => conv_bytes (hyA1.below h)
            have cB := fun wx (h : Below W1.heap.size W1 wx) => conv_bytes ((hG1.below h hG1.lt).bytes (n := 32) hTl.symm (by omega))
            obtain ⟨SA, hSA⟩ : ∃ s, strOfNums TG = s := ⟨_, rfl⟩
            rw [hSA] at cA cB
            clear hSA hyA1 hG1 hb01 hH
            refine wp_region_gate (fun w' => (convert 24 9 (.slice xa 32 ca)).run Tryd.prog w' = .ok (.string SA) w' ∧ (convert 24 9 (.slice (some ⟨G6, 0, none⟩) 32 32)).run Tryd.prog w' = .ok (.string SA) w') 12 (by kernel_rfl) ?_
            refine wpAnyG_one (i := 0) rfl (by kernel_rfl) (by kernel_rfl) (fun K hK => ?_)
            go_wp2_with (go_at_call 7; refine (hLV _ hBw1.drew).mono ?_; rintro e w9 ⟨rfl, hb9⟩)
            have hB9 : Below W1.heap.size W1 w9 := ((Below.refl _ _).drew).trans hb9
            have hS := And.intro (cA _ hB9) (cB _ hB9)
            refine hK.out _ _ (fun _ => hS) ?_
            clear hK K
            refine wpAnyG_any (i := 1) (v := ?_) rfl (by kernel_rfl) (by kernel_rfl) (by kernel_rfl) (fun _ _ _ h => h) (by kernel_rfl) (fun _ => hS) (by kernel_rfl) ?_ ?_
            rotate_left
            · intro _; go_simp; try with_reducible rfl
            simp only [Act.put, List.setIfInBounds_toArray, List.set_cons_zero, List.set_cons_succ]
            refine wpAnyG_any (i := 2) (v := ?_) rfl (by kernel_rfl) (by kernel_rfl) (by kernel_rfl) (fun _ _ _ h => h) (by kernel_rfl) (fun _ => hS) (by kernel_rfl) ?_ ?_
            rotate_left
            · intro _; go_simp; try with_reducible rfl
            simp only [Act.put, List.setIfInBounds_toArray, List.set_cons_zero, List.set_cons_succ]
            refine wpAnyG_any (i := 3) (v := .bool true) rfl (by kernel_rfl) (by kernel_rfl) (by kernel_rfl) (fun _ _ _ h => h) (by kernel_rfl) (fun _ => hS) (by kernel_rfl) ?_ ?_
            · intro _; go_simp
            simp only [Act.put, List.setIfInBounds_toArray, List.set_cons_zero, List.set_cons_succ]
            refine wpAnyG_any (i := 4) (v := .bool true) rfl (by kernel_rfl) (by kernel_rfl) (by kernel_rfl) (fun _ _ _ h => h) (by kernel_rfl) (fun _ => hS) (by kernel_rfl) ?_ ?_
            · intro _; go_simp
            simp only [Act.put, List.setIfInBounds_toArray, List.set_cons_zero, List.set_cons_succ]
            refine wpAnyG_any (i := 5) (v := .bool true) rfl (by kernel_rfl) (by kernel_rfl) (by kernel_rfl) (fun _ _ _ h => h) (by kernel_rfl) (fun _ => hS) (by kernel_rfl) ?_ ?_
            · intro _; go_simp
            simp only [Act.put, List.setIfInBounds_toArray, List.set_cons_zero, List.set_cons_succ]
            refine wpAnyG_any (i := 6) (v := ?_) rfl (by kernel_rfl) (by kernel_rfl) (by kernel_rfl) (fun _ _ _ h => h) (by kernel_rfl) (fun _ => hS) (by kernel_rfl) ?_ ?_
            rotate_left
            · intro _; go_simp; try with_reducible rfl
            simp only [Act.put, List.setIfInBounds_toArray, List.set_cons_zero, List.set_cons_succ]
            refine wpAnyG_any (i := 8) (v := ?_) rfl (by kernel_rfl) (by kernel_rfl) (by kernel_rfl) (fun _ _ _ h => h) (by kernel_rfl) (fun _ => hS) (by kernel_rfl) ?_ ?_
            rotate_left
            · intro _; go_simp; try with_reducible rfl
            simp only [Act.put, List.setIfInBounds_toArray, List.set_cons_zero, List.set_cons_succ]
            refine wpAnyG_read (i := 7) (v := ?_) rfl (by kernel_rfl) (by kernel_rfl) (by kernel_rfl) (fun _ _ _ h => h) (by kernel_rfl) (by kernel_rfl) (by kernel_rfl) hS (by kernel_rfl) ?_ ?_
            rotate_left
            · intro wx hSw; go_split_ands; go_simp; try with_reducible rfl
            simp only [Act.put, List.setIfInBounds_toArray, List.set_cons_zero, List.set_cons_succ]
            refine wpAnyG_read (i := 9) (v := ?_) rfl (by kernel_rfl) (by kernel_rfl) (by kernel_rfl) (fun _ _ _ h => h) (by kernel_rfl) (by kernel_rfl) (by kernel_rfl) hS (by kernel_rfl) ?_ ?_
            rotate_left
            · intro wx hSw; go_split_ands; go_simp; try with_reducible rfl
            simp only [Act.put, List.setIfInBounds_toArray, List.set_cons_zero, List.set_cons_succ]
            refine wpAnyG_any (i := 10) (v := .bool true) rfl (by kernel_rfl) (by kernel_rfl) (by kernel_rfl) (fun _ _ _ h => h) (by kernel_rfl) (fun _ => hS) (by kernel_rfl) ?_ ?_
            · intro _; go_simp
            simp only [Act.put, List.setIfInBounds_toArray, List.set_cons_zero, List.set_cons_succ]
            refine wpAnyG_any (i := 11) (v := .bool true) rfl (by kernel_rfl) (by kernel_rfl) (by kernel_rfl) (fun _ _ _ h => h) (by kernel_rfl) (fun _ => hS) (by kernel_rfl) ?_ ?_
            · intro _; go_simp
            simp only [Act.put, List.setIfInBounds_toArray, List.set_cons_zero, List.set_cons_succ]
            refine wpAnyG_one (i := 12) rfl (by kernel_rfl) (by kernel_rfl) (fun K hK => ?_)
            go_simp
            refine hK.out _ _ (fun h => absurd (show true = false from h) (by decide)) ?_
            clear hK K
            refine wpAnyG_done (by kernel_rfl) ?_ _
            go_wp2
            go_ret
            exact ⟨rfl, hBw1.trans (hB9.mono hBw1.size)⟩
          · skip
            go_simp
            have hN8 : Holds (u4.alloc (.cells (row .u8 (List.replicate 32 0)) 23)) u4.heap.size .u8 23 (List.replicate 32 0) := Holds.new u4 .u8 23 (List.replicate 32 0)
            have hn8 : Below u4.heap.size u4 (u4.alloc (.cells (row .u8 (List.replicate 32 0)) 23)) := (Below.refl _ _).alloc (Nat.le_refl _) _
            have hb8 : Below W0.heap.size W0 (u4.alloc (.cells (row .u8 (List.replicate 32 0)) 23)) := hb4.trans (hn8.mono hb4.size)
            have hge8 := hb4.size
            have ho4n8 := ho4.belowM hn8
            refine hK.out _ _ (fun _ => hS) ?_
            clear hK K
            obtain ⟨G8, hGe8⟩ : ∃ q, u4.heap.size = q := ⟨_, rfl⟩
            obtain ⟨U8, hU8⟩ : ∃ q, u4.alloc (.cells (row .u8 (List.replicate 32 0)) 23) = q := ⟨_, rfl⟩
            have hc8 : u4.alloc (.cells #[.int .u8 0, .int .u8 0, .int .u8 0, .int .u8 0, .int .u8 0, .int .u8 0, .int .u8 0, .int .u8 0, .int .u8 0, .int .u8 0, .int .u8 0, .int .u8 0, .int .u8 0, .int .u8 0, .int .u8 0, .int .u8 0, .int .u8 0, .int .u8 0, .int .u8 0, .int .u8 0, .int .u8 0, .int .u8 0, .int .u8 0, .int .u8 0, .int .u8 0, .int .u8 0, .int .u8 0, .int .u8 0, .int .u8 0, .int .u8 0, .int .u8 0, .int .u8 0] 23) = U8 := hU8
            rw [hU8, hGe8] at hN8
            rw [hU8] at hb8 ho4n8
            rw [hGe8] at hge8
            rw [hc8, hGe8]
            clear hGe8 hU8 hc8 hn8
            refine wpAnyG_one (i := 6) rfl (by kernel_rfl) (by kernel_rfl) (fun K hK => ?_)
            go_wp2_with (go_at_call 6; refine (hH _ _ _ (hBw.trans (hb8.mono hBw.size)) (hkW.below hb8 hkW.lt) ho4n8).mono ?_; rintro e u9 ⟨rfl, hx9⟩)
            have hb9 : Below W0.heap.size W0 u9 := hb8.trans (hx9.mono hb8.size)
            have h79 := hN8.below hx9 hN8.lt
            refine hK.out _ _ (fun _ => hS) ?_
            clear hK K
            refine wpAnyG_one (i := 8) rfl (by kernel_rfl) (by kernel_rfl) (fun K hK => ?_)
            refine wp_st 23 _ _ rfl _ rfl rfl h79 (by rw [hTl]; exact sizeKey) (by simp [hTl]) ?_
            refine hK.out _ _ (fun h => absurd (show true = false from h) (by decide)) ?_
            clear hK K
            refine wpAnyG_done (by kernel_rfl) ?_ _
            refine forget (p := fun y => Exit.then _ _ _ _ y) (fun W => Below W0.heap.size W0 W ∧ Holds W G8 .u8 23 TG) ⟨below_setRow hb9 hge8 _, h79.setRow TG⟩ ?_
            rintro W1 ⟨hb01, hG1⟩
            go_upto_region 4 with fail
            have hBw1 : Below w.heap.size w W1 := hBw.trans (hb01.mono hBw.size)
            have hyA1 := hyA.below hb01
            have cA := fun wx (h : Below W1.heap.size W1 wx) => conv_bytes (hyA1.below h)
            have cB := fun wx (h : Below W1.heap.size W1 wx) => conv_bytes ((hG1.below h hG1.lt).bytes (n := 32) hTl.symm (by omega))
            obtain ⟨SA, hSA⟩ : ∃ s, strOfNums TG = s := ⟨_, rfl⟩
            rw [hSA] at cA cB
            clear hSA hyA1 hG1 hb01 hH
            refine wp_region_gate (fun w' => (convert 24 9 (.slice xa 32 ca)).run Tryd.prog w' = .ok (.string SA) w' ∧ (convert 24 9 (.slice (some ⟨G8, 0, none⟩) 32 32)).run Tryd.prog w' = .ok (.string SA) w') 12 (by kernel_rfl) ?_
            refine wpAnyG_one (i := 0) rfl (by kernel_rfl) (by kernel_rfl) (fun K hK => ?_)
            go_wp2_with (go_at_call 7; refine (hLV _ hBw1.drew).mono ?_; rintro e w9 ⟨rfl, hb9⟩)
            have hB9 : Below W1.heap.size W1 w9 := ((Below.refl _ _).drew).trans hb9
            have hS := And.intro (cA _ hB9) (cB _ hB9)
            refine hK.out _ _ (fun _ => hS) ?_
            clear hK K
            refine wpAnyG_any (i := 1) (v := ?_) rfl (by kernel_rfl) (by kernel_rfl) (by kernel_rfl) (fun _ _ _ h => h) (by kernel_rfl) (fun _ => hS) (by kernel_rfl) ?_ ?_
            rotate_left
            · intro _; go_simp; try with_reducible rfl
            simp only [Act.put, List.setIfInBounds_toArray, List.set_cons_zero, List.set_cons_succ]
            refine wpAnyG_any (i := 2) (v := ?_) rfl (by kernel_rfl) (by kernel_rfl) (by kernel_rfl) (fun _ _ _ h => h) (by kernel_rfl) (fun _ => hS) (by kernel_rfl) ?_ ?_
            rotate_left
            · intro _; go_simp; try with_reducible rfl
            simp only [Act.put, List.setIfInBounds_toArray, List.set_cons_zero, List.set_cons_succ]
            refine wpAnyG_any (i := 3) (v := .bool true) rfl (by kernel_rfl) (by kernel_rfl) (by kernel_rfl) (fun _ _ _ h => h) (by kernel_rfl) (fun _ => hS) (by kernel_rfl) ?_ ?_
            · intro _; go_simp
            simp only [Act.put, List.setIfInBounds_toArray, List.set_cons_zero, List.set_cons_succ]
            refine wpAnyG_any (i := 4) (v := .bool true) rfl (by kernel_rfl) (by kernel_rfl) (by kernel_rfl) (fun _ _ _ h => h) (by kernel_rfl) (fun _ => hS) (by kernel_rfl) ?_ ?_
            · intro _; go_simp
            simp only [Act.put, List.setIfInBounds_toArray, List.set_cons_zero, List.set_cons_succ]
            refine wpAnyG_any (i := 5) (v := .bool true) rfl (by kernel_rfl) (by kernel_rfl) (by kernel_rfl) (fun _ _ _ h => h) (by kernel_rfl) (fun _ => hS) (by kernel_rfl) ?_ ?_
            · intro _; go_simp
            simp only [Act.put, List.setIfInBounds_toArray, List.set_cons_zero, List.set_cons_succ]
            refine wpAnyG_any (i := 6) (v := ?_) rfl (by kernel_rfl) (by kernel_rfl) (by kernel_rfl) (fun _ _ _ h => h) (by kernel_rfl) (fun _ => hS) (by kernel_rfl) ?_ ?_
            rotate_left
            · intro _; go_simp; try with_reducible rfl
            simp only [Act.put, List.setIfInBounds_toArray, List.set_cons_zero, List.set_cons_succ]
            refine wpAnyG_any (i := 8) (v := ?_) rfl (by kernel_rfl) (by kernel_rfl) (by kernel_rfl) (fun _ _ _ h => h) (by kernel_rfl) (fun _ => hS) (by kernel_rfl) ?_ ?_
            rotate_left
            · intro _; go_simp; try with_reducible rfl
            simp only [Act.put, List.setIfInBounds_toArray, List.set_cons_zero, List.set_cons_succ]
            refine wpAnyG_read (i := 7) (v := ?_) rfl (by kernel_rfl) (by kernel_rfl) (by kernel_rfl) (fun _ _ _ h => h) (by kernel_rfl) (by kernel_rfl) (by kernel_rfl) hS (by kernel_rfl) ?_ ?_
            rotate_left
            · intro wx hSw; go_split_ands; go_simp; try with_reducible rfl
            simp only [Act.put, List.setIfInBounds_toArray, List.set_cons_zero, List.set_cons_succ]
            refine wpAnyG_read (i := 9) (v := ?_) rfl (by kernel_rfl) (by kernel_rfl) (by kernel_rfl) (fun _ _ _ h => h) (by kernel_rfl) (by kernel_rfl) (by kernel_rfl) hS (by kernel_rfl) ?_ ?_
            rotate_left
            · intro wx hSw; go_split_ands; go_simp; try with_reducible rfl
            simp only [Act.put, List.setIfInBounds_toArray, List.set_cons_zero, List.set_cons_succ]
            refine wpAnyG_any (i := 10) (v := .bool true) rfl (by kernel_rfl) (by kernel_rfl) (by kernel_rfl) (fun _ _ _ h => h) (by kernel_rfl) (fun _ => hS) (by kernel_rfl) ?_ ?_
            · intro _; go_simp
            simp only [Act.put, List.setIfInBounds_toArray, List.set_cons_zero, List.set_cons_succ]
            refine wpAnyG_any (i := 11) (v := .bool true) rfl (by kernel_rfl) (by kernel_rfl) (by kernel_rfl) (fun _ _ _ h => h) (by kernel_rfl) (fun _ => hS) (by kernel_rfl) ?_ ?_
            · intro _; go_simp
            simp only [Act.put, List.setIfInBounds_toArray, List.set_cons_zero, List.set_cons_succ]
            refine wpAnyG_one (i := 12) rfl (by kernel_rfl) (by kernel_rfl) (fun K hK => ?_)
            go_simp
            refine hK.out _ _ (fun h => absurd (show true = false from h) (by decide)) ?_
            clear hK K
            refine wpAnyG_done (by kernel_rfl) ?_ _
            go_wp2
            go_ret
            exact ⟨rfl, hBw1.trans (hB9.mono hBw1.size)⟩
        · skip
          go_simp
          have hN11 : Holds (U3.alloc (.cells (row .u8 (List.replicate 32 0)) 23)) U3.heap.size .u8 23 (List.replicate 32 0) := Holds.new U3 .u8 23 (List.replicate 32 0)
          have hn11 : Below U3.heap.size U3 (U3.alloc (.cells (row .u8 (List.replicate 32 0)) 23)) := (Below.refl _ _).alloc (Nat.le_refl _) _
          have hb11 : Below W0.heap.size W0 (U3.alloc (.cells (row .u8 (List.replicate 32 0)) 23)) := hb3.trans (hn11.mono hb3.size)
          have hge11 := hb3.size
          have ho2n3n11 := ho2n3.belowM hn11
          have hN3n11 := hN3.alloc (.cells (row .u8 (List.replicate 32 0)) 23)
          refine hK.out _ _ (fun _ => hS) ?_
          clear hK K
          obtain ⟨G11, hGe11⟩ : ∃ q, U3.heap.size = q := ⟨_, rfl⟩
          have hlt411 := hN3.lt
          obtain ⟨U11, hU11⟩ : ∃ q, U3.alloc (.cells (row .u8 (List.replicate 32 0)) 23) = q := ⟨_, rfl⟩
          have hc11 : U3.alloc (.cells #[.int .u8 0, .int .u8 0, .int .u8 0, .int .u8 0, .int .u8 0, .int .u8 0, .int .u8 0, .int .u8 0, .int .u8 0, .int .u8 0, .int .u8 0, .int .u8 0, .int .u8 0, .int .u8 0, .int .u8 0, .int .u8 0, .int .u8 0, .int .u8 0, .int .u8 0, .int .u8 0, .int .u8 0, .int .u8 0, .int .u8 0, .int .u8 0, .int .u8 0, .int .u8 0, .int .u8 0, .int .u8 0, .int .u8 0, .int .u8 0, .int .u8 0, .int .u8 0] 23) = U11 := hU11
          rw [hU11, hGe11] at hN11
          rw [hU11] at hb11 ho2n3n11 hN3n11
          rw [hGe11] at hge11 hlt411
          rw [hc11, hGe11]
          clear hGe11 hU11 hc11 hn11
          refine wpAnyG_one (i := 5) rfl (by kernel_rfl) (by kernel_rfl) (fun K hK => ?_)
          refine wp_appA _ _ rfl W0.heap.size _ b rfl ho2n3n11 (some ⟨G3, 0, none⟩) 1 1 [1] rfl (hN3n11.bytes rfl (by simp)) (by rw [HBL.out]; omega) hb11.size ?_
          intro v12 u12 ho12 hg12
          have hb12 : Below W0.heap.size W0 u12 := below_grown hb11 ho2n3n11 hg12 hb11.size
          have h712 := holds_grown hN11 ho2n3n11 hg12 (by decide)
          clear hg12
          refine hK.out _ _ (fun _ => hS) ?_
          clear hK K
          refine wpAnyG_one (i := 6) rfl (by kernel_rfl) (by kernel_rfl) (fun K hK => ?_)
          go_wp2_with (go_at_call 6; refine (hH _ _ _ (hBw.trans (hb12.mono hBw.size)) (hkW.below hb12 hkW.lt) ho12).mono ?_; rintro e u13 ⟨rfl, hx13⟩)
          have hb13 : Below W0.heap.size W0 u13 := hb12.trans (hx13.mono hb12.size)
          have h713 := h712.below hx13 h712.lt
          refine hK.out _ _ (fun _ => hS) ?_
          clear hK K
          refine wpAnyG_one (i := 8) rfl (by kernel_rfl) (by kernel_rfl) (fun K hK => ?_)
          refine wp_st 23 _ _ rfl _ rfl rfl h713 (by rw [hTl]; exact sizeKey) (by simp [hTl]) ?_
          refine hK.out _ _ (fun h => absurd (show true = false from h) (by decide)) ?_
          clear hK K
          refine wpAnyG_done (by kernel_rfl) ?_ _
          refine forget (p := fun y => Exit.then _ _ _ _ y) (fun W => Below W0.heap.size W0 W ∧ Holds W G11 .u8 23 TG) ⟨below_setRow hb13 hge11 _, h713.setRow TG⟩ ?_
          rintro W1 ⟨hb01, hG1⟩
          go_upto_region 4 with fail
          have hBw1 : Below w.heap.size w W1 := hBw.trans (hb01.mono hBw.size)
          have hyA1 := hyA.below hb01
          have cA := fun wx (h : Below W1.heap.size W1 wx) => conv_bytes (hyA1.below h)
          have cB := fun wx (h : Below W1.heap.size W1 wx) => conv_bytes ((hG1.below h hG1.lt).bytes (n := 32) hTl.symm (by omega))
          obtain ⟨SA, hSA⟩ : ∃ s, strOfNums TG = s := ⟨_, rfl⟩
          rw [hSA] at cA cB
          clear hSA hyA1 hG1 hb01 hH
          refine wp_region_gate (fun w' => (convert 24 9 (.slice xa 32 ca)).run Tryd.prog w' = .ok (.string SA) w' ∧ (convert 24 9 (.slice (some ⟨G11, 0, none⟩) 32 32)).run Tryd.prog w' = .ok (.string SA) w') 12 (by kernel_rfl) ?_
          refine wpAnyG_one (i := 0) rfl (by kernel_rfl) (by kernel_rfl) (fun K hK => ?_)
          go_wp2_with (go_at_call 7; refine (hLV _ hBw1.drew).mono ?_; rintro e w9 ⟨rfl, hb9⟩)
          have hB9 : Below W1.heap.size W1 w9 := ((Below.refl _ _).drew).trans hb9
          have hS := And.intro (cA _ hB9) (cB _ hB9)
          refine hK.out _ _ (fun _ => hS) ?_
          clear hK K
          refine wpAnyG_any (i := 1) (v := ?_) rfl (by kernel_rfl) (by kernel_rfl) (by kernel_rfl) (fun _ _ _ h => h) (by kernel_rfl) (fun _ => hS) (by kernel_rfl) ?_ ?_
          rotate_left
          · intro _; go_simp; try with_reducible rfl
          simp only [Act.put, List.setIfInBounds_toArray, List.set_cons_zero, List.set_cons_succ]
          refine wpAnyG_any (i := 2) (v := ?_) rfl (by kernel_rfl) (by kernel_rfl) (by kernel_rfl) (fun _ _ _ h => h) (by kernel_rfl) (fun _ => hS) (by kernel_rfl) ?_ ?_
          rotate_left
          · intro _; go_simp; try with_reducible rfl
          simp only [Act.put, List.setIfInBounds_toArray, List.set_cons_zero, List.set_cons_succ]
          refine wpAnyG_any (i := 3) (v := .bool true) rfl (by kernel_rfl) (by kernel_rfl) (by kernel_rfl) (fun _ _ _ h => h) (by kernel_rfl) (fun _ => hS) (by kernel_rfl) ?_ ?_
          · intro _; go_simp
          simp only [Act.put, List.setIfInBounds_toArray, List.set_cons_zero, List.set_cons_succ]
          refine wpAnyG_any (i := 4) (v := .bool true) rfl (by kernel_rfl) (by kernel_rfl) (by kernel_rfl) (fun _ _ _ h => h) (by kernel_rfl) (fun _ => hS) (by kernel_rfl) ?_ ?_
          · intro _; go_simp
          simp only [Act.put, List.setIfInBounds_toArray, List.set_cons_zero, List.set_cons_succ]
          refine wpAnyG_any (i := 5) (v := .bool true) rfl (by kernel_rfl) (by kernel_rfl) (by kernel_rfl) (fun _ _ _ h => h) (by kernel_rfl) (fun _ => hS) (by kernel_rfl) ?_ ?_
          · intro _; go_simp
          simp only [Act.put, List.setIfInBounds_toArray, List.set_cons_zero, List.set_cons_succ]
          refine wpAnyG_any (i := 6) (v := ?_) rfl (by kernel_rfl) (by kernel_rfl) (by kernel_rfl) (fun _ _ _ h => h) (by kernel_rfl) (fun _ => hS) (by kernel_rfl) ?_ ?_
          rotate_left
          · intro _; go_simp; try with_reducible rfl
          simp only [Act.put, List.setIfInBounds_toArray, List.set_cons_zero, List.set_cons_succ]
          refine wpAnyG_any (i := 8) (v := ?_) rfl (by kernel_rfl) (by kernel_rfl) (by kernel_rfl) (fun _ _ _ h => h) (by kernel_rfl) (fun _ => hS) (by kernel_rfl) ?_ ?_
          rotate_left
          · intro _; go_simp; try with_reducible rfl
          simp only [Act.put, List.setIfInBounds_toArray, List.set_cons_zero, List.set_cons_succ]
          refine wpAnyG_read (i := 7) (v := ?_) rfl (by kernel_rfl) (by kernel_rfl) (by kernel_rfl) (fun _ _ _ h => h) (by kernel_rfl) (by kernel_rfl) (by kernel_rfl) hS (by kernel_rfl) ?_ ?_
          rotate_left
          · intro wx hSw; go_split_ands; go_simp; try with_reducible rfl
          simp only [Act.put, List.setIfInBounds_toArray, List.set_cons_zero, List.set_cons_succ]
          refine wpAnyG_read (i := 9) (v := ?_) rfl (by kernel_rfl) (by kernel_rfl) (by kernel_rfl) (fun _ _ _ h => h) (by kernel_rfl) (by kernel_rfl) (by kernel_rfl) hS (by kernel_rfl) ?_ ?_
          rotate_left
          · intro wx hSw; go_split_ands; go_simp; try with_reducible rfl
          simp only [Act.put, List.setIfInBounds_toArray, List.set_cons_zero, List.set_cons_succ]
          refine wpAnyG_any (i := 10) (v := .bool true) rfl (by kernel_rfl) (by kernel_rfl) (by kernel_rfl) (fun _ _ _ h => h) (by kernel_rfl) (fun _ => hS) (by kernel_rfl) ?_ ?_
          · intro _; go_simp
          simp only [Act.put, List.setIfInBounds_toArray, List.set_cons_zero, List.set_cons_succ]
          refine wpAnyG_any (i := 11) (v := .bool true) rfl (by kernel_rfl) (by kernel_rfl) (by kernel_rfl) (fun _ _ _ h => h) (by kernel_rfl) (fun _ => hS) (by kernel_rfl) ?_ ?_
          · intro _; go_simp
          simp only [Act.put, List.setIfInBounds_toArray, List.set_cons_zero, List.set_cons_succ]
          refine wpAnyG_one (i := 12) rfl (by kernel_rfl) (by kernel_rfl) (fun K hK => ?_)
          go_simp
          refine hK.out _ _ (fun h => absurd (show true = false from h) (by decide)) ?_
          clear hK K
          refine wpAnyG_done (by kernel_rfl) ?_ _
          go_wp2
          go_ret
          exact ⟨rfl, hBw1.trans (hB9.mono hBw1.size)⟩
      · skip
        go_simp
        have hN15 : Holds (u2.alloc (.cells (row .u8 (List.replicate 32 0)) 23)) u2.heap.size .u8 23 (List.replicate 32 0) := Holds.new u2 .u8 23 (List.replicate 32 0)
        have hn15 : Below u2.heap.size u2 (u2.alloc (.cells (row .u8 (List.replicate 32 0)) 23)) := (Below.refl _ _).alloc (Nat.le_refl _) _
        have hb15 : Below W0.heap.size W0 (u2.alloc (.cells (row .u8 (List.replicate 32 0)) 23)) := hb2.trans (hn15.mono hb2.size)
        have hge15 := hb2.size
        have ho2n15 := ho2.belowM hn15
        refine hK.out _ _ (fun _ => hS) ?_
        clear hK K
        obtain ⟨G15, hGe15⟩ : ∃ q, u2.heap.size = q := ⟨_, rfl⟩
        obtain ⟨U15, hU15⟩ : ∃ q, u2.alloc (.cells (row .u8 (List.replicate 32 0)) 23) = q := ⟨_, rfl⟩
        have hc15 : u2.alloc (.cells #[.int .u8 0, .int .u8 0, .int .u8 0, .int .u8 0, .int .u8 0, .int .u8 0, .int .u8 0, .int .u8 0, .int .u8 0, .int .u8 0, .int .u8 0, .int .u8 0, .int .u8 0, .int .u8 0, .int .u8 0, .int .u8 0, .int .u8 0, .int .u8 0, .int .u8 0, .int .u8 0, .int .u8 0, .int .u8 0, .int .u8 0, .int .u8 0, .int .u8 0, .int .u8 0, .int .u8 0, .int .u8 0, .int .u8 0, .int .u8 0, .int .u8 0, .int .u8 0] 23) = U15 := hU15
        rw [hU15, hGe15] at hN15
        rw [hU15] at hb15 ho2n15
        rw [hGe15] at hge15
        rw [hc15, hGe15]
        clear hGe15 hU15 hc15 hn15
        refine wpAnyG_one (i := 4) rfl (by kernel_rfl) (by kernel_rfl) (fun K hK => ?_)
        go_simp
        have hN16 : Holds (U15.alloc (.cells (row .u8 [1]) 5)) U15.heap.size .u8 5 [1] := Holds.new U15 .u8 5 [1]
        have hn16 : Below U15.heap.size U15 (U15.alloc (.cells (row .u8 [1]) 5)) := (Below.refl _ _).alloc (Nat.le_refl _) _
        have hb16 : Below W0.heap.size W0 (U15.alloc (.cells (row .u8 [1]) 5)) := hb15.trans (hn16.mono hb15.size)
        have hge16 := hb15.size
        have ho2n15n16 := ho2n15.belowM hn16
        have hN15n16 := hN15.alloc (.cells (row .u8 [1]) 5)
        refine hK.out _ _ (fun _ => hS) ?_
        clear hK K
        obtain ⟨G16, hGe16⟩ : ∃ q, U15.heap.size = q := ⟨_, rfl⟩
        obtain ⟨U16, hU16⟩ : ∃ q, U15.alloc (.cells (row .u8 [1]) 5) = q := ⟨_, rfl⟩
        have hc16 : U15.alloc (.cells #[.int .u8 1] 5) = U16 := hU16
        rw [hU16, hGe16] at hN16
        rw [hU16] at hb16 ho2n15n16 hN15n16
        rw [hGe16] at hge16
        rw [hc16, hGe16]
        clear hGe16 hU16 hc16 hn16
        refine wpAnyG_one (i := 5) rfl (by kernel_rfl) (by kernel_rfl) (fun K hK => ?_)
        refine wp_appA _ _ rfl W0.heap.size _ b rfl ho2n15n16 (some ⟨G16, 0, none⟩) 1 1 [1] rfl (hN16.bytes rfl (by simp)) (by rw [HBL.out]; omega) hb16.size ?_
        intro v17 u17 ho17 hg17
        have hb17 : Below W0.heap.size W0 u17 := below_grown hb16 ho2n15n16 hg17 hb16.size
        have h717 := holds_grown hN15n16 ho2n15n16 hg17 (by decide)
        clear hg17
        refine hK.out _ _ (fun _ => hS) ?_
        clear hK K
        refine wpAnyG_one (i := 6) rfl (by kernel_rfl) (by kernel_rfl) (fun K hK => ?_)
        go_wp2_with (go_at_call 6; refine (hH _ _ _ (hBw.trans (hb17.mono hBw.size)) (hkW.below hb17 hkW.lt) ho17).mono ?_; rintro e u18 ⟨rfl, hx18⟩)
        have hb18 : Below W0.heap.size W0 u18 := hb17.trans (hx18.mono hb17.size)
        have h718 := h717.below hx18 h717.lt
        refine hK.out _ _ (fun _ => hS) ?_
        clear hK K
        refine wpAnyG_one (i := 8) rfl (by kernel_rfl) (by kernel_rfl) (fun K hK => ?_)
        refine wp_st 23 _ _ rfl _ rfl rfl h718 (by rw [hTl]; exact sizeKey) (by simp [hTl]) ?_
        refine hK.out _ _ (fun h => absurd (show true = false from h) (by decide)) ?_
        clear hK K
        refine wpAnyG_done (by kernel_rfl) ?_ _
        refine forget (p := fun y => Exit.then _ _ _ _ y) (fun W => Below W0.heap.size W0 W ∧ Holds W G15 .u8 23 TG) ⟨below_setRow hb18 hge15 _, h718.setRow TG⟩ ?_
        rintro W1 ⟨hb01, hG1⟩
        go_upto_region 4 with fail
        have hBw1 : Below w.heap.size w W1 := hBw.trans (hb01.mono hBw.size)
        have hyA1 := hyA.below hb01
        have cA := fun wx (h : Below W1.heap.size W1 wx) => conv_bytes (hyA1.below h)
        have cB := fun wx (h : Below W1.heap.size W1 wx) => conv_bytes ((hG1.below h hG1.lt).bytes (n := 32) hTl.symm (by omega))
        obtain ⟨SA, hSA⟩ : ∃ s, strOfNums TG = s := ⟨_, rfl⟩
        rw [hSA] at cA cB
        clear hSA hyA1 hG1 hb01 hH
        refine wp_region_gate (fun w' => (convert 24 9 (.slice xa 32 ca)).run Tryd.prog w' = .ok (.string SA) w' ∧ (convert 24 9 (.slice (some ⟨G15, 0, none⟩) 32 32)).run Tryd.prog w' = .ok (.string SA) w') 12 (by kernel_rfl) ?_
        refine wpAnyG_one (i := 0) rfl (by kernel_rfl) (by kernel_rfl) (fun K hK => ?_)
        go_wp2_with (go_at_call 7; refine (hLV _ hBw1.drew).mono ?_; rintro e w9 ⟨rfl, hb9⟩)
        have hB9 : Below W1.heap.size W1 w9 := ((Below.refl _ _).drew).trans hb9
        have hS := And.intro (cA _ hB9) (cB _ hB9)
        refine hK.out _ _ (fun _ => hS) ?_
        clear hK K
        refine wpAnyG_any (i := 1) (v := ?_) rfl (by kernel_rfl) (by kernel_rfl) (by kernel_rfl) (fun _ _ _ h => h) (by kernel_rfl) (fun _ => hS) (by kernel_rfl) ?_ ?_
        rotate_left
        · intro _; go_simp; try with_reducible rfl
        simp only [Act.put, List.setIfInBounds_toArray, List.set_cons_zero, List.set_cons_succ]
        refine wpAnyG_any (i := 2) (v := ?_) rfl (by kernel_rfl) (by kernel_rfl) (by kernel_rfl) (fun _ _ _ h => h) (by kernel_rfl) (fun _ => hS) (by kernel_rfl) ?_ ?_
        rotate_left
        · intro _; go_simp; try with_reducible rfl
        simp only [Act.put, List.setIfInBounds_toArray, List.set_cons_zero, List.set_cons_succ]
        refine wpAnyG_any (i := 3) (v := .bool true) rfl (by kernel_rfl) (by kernel_rfl) (by kernel_rfl) (fun _ _ _ h => h) (by kernel_rfl) (fun _ => hS) (by kernel_rfl) ?_ ?_
        · intro _; go_simp
        simp only [Act.put, List.setIfInBounds_toArray, List.set_cons_zero, List.set_cons_succ]
        refine wpAnyG_any (i := 4) (v := .bool true) rfl (by kernel_rfl) (by kernel_rfl) (by kernel_rfl) (fun _ _ _ h => h) (by kernel_rfl) (fun _ => hS) (by kernel_rfl) ?_ ?_
        · intro _; go_simp
        simp only [Act.put, List.setIfInBounds_toArray, List.set_cons_zero, List.set_cons_succ]
        refine wpAnyG_any (i := 5) (v := .bool true) rfl (by kernel_rfl) (by kernel_rfl) (by kernel_rfl) (fun _ _ _ h => h) (by kernel_rfl) (fun _ => hS) (by kernel_rfl) ?_ ?_
        · intro _; go_simp
        simp only [Act.put, List.setIfInBounds_toArray, List.set_cons_zero, List.set_cons_succ]
        refine wpAnyG_any (i := 6) (v := ?_) rfl (by kernel_rfl) (by kernel_rfl) (by kernel_rfl) (fun _ _ _ h => h) (by kernel_rfl) (fun _ => hS) (by kernel_rfl) ?_ ?_
        rotate_left
        · intro _; go_simp; try with_reducible rfl
        simp only [Act.put, List.setIfInBounds_toArray, List.set_cons_zero, List.set_cons_succ]
        refine wpAnyG_any (i := 8) (v := ?_) rfl (by kernel_rfl) (by kernel_rfl) (by kernel_rfl) (fun _ _ _ h => h) (by kernel_rfl) (fun _ => hS) (by kernel_rfl) ?_ ?_
        rotate_left
        · intro _; go_simp; try with_reducible rfl
        simp only [Act.put, List.setIfInBounds_toArray, List.set_cons_zero, List.set_cons_succ]
        refine wpAnyG_read (i := 7) (v := ?_) rfl (by kernel_rfl) (by kernel_rfl) (by kernel_rfl) (fun _ _ _ h => h) (by kernel_rfl) (by kernel_rfl) (by kernel_rfl) hS (by kernel_rfl) ?_ ?_
        rotate_left
        · intro wx hSw; go_split_ands; go_simp; try with_reducible rfl
        simp only [Act.put, List.setIfInBounds_toArray, List.set_cons_zero, List.set_cons_succ]
        refine wpAnyG_read (i := 9) (v := ?_) rfl (by kernel_rfl) (by kernel_rfl) (by kernel_rfl) (fun _ _ _ h => h) (by kernel_rfl) (by kernel_rfl) (by kernel_rfl) hS (by kernel_rfl) ?_ ?_
        rotate_left
        · intro wx hSw; go_split_ands; go_simp; try with_reducible rfl
        simp only [Act.put, List.setIfInBounds_toArray, List.set_cons_zero, List.set_cons_succ]
        refine wpAnyG_any (i := 10) (v := .bool true) rfl (by kernel_rfl) (by kernel_rfl) (by kernel_rfl) (fun _ _ _ h => h) (by kernel_rfl) (fun _ => hS) (by kernel_rfl) ?_ ?_
        · intro _; go_simp
        simp only [Act.put, List.setIfInBounds_toArray, List.set_cons_zero, List.set_cons_succ]
        refine wpAnyG_any (i := 11) (v := .bool true) rfl (by kernel_rfl) (by kernel_rfl) (by kernel_rfl) (fun _ _ _ h => h) (by kernel_rfl) (fun _ => hS) (by kernel_rfl) ?_ ?_
        · intro _; go_simp
        simp only [Act.put, List.setIfInBounds_toArray, List.set_cons_zero, List.set_cons_succ]
        refine wpAnyG_one (i := 12) rfl (by kernel_rfl) (by kernel_rfl) (fun K hK => ?_)
        go_simp
        refine hK.out _ _ (fun h => absurd (show true = false from h) (by decide)) ?_
        clear hK K
        refine wpAnyG_done (by kernel_rfl) ?_ _
        go_wp2
        go_ret
        exact ⟨rfl, hBw1.trans (hB9.mono hBw1.size)⟩
    · skip
      go_simp
      have hN20 : Holds (U1.alloc (.cells (row .u8 [1]) 5)) U1.heap.size .u8 5 [1] := Holds.new U1 .u8 5 [1]
      have hn20 : Below U1.heap.size U1 (U1.alloc (.cells (row .u8 [1]) 5)) := (Below.refl _ _).alloc (Nat.le_refl _) _
      have hb20 : Below W0.heap.size W0 (U1.alloc (.cells (row .u8 [1]) 5)) := hb1.trans (hn20.mono hb1.size)
      have hge20 := hb1.size
      have hO1n20 := hO1.belowM hn20
      refine hK.out _ _ (fun _ => hS) ?_
      clear hK K
      obtain ⟨G20, hGe20⟩ : ∃ q, U1.heap.size = q := ⟨_, rfl⟩
      have hlt120 := hltg1
      obtain ⟨U20, hU20⟩ : ∃ q, U1.alloc (.cells (row .u8 [1]) 5) = q := ⟨_, rfl⟩
      have hc20 : U1.alloc (.cells #[.int .u8 1] 5) = U20 := hU20
      rw [hU20, hGe20] at hN20
      rw [hU20] at hb20 hO1n20
      rw [hGe20] at hge20 hlt120
      rw [hc20, hGe20]
      have hne20 : G1 ≠ G20 := by omega
      have hltg20 : G1 < U20.heap.size := by rw [← hU20]; simp; omega
      clear hGe20 hU20 hc20 hn20
      refine wpAnyG_two (i := 3) (j := 7) rfl rfl (by kernel_rfl) (by kernel_rfl) (by kernel_rfl) (fun K hK => ?_) (fun K hK => ?_)
      · skip
        refine wp_appA _ _ rfl W0.heap.size _ [] rfl hO1n20 y m cb b rfl (hyW.below hb20) (by simp; omega) hb20.size ?_
        intro v21 u21 ho21 hg21
        have hb21 : Below W0.heap.size W0 u21 := below_grown hb20 hO1n20 hg21 hb20.size
        rw [List.nil_append] at ho21
        have h421 := holds_grownA hN20 hg21 hne20
        clear hg21
        refine hK.out _ _ (fun _ => hS) ?_
        clear hK K
        refine wpAnyG_two (i := 5) (j := 7) rfl rfl (by kernel_rfl) (by kernel_rfl) (by kernel_rfl) (fun K hK => ?_) (fun K hK => ?_)
        · skip
          refine wp_appA _ _ rfl W0.heap.size _ b rfl ho21 (some ⟨G20, 0, none⟩) 1 1 [1] rfl (h421.bytes rfl (by simp)) (by rw [HBL.out]; omega) hb21.size ?_
          intro v22 u22 ho22 hg22
          have hb22 : Below W0.heap.size W0 u22 := below_grown hb21 ho21 hg22 hb21.size
          clear hg22
          refine hK.out _ _ (fun _ => hS) ?_
          clear hK K
          refine wpAnyG_two (i := 6) (j := 7) rfl rfl (by kernel_rfl) (by kernel_rfl) (by kernel_rfl) (fun K hK => ?_) (fun K hK => ?_)
          · skip
            go_wp2_with (go_at_call 6; refine (hH _ _ _ (hBw.trans (hb22.mono hBw.size)) (hkW.below hb22 hkW.lt) ho22).mono ?_; rintro e u23 ⟨rfl, hx23⟩)
            have hb23 : Below W0.heap.size W0 u23 := hb22.trans (hx23.mono hb22.size)
            refine hK.out _ _ (fun _ => hS) ?_
            clear hK K
            refine wpAnyG_one (i := 7) rfl (by kernel_rfl) (by kernel_rfl) (fun K hK => ?_)
            go_simp
            have hN24 : Holds (u23.alloc (.cells (row .u8 (List.replicate 32 0)) 23)) u23.heap.size .u8 23 (List.replicate 32 0) := Holds.new u23 .u8 23 (List.replicate 32 0)
            have hn24 : Below u23.heap.size u23 (u23.alloc (.cells (row .u8 (List.replicate 32 0)) 23)) := (Below.refl _ _).alloc (Nat.le_refl _) _
            have hb24 : Below W0.heap.size W0 (u23.alloc (.cells (row .u8 (List.replicate 32 0)) 23)) := hb23.trans (hn24.mono hb23.size)
            have hge24 := hb23.size
            refine hK.out _ _ (fun _ => hS) ?_
            clear hK K
            obtain ⟨G24, hGe24⟩ : ∃ q, u23.heap.size = q := ⟨_, rfl⟩
            obtain ⟨U24, hU24⟩ : ∃ q, u23.alloc (.cells (row .u8 (List.replicate 32 0)) 23) = q := ⟨_, rfl⟩
            have hc24 : u23.alloc (.cells #[.int .u8 0, .int .u8 0, .int .u8 0, .int .u8 0, .int .u8 0, .int .u8 0, .int .u8 0, .int .u8 0, .int .u8 0, .int .u8 0, .int .u8 0, .int .u8 0, .int .u8 0, .int .u8 0, .int .u8 0, .int .u8 0, .int .u8 0, .int .u8 0, .int .u8 0, .int .u8 0, .int .u8 0, .int .u8 0, .int .u8 0, .int .u8 0, .int .u8 0, .int .u8 0, .int .u8 0, .int .u8 0, .int .u8 0, .int .u8 0, .int .u8 0, .int .u8 0] 23) = U24 := hU24
            rw [hU24, hGe24] at hN24
            rw [hU24] at hb24 
            rw [hGe24] at hge24
            rw [hc24, hGe24]
            clear hGe24 hU24 hc24 hn24
            refine wpAnyG_one (i := 8) rfl (by kernel_rfl) (by kernel_rfl) (fun K hK => ?_)
            refine wp_st 23 _ _ rfl _ rfl rfl hN24 (by rw [hTl]; exact sizeKey) (by simp [hTl]) ?_
            refine hK.out _ _ (fun h => absurd (show true = false from h) (by decide)) ?_
            clear hK K
            refine wpAnyG_done (by kernel_rfl) ?_ _
            refine forget (p := fun y => Exit.then _ _ _ _ y) (fun W => Below W0.heap.size W0 W ∧ Holds W G24 .u8 23 TG) ⟨below_setRow hb24 hge24 _, hN24.setRow TG⟩ ?_
            rintro W1 ⟨hb01, hG1⟩
            go_upto_region 4 with fail
            have hBw1 : Below w.heap.size w W1 := hBw.trans (hb01.mono hBw.size)
            have hyA1 := hyA.below hb01
            have cA := fun wx (h : Below W1.heap.size W1 wx) => conv_bytes (hyA1.below h)
            have cB := fun wx (h : Below W1.heap.size W1 wx) => conv_bytes ((hG1.below h hG1.lt).bytes (n := 32) hTl.symm (by omega))
            obtain ⟨SA, hSA⟩ : ∃ s, strOfNums TG = s := ⟨_, rfl⟩
            rw [hSA] at cA cB
            clear hSA hyA1 hG1 hb01 hH
            refine wp_region_gate (fun w' => (convert 24 9 (.slice xa 32 ca)).run Tryd.prog w' = .ok (.string SA) w' ∧ (convert 24 9 (.slice (some ⟨G24, 0, none⟩) 32 32)).run Tryd.prog w' = .ok (.string SA) w') 12 (by kernel_rfl) ?_
            refine wpAnyG_one (i := 0) rfl (by kernel_rfl) (by kernel_rfl) (fun K hK => ?_)
            go_wp2_with (go_at_call 7; refine (hLV _ hBw1.drew).mono ?_; rintro e w9 ⟨rfl, hb9⟩)
            have hB9 : Below W1.heap.size W1 w9 := ((Below.refl _ _).drew).trans hb9
            have hS := And.intro (cA _ hB9) (cB _ hB9)
            refine hK.out _ _ (fun _ => hS) ?_
            clear hK K
            refine wpAnyG_any (i := 1) (v := ?_) rfl (by kernel_rfl) (by kernel_rfl) (by kernel_rfl) (fun _ _ _ h => h) (by kernel_rfl) (fun _ => hS) (by kernel_rfl) ?_ ?_
            rotate_left
            · intro _; go_simp; try with_reducible rfl
            simp only [Act.put, List.setIfInBounds_toArray, List.set_cons_zero, List.set_cons_succ]
            refine wpAnyG_any (i := 2) (v := ?_) rfl (by kernel_rfl) (by kernel_rfl) (by kernel_rfl) (fun _ _ _ h => h) (by kernel_rfl) (fun _ => hS) (by kernel_rfl) ?_ ?_
            rotate_left
            · intro _; go_simp; try with_reducible rfl
            simp only [Act.put, List.setIfInBounds_toArray, List.set_cons_zero, List.set_cons_succ]
            refine wpAnyG_any (i := 3) (v := .bool true) rfl (by kernel_rfl) (by kernel_rfl) (by kernel_rfl) (fun _ _ _ h => h) (by kernel_rfl) (fun _ => hS) (by kernel_rfl) ?_ ?_
            · intro _; go_simp
            simp only [Act.put, List.setIfInBounds_toArray, List.set_cons_zero, List.set_cons_succ]
            refine wpAnyG_any (i := 4) (v := .bool true) rfl (by kernel_rfl) (by kernel_rfl) (by kernel_rfl) (fun _ _ _ h => h) (by kernel_rfl) (fun _ => hS) (by kernel_rfl) ?_ ?_
            · intro _; go_simp
            simp only [Act.put, List.setIfInBounds_toArray, List.set_cons_zero, List.set_cons_succ]
            refine wpAnyG_any (i := 5) (v := .bool true) rfl (by kernel_rfl) (by kernel_rfl) (by kernel_rfl) (fun _ _ _ h => h) (by kernel_rfl) (fun _ => hS) (by kernel_rfl) ?_ ?_
            · intro _; go_simp
            simp only [Act.put, List.setIfInBounds_toArray, List.set_cons_zero, List.set_cons_succ]
            refine wpAnyG_any (i := 6) (v := ?_) rfl (by kernel_rfl) (by kernel_rfl) (by kernel_rfl) (fun _ _ _ h => h) (by kernel_rfl) (fun _ => hS) (by kernel_rfl) ?_ ?_
            rotate_left
            · intro _; go_simp; try with_reducible rfl
            simp only [Act.put, List.setIfInBounds_toArray, List.set_cons_zero, List.set_cons_succ]
            refine wpAnyG_any (i := 8) (v := ?_) rfl (by kernel_rfl) (by kernel_rfl) (by kernel_rfl) (fun _ _ _ h => h) (by kernel_rfl) (fun _ => hS) (by kernel_rfl) ?_ ?_
            rotate_left
            · intro _; go_simp; try with_reducible rfl
            simp only [Act.put, List.setIfInBounds_toArray, List.set_cons_zero, List.set_cons_succ]
            refine wpAnyG_read (i := 7) (v := ?_) rfl (by kernel_rfl) (by kernel_rfl) (by kernel_rfl) (fun _ _ _ h => h) (by kernel_rfl) (by kernel_rfl) (by kernel_rfl) hS (by kernel_rfl) ?_ ?_
            rotate_left
            · intro wx hSw; go_split_ands; go_simp; try with_reducible rfl
            simp only [Act.put, List.setIfInBounds_toArray, List.set_cons_zero, List.set_cons_succ]
            refine wpAnyG_read (i := 9) (v := ?_) rfl (by kernel_rfl) (by kernel_rfl) (by kernel_rfl) (fun _ _ _ h => h) (by kernel_rfl) (by kernel_rfl) (by kernel_rfl) hS (by kernel_rfl) ?_ ?_
            rotate_left
            · intro wx hSw; go_split_ands; go_simp; try with_reducible rfl
            simp only [Act.put, List.setIfInBounds_toArray, List.set_cons_zero, List.set_cons_succ]
            refine wpAnyG_any (i := 10) (v := .bool true) rfl (by kernel_rfl) (by kernel_rfl) (by kernel_rfl) (fun _ _ _ h => h) (by kernel_rfl) (fun _ => hS) (by kernel_rfl) ?_ ?_
            · intro _; go_simp
            simp only [Act.put, List.setIfInBounds_toArray, List.set_cons_zero, List.set_cons_succ]
            refine wpAnyG_any (i := 11) (v := .bool true) rfl (by kernel_rfl) (by kernel_rfl) (by kernel_rfl) (fun _ _ _ h => h) (by kernel_rfl) (fun _ => hS) (by kernel_rfl) ?_ ?_
            · intro _; go_simp
            simp only [Act.put, List.setIfInBounds_toArray, List.set_cons_zero, List.set_cons_succ]
            refine wpAnyG_one (i := 12) rfl (by kernel_rfl) (by kernel_rfl) (fun K hK => ?_)
            go_simp
            refine hK.out _ _ (fun h => absurd (show true = false from h) (by decide)) ?_
            clear hK K
            refine wpAnyG_done (by kernel_rfl) ?_ _
            go_wp2
            go_ret
            exact ⟨rfl, hBw1.trans (hB9.mono hBw1.size)⟩
          · skip
            go_simp
            have hN26 : Holds (u22.alloc (.cells (row .u8 (List.replicate 32 0)) 23)) u22.heap.size .u8 23 (List.replicate 32 0) := Holds.new u22 .u8 23 (List.replicate 32 0)
            have hn26 : Below u22.heap.size u22 (u22.alloc (.cells (row .u8 (List.replicate 32 0)) 23)) := (Below.refl _ _).alloc (Nat.le_refl _) _
            have hb26 : Below W0.heap.size W0 (u22.alloc (.cells (row .u8 (List.replicate 32 0)) 23)) := hb22.trans (hn26.mono hb22.size)
            have hge26 := hb22.size
            have ho22n26 := ho22.belowM hn26
            refine hK.out _ _ (fun _ => hS) ?_
            clear hK K
            obtain ⟨G26, hGe26⟩ : ∃ q, u22.heap.size = q := ⟨_, rfl⟩
            obtain ⟨U26, hU26⟩ : ∃ q, u22.alloc (.cells (row .u8 (List.replicate 32 0)) 23) = q := ⟨_, rfl⟩
            have hc26 : u22.alloc (.cells #[.int .u8 0, .int .u8 0, .int .u8 0, .int .u8 0, .int .u8 0, .int .u8 0, .int .u8 0, .int .u8 0, .int .u8 0, .int .u8 0, .int .u8 0, .int .u8 0, .int .u8 0, .int .u8 0, .int .u8 0, .int .u8 0, .int .u8 0, .int .u8 0, .int .u8 0, .int .u8 0, .int .u8 0, .int .u8 0, .int .u8 0, .int .u8 0, .int .u8 0, .int .u8 0, .int .u8 0, .int .u8 0, .int .u8 0, .int .u8 0, .int .u8 0, .int .u8 0] 23) = U26 := hU26
            rw [hU26, hGe26] at hN26
            rw [hU26] at hb26 ho22n26
            rw [hGe26] at hge26
            rw [hc26, hGe26]
            clear hGe26 hU26 hc26 hn26
            refine wpAnyG_one (i := 6) rfl (by kernel_rfl) (by kernel_rfl) (fun K hK => ?_)
            go_wp2_with (go_at_call 6; refine (hH _ _ _ (hBw.trans (hb26.mono hBw.size)) (hkW.below hb26 hkW.lt) ho22n26).mono ?_; rintro e u27 ⟨rfl, hx27⟩)
            have hb27 : Below W0.heap.size W0 u27 := hb26.trans (hx27.mono hb26.size)
            have h727 := hN26.below hx27 hN26.lt
            refine hK.out _ _ (fun _ => hS) ?_
            clear hK K
            refine wpAnyG_one (i := 8) rfl (by kernel_rfl) (by kernel_rfl) (fun K hK => ?_)
            refine wp_st 23 _ _ rfl _ rfl rfl h727 (by rw [hTl]; exact sizeKey) (by simp [hTl]) ?_
            refine hK.out _ _ (fun h => absurd (show true = false from h) (by decide)) ?_
            clear hK K
            refine wpAnyG_done (by kernel_rfl) ?_ _
            refine forget (p := fun y => Exit.then _ _ _ _ y) (fun W => Below W0.heap.size W0 W ∧ Holds W G26 .u8 23 TG) ⟨below_setRow hb27 hge26 _, h727.setRow TG⟩ ?_
            rintro W1 ⟨hb01, hG1⟩
            go_upto_region 4 with fail
            have hBw1 : Below w.heap.size w W1 := hBw.trans (hb01.mono hBw.size)
            have hyA1 := hyA.below hb01
            have cA := fun wx (h : Below W1.heap.size W1 wx) => conv_bytes (hyA1.below h)
            have cB := fun wx (h : Below W1.heap.size W1 wx) => conv_bytes ((hG1.below h hG1.lt).bytes (n := 32) hTl.symm (by omega))
            obtain ⟨SA, hSA⟩ : ∃ s, strOfNums TG = s := ⟨_, rfl⟩
            rw [hSA] at cA cB
            clear hSA hyA1 hG1 hb01 hH
            refine wp_region_gate (fun w' => (convert 24 9 (.slice xa 32 ca)).run Tryd.prog w' = .ok (.string SA) w' ∧ (convert 24 9 (.slice (some ⟨G26, 0, none⟩) 32 32)).run Tryd.prog w' = .ok (.string SA) w') 12 (by kernel_rfl) ?_
            refine wpAnyG_one (i := 0) rfl (by kernel_rfl) (by kernel_rfl) (fun K hK => ?_)
            go_wp2_with (go_at_call 7; refine (hLV _ hBw1.drew).mono ?_; rintro e w9 ⟨rfl, hb9⟩)
            have hB9 : Below W1.heap.size W1 w9 := ((Below.refl _ _).drew).trans hb9
            have hS := And.intro (cA _ hB9) (cB _ hB9)
            refine hK.out _ _ (fun _ => hS) ?_
            clear hK K
            refine wpAnyG_any (i := 1) (v := ?_) rfl (by kernel_rfl) (by kernel_rfl) (by kernel_rfl) (fun _ _ _ h => h) (by kernel_rfl) (fun _ => hS) (by kernel_rfl) ?_ ?_
            rotate_left
            · intro _; go_simp; try with_reducible rfl
            simp only [Act.put, List.setIfInBounds_toArray, List.set_cons_zero, List.set_cons_succ]
            refine wpAnyG_any (i := 2) (v := ?_) rfl (by kernel_rfl) (by kernel_rfl) (by kernel_rfl) (fun _ _ _ h => h) (by kernel_rfl) (fun _ => hS) (by kernel_rfl) ?_ ?_
            rotate_left
            · intro _; go_simp; try with_reducible rfl
            simp only [Act.put, List.setIfInBounds_toArray, List.set_cons_zero, List.set_cons_succ]
            refine wpAnyG_any (i := 3) (v := .bool true) rfl (by kernel_rfl) (by kernel_rfl) (by kernel_rfl) (fun _ _ _ h => h) (by kernel_rfl) (fun _ => hS) (by kernel_rfl) ?_ ?_
            · intro _; go_simp
            simp only [Act.put, List.setIfInBounds_toArray, List.set_cons_zero, List.set_cons_succ]
            refine wpAnyG_any (i := 4) (v := .bool true) rfl (by kernel_rfl) (by kernel_rfl) (by kernel_rfl) (fun _ _ _ h => h) (by kernel_rfl) (fun _ => hS) (by kernel_rfl) ?_ ?_
            · intro _; go_simp
            simp only [Act.put, List.setIfInBounds_toArray, List.set_cons_zero, List.set_cons_succ]
            refine wpAnyG_any (i := 5) (v := .bool true) rfl (by kernel_rfl) (by kernel_rfl) (by kernel_rfl) (fun _ _ _ h => h) (by kernel_rfl) (fun _ => hS) (by kernel_rfl) ?_ ?_
            · intro _; go_simp
            simp only [Act.put, List.setIfInBounds_toArray, List.set_cons_zero, List.set_cons_succ]
            refine wpAnyG_any (i := 6) (v := ?_) rfl (by kernel_rfl) (by kernel_rfl) (by kernel_rfl) (fun _ _ _ h => h) (by kernel_rfl) (fun _ => hS) (by kernel_rfl) ?_ ?_
            rotate_left
            · intro _; go_simp; try with_reducible rfl
            simp only [Act.put, List.setIfInBounds_toArray, List.set_cons_zero, List.set_cons_succ]
            refine wpAnyG_any (i := 8) (v := ?_) rfl (by kernel_rfl) (by kernel_rfl) (by kernel_rfl) (fun _ _ _ h => h) (by kernel_rfl) (fun _ => hS) (by kernel_rfl) ?_ ?_
            rotate_left
            · intro _; go_simp; try with_reducible rfl
            simp only [Act.put, List.setIfInBounds_toArray, List.set_cons_zero, List.set_cons_succ]
            refine wpAnyG_read (i := 7) (v := ?_) rfl (by kernel_rfl) (by kernel_rfl) (by kernel_rfl) (fun _ _ _ h => h) (by kernel_rfl) (by kernel_rfl) (by kernel_rfl) hS (by kernel_rfl) ?_ ?_
            rotate_left
            · intro wx hSw; go_split_ands; go_simp; try with_reducible rfl
            simp only [Act.put, List.setIfInBounds_toArray, List.set_cons_zero, List.set_cons_succ]
            refine wpAnyG_read (i := 9) (v := ?_) rfl (by kernel_rfl) (by kernel_rfl) (by kernel_rfl) (fun _ _ _ h => h) (by kernel_rfl) (by kernel_rfl) (by kernel_rfl) hS (by kernel_rfl) ?_ ?_
            rotate_left
            · intro wx hSw; go_split_ands; go_simp; try with_reducible rfl
            simp only [Act.put, List.setIfInBounds_toArray, List.set_cons_zero, List.set_cons_succ]
            refine wpAnyG_any (i := 10) (v := .bool true) rfl (by kernel_rfl) (by kernel_rfl) (by kernel_rfl) (fun _ _ _ h => h) (by kernel_rfl) (fun _ => hS) (by kernel_rfl) ?_ ?_
            · intro _; go_simp
            simp only [Act.put, List.setIfInBounds_toArray, List.set_cons_zero, List.set_cons_succ]
            refine wpAnyG_any (i := 11) (v := .bool true) rfl (by kernel_rfl) (by kernel_rfl) (by kernel_rfl) (fun _ _ _ h => h) (by kernel_rfl) (fun _ => hS) (by kernel_rfl) ?_ ?_
            · intro _; go_simp
            simp only [Act.put, List.setIfInBounds_toArray, List.set_cons_zero, List.set_cons_succ]
            refine wpAnyG_one (i := 12) rfl (by kernel_rfl) (by kernel_rfl) (fun K hK => ?_)
            go_simp
            refine hK.out _ _ (fun h => absurd (show true = false from h) (by decide)) ?_
            clear hK K
            refine wpAnyG_done (by kernel_rfl) ?_ _
            go_wp2
            go_ret
            exact ⟨rfl, hBw1.trans (hB9.mono hBw1.size)⟩
        · skip
          go_simp
          have hN29 : Holds (u21.alloc (.cells (row .u8 (List.replicate 32 0)) 23)) u21.heap.size .u8 23 (List.replicate 32 0) := Holds.new u21 .u8 23 (List.replicate 32 0)
          have hn29 : Below u21.heap.size u21 (u21.alloc (.cells (row .u8 (List.replicate 32 0)) 23)) := (Below.refl _ _).alloc (Nat.le_refl _) _
          have hb29 : Below W0.heap.size W0 (u21.alloc (.cells (row .u8 (List.replicate 32 0)) 23)) := hb21.trans (hn29.mono hb21.size)
          have hge29 := hb21.size
          have ho21n29 := ho21.belowM hn29
          have h421n29 := h421.alloc (.cells (row .u8 (List.replicate 32 0)) 23)
          refine hK.out _ _ (fun _ => hS) ?_
          clear hK K
          obtain ⟨G29, hGe29⟩ : ∃ q, u21.heap.size = q := ⟨_, rfl⟩
          have hlt429 := h421.lt
          obtain ⟨U29, hU29⟩ : ∃ q, u21.alloc (.cells (row .u8 (List.replicate 32 0)) 23) = q := ⟨_, rfl⟩
          have hc29 : u21.alloc (.cells #[.int .u8 0, .int .u8 0, .int .u8 0, .int .u8 0, .int .u8 0, .int .u8 0, .int .u8 0, .int .u8 0, .int .u8 0, .int .u8 0, .int .u8 0, .int .u8 0, .int .u8 0, .int .u8 0, .int .u8 0, .int .u8 0, .int .u8 0, .int .u8 0, .int .u8 0, .int .u8 0, .int .u8 0, .int .u8 0, .int .u8 0, .int .u8 0, .int .u8 0, .int .u8 0, .int .u8 0, .int .u8 0, .int .u8 0, .int .u8 0, .int .u8 0, .int .u8 0] 23) = U29 := hU29
          rw [hU29, hGe29] at hN29
          rw [hU29] at hb29 ho21n29 h421n29
          rw [hGe29] at hge29 hlt429
          rw [hc29, hGe29]
          clear hGe29 hU29 hc29 hn29
          refine wpAnyG_one (i := 5) rfl (by kernel_rfl) (by kernel_rfl) (fun K hK => ?_)
          refine wp_appA _ _ rfl W0.heap.size _ b rfl ho21n29 (some ⟨G20, 0, none⟩) 1 1 [1] rfl (h421n29.bytes rfl (by simp)) (by rw [HBL.out]; omega) hb29.size ?_
          intro v30 u30 ho30 hg30
          have hb30 : Below W0.heap.size W0 u30 := below_grown hb29 ho21n29 hg30 hb29.size
          have h730 := holds_grown hN29 ho21n29 hg30 (by decide)
          clear hg30
          refine hK.out _ _ (fun _ => hS) ?_
          clear hK K
          refine wpAnyG_one (i := 6) rfl (by kernel_rfl) (by kernel_rfl) (fun K hK => ?_)
          go_wp2_with (go_at_call 6; refine (hH _ _ _ (hBw.trans (hb30.mono hBw.size)) (hkW.below hb30 hkW.lt) ho30).mono ?_; rintro e u31 ⟨rfl, hx31⟩)
          have hb31 : Below W0.heap.size W0 u31 := hb30.trans (hx31.mono hb30.size)
          have h731 := h730.below hx31 h730.lt
          refine hK.out _ _ (fun _ => hS) ?_
          clear hK K
          refine wpAnyG_one (i := 8) rfl (by kernel_rfl) (by kernel_rfl) (fun K hK => ?_)
          refine wp_st 23 _ _ rfl _ rfl rfl h731 (by rw [hTl]; exact sizeKey) (by simp [hTl]) ?_
          refine hK.out _ _ (fun h => absurd (show true = false from h) (by decide)) ?_
          clear hK K
          refine wpAnyG_done (by kernel_rfl) ?_ _
          refine forget (p := fun y => Exit.then _ _ _ _ y) (fun W => Below W0.heap.size W0 W ∧ Holds W G29 .u8 23 TG) ⟨below_setRow hb31 hge29 _, h731.setRow TG⟩ ?_
          rintro W1 ⟨hb01, hG1⟩
          go_upto_region 4 with fail
          have hBw1 : Below w.heap.size w W1 := hBw.trans (hb01.mono hBw.size)
          have hyA1 := hyA.below hb01
          have cA := fun wx (h : Below W1.heap.size W1 wx) => conv_bytes (hyA1.below h)
          have cB := fun wx (h : Below W1.heap.size W1 wx) => conv_bytes ((hG1.below h hG1.lt).bytes (n := 32) hTl.symm (by omega))
          obtain ⟨SA, hSA⟩ : ∃ s, strOfNums TG = s := ⟨_, rfl⟩
          rw [hSA] at cA cB
          clear hSA hyA1 hG1 hb01 hH
          refine wp_region_gate (fun w' => (convert 24 9 (.slice xa 32 ca)).run Tryd.prog w' = .ok (.string SA) w' ∧ (convert 24 9 (.slice (some ⟨G29, 0, none⟩) 32 32)).run Tryd.prog w' = .ok (.string SA) w') 12 (by kernel_rfl) ?_
          refine wpAnyG_one (i := 0) rfl (by kernel_rfl) (by kernel_rfl) (fun K hK => ?_)
          go_wp2_with (go_at_call 7; refine (hLV _ hBw1.drew).mono ?_; rintro e w9 ⟨rfl, hb9⟩)
          have hB9 : Below W1.heap.size W1 w9 := ((Below.refl _ _).drew).trans hb9
          have hS := And.intro (cA _ hB9) (cB _ hB9)
          refine hK.out _ _ (fun _ => hS) ?_
          clear hK K
          refine wpAnyG_any (i := 1) (v := ?_) rfl (by kernel_rfl) (by kernel_rfl) (by kernel_rfl) (fun _ _ _ h => h) (by kernel_rfl) (fun _ => hS) (by kernel_rfl) ?_ ?_
          rotate_left
          · intro _; go_simp; try with_reducible rfl
          simp only [Act.put, List.setIfInBounds_toArray, List.set_cons_zero, List.set_cons_succ]
          refine wpAnyG_any (i := 2) (v := ?_) rfl (by kernel_rfl) (by kernel_rfl) (by kernel_rfl) (fun _ _ _ h => h) (by kernel_rfl) (fun _ => hS) (by kernel_rfl) ?_ ?_
          rotate_left
          · intro _; go_simp; try with_reducible rfl
          simp only [Act.put, List.setIfInBounds_toArray, List.set_cons_zero, List.set_cons_succ]
          refine wpAnyG_any (i := 3) (v := .bool true) rfl (by kernel_rfl) (by kernel_rfl) (by kernel_rfl) (fun _ _ _ h => h) (by kernel_rfl) (fun _ => hS) (by kernel_rfl) ?_ ?_
          · intro _; go_simp
          simp only [Act.put, List.setIfInBounds_toArray, List.set_cons_zero, List.set_cons_succ]
          refine wpAnyG_any (i := 4) (v := .bool true) rfl (by kernel_rfl) (by kernel_rfl) (by kernel_rfl) (fun _ _ _ h => h) (by kernel_rfl) (fun _ => hS) (by kernel_rfl) ?_ ?_
          · intro _; go_simp
          simp only [Act.put, List.setIfInBounds_toArray, List.set_cons_zero, List.set_cons_succ]
          refine wpAnyG_any (i := 5) (v := .bool true) rfl (by kernel_rfl) (by kernel_rfl) (by kernel_rfl) (fun _ _ _ h => h) (by kernel_rfl) (fun _ => hS) (by kernel_rfl) ?_ ?_
          · intro _; go_simp
          simp only [Act.put, List.setIfInBounds_toArray, List.set_cons_zero, List.set_cons_succ]
          refine wpAnyG_any (i := 6) (v := ?_) rfl (by kernel_rfl) (by kernel_rfl) (by kernel_rfl) (fun _ _ _ h => h) (by kernel_rfl) (fun _ => hS) (by kernel_rfl) ?_ ?_
          rotate_left
          · intro _; go_simp; try with_reducible rfl
          simp only [Act.put, List.setIfInBounds_toArray, List.set_cons_zero, List.set_cons_succ]
          refine wpAnyG_any (i := 8) (v := ?_) rfl (by kernel_rfl) (by kernel_rfl) (by kernel_rfl) (fun _ _ _ h => h) (by kernel_rfl) (fun _ => hS) (by kernel_rfl) ?_ ?_
          rotate_left
          · intro _; go_simp; try with_reducible rfl
          simp only [Act.put, List.setIfInBounds_toArray, List.set_cons_zero, List.set_cons_succ]
          refine wpAnyG_read (i := 7) (v := ?_) rfl (by kernel_rfl) (by kernel_rfl) (by kernel_rfl) (fun _ _ _ h => h) (by kernel_rfl) (by kernel_rfl) (by kernel_rfl) hS (by kernel_rfl) ?_ ?_
          rotate_left
          · intro wx hSw; go_split_ands; go_simp; try with_reducible rfl
          simp only [Act.put, List.setIfInBounds_toArray, List.set_cons_zero, List.set_cons_succ]
          refine wpAnyG_read (i := 9) (v := ?_) rfl (by kernel_rfl) (by kernel_rfl) (by kernel_rfl) (fun _ _ _ h => h) (by kernel_rfl) (by kernel_rfl) (by kernel_rfl) hS (by kernel_rfl) ?_ ?_
          rotate_left
          · intro wx hSw; go_split_ands; go_simp; try with_reducible rfl
          simp only [Act.put, List.setIfInBounds_toArray, List.set_cons_zero, List.set_cons_succ]
          refine wpAnyG_any (i := 10) (v := .bool true) rfl (by kernel_rfl) (by kernel_rfl) (by kernel_rfl) (fun _ _ _ h => h) (by kernel_rfl) (fun _ => hS) (by kernel_rfl) ?_ ?_
          · intro _; go_simp
          simp only [Act.put, List.setIfInBounds_toArray, List.set_cons_zero, List.set_cons_succ]
          refine wpAnyG_any (i := 11) (v := .bool true) rfl (by kernel_rfl) (by kernel_rfl) (by kernel_rfl) (fun _ _ _ h => h) (by kernel_rfl) (fun _ => hS) (by kernel_rfl) ?_ ?_
          · intro _; go_simp
          simp only [Act.put, List.setIfInBounds_toArray, List.set_cons_zero, List.set_cons_succ]
          refine wpAnyG_one (i := 12) rfl (by kernel_rfl) (by kernel_rfl) (fun K hK => ?_)
          go_simp
          refine hK.out _ _ (fun h => absurd (show true = false from h) (by decide)) ?_
          clear hK K
          refine wpAnyG_done (by kernel_rfl) ?_ _
          go_wp2
          go_ret
          exact ⟨rfl, hBw1.trans (hB9.mono hBw1.size)⟩
      · skip
        go_simp
        have hN33 : Holds (U20.alloc (.cells (row .u8 (List.replicate 32 0)) 23)) U20.heap.size .u8 23 (List.replicate 32 0) := Holds.new U20 .u8 23 (List.replicate 32 0)
        have hn33 : Below U20.heap.size U20 (U20.alloc (.cells (row .u8 (List.replicate 32 0)) 23)) := (Below.refl _ _).alloc (Nat.le_refl _) _
        have hb33 : Below W0.heap.size W0 (U20.alloc (.cells (row .u8 (List.replicate 32 0)) 23)) := hb20.trans (hn33.mono hb20.size)
        have hge33 := hb20.size
        have hO1n20n33 := hO1n20.belowM hn33
        have hN20n33 := hN20.alloc (.cells (row .u8 (List.replicate 32 0)) 23)
        refine hK.out _ _ (fun _ => hS) ?_
        clear hK K
        obtain ⟨G33, hGe33⟩ : ∃ q, U20.heap.size = q := ⟨_, rfl⟩
        have hlt433 := hN20.lt
        have hlt133 := hltg20
        obtain ⟨U33, hU33⟩ : ∃ q, U20.alloc (.cells (row .u8 (List.replicate 32 0)) 23) = q := ⟨_, rfl⟩
        have hc33 : U20.alloc (.cells #[.int .u8 0, .int .u8 0, .int .u8 0, .int .u8 0, .int .u8 0, .int .u8 0, .int .u8 0, .int .u8 0, .int .u8 0, .int .u8 0, .int .u8 0, .int .u8 0, .int .u8 0, .int .u8 0, .int .u8 0, .int .u8 0, .int .u8 0, .int .u8 0, .int .u8 0, .int .u8 0, .int .u8 0, .int .u8 0, .int .u8 0, .int .u8 0, .int .u8 0, .int .u8 0, .int .u8 0, .int .u8 0, .int .u8 0, .int .u8 0, .int .u8 0, .int .u8 0] 23) = U33 := hU33
        rw [hU33, hGe33] at hN33
        rw [hU33] at hb33 hO1n20n33 hN20n33
        rw [hGe33] at hge33 hlt433 hlt133
        rw [hc33, hGe33]
        have hltg33 : G1 < U33.heap.size := by rw [← hU33]; simp; omega
        clear hGe33 hU33 hc33 hn33
        refine wpAnyG_one (i := 3) rfl (by kernel_rfl) (by kernel_rfl) (fun K hK => ?_)
        refine wp_appA _ _ rfl W0.heap.size _ [] rfl hO1n20n33 y m cb b rfl (hyW.below hb33) (by simp; omega) hb33.size ?_
        intro v34 u34 ho34 hg34
        have hb34 : Below W0.heap.size W0 u34 := below_grown hb33 hO1n20n33 hg34 hb33.size
        rw [List.nil_append] at ho34
        have h434 := holds_grownA hN20n33 hg34 hne20
        have h734 := holds_grown hN33 hO1n20n33 hg34 (by decide)
        clear hg34
        refine hK.out _ _ (fun _ => hS) ?_
        clear hK K
        refine wpAnyG_one (i := 5) rfl (by kernel_rfl) (by kernel_rfl) (fun K hK => ?_)
        refine wp_appA _ _ rfl W0.heap.size _ b rfl ho34 (some ⟨G20, 0, none⟩) 1 1 [1] rfl (h434.bytes rfl (by simp)) (by rw [HBL.out]; omega) hb34.size ?_
        intro v35 u35 ho35 hg35
        have hb35 : Below W0.heap.size W0 u35 := below_grown hb34 ho34 hg35 hb34.size
        have h735 := holds_grown h734 ho34 hg35 (by decide)
        clear hg35
        refine hK.out _ _ (fun _ => hS) ?_
        clear hK K
        refine wpAnyG_one (i := 6) rfl (by kernel_rfl) (by kernel_rfl) (fun K hK => ?_)
        go_wp2_with (go_at_call 6; refine (hH _ _ _ (hBw.trans (hb35.mono hBw.size)) (hkW.below hb35 hkW.lt) ho35).mono ?_; rintro e u36 ⟨rfl, hx36⟩)
        have hb36 : Below W0.heap.size W0 u36 := hb35.trans (hx36.mono hb35.size)
        have h736 := h735.below hx36 h735.lt
        refine hK.out _ _ (fun _ => hS) ?_
        clear hK K
        refine wpAnyG_one (i := 8) rfl (by kernel_rfl) (by kernel_rfl) (fun K hK => ?_)
        refine wp_st 23 _ _ rfl _ rfl rfl h736 (by rw [hTl]; exact sizeKey) (by simp [hTl]) ?_
        refine hK.out _ _ (fun h => absurd (show true = false from h) (by decide)) ?_
        clear hK K
        refine wpAnyG_done (by kernel_rfl) ?_ _
        refine forget (p := fun y => Exit.then _ _ _ _ y) (fun W => Below W0.heap.size W0 W ∧ Holds W G33 .u8 23 TG) ⟨below_setRow hb36 hge33 _, h736.setRow TG⟩ ?_
        rintro W1 ⟨hb01, hG1⟩
        go_upto_region 4 with fail
        have hBw1 : Below w.heap.size w W1 := hBw.trans (hb01.mono hBw.size)
        have hyA1 := hyA.below hb01
        have cA := fun wx (h : Below W1.heap.size W1 wx) => conv_bytes (hyA1.below h)
        have cB := fun wx (h : Below W1.heap.size W1 wx) => conv_bytes ((hG1.below h hG1.lt).bytes (n := 32) hTl.symm (by omega))
        obtain ⟨SA, hSA⟩ : ∃ s, strOfNums TG = s := ⟨_, rfl⟩
        rw [hSA] at cA cB
        clear hSA hyA1 hG1 hb01 hH
        refine wp_region_gate (fun w' => (convert 24 9 (.slice xa 32 ca)).run Tryd.prog w' = .ok (.string SA) w' ∧ (convert 24 9 (.slice (some ⟨G33, 0, none⟩) 32 32)).run Tryd.prog w' = .ok (.string SA) w') 12 (by kernel_rfl) ?_
        refine wpAnyG_one (i := 0) rfl (by kernel_rfl) (by kernel_rfl) (fun K hK => ?_)
        go_wp2_with (go_at_call 7; refine (hLV _ hBw1.drew).mono ?_; rintro e w9 ⟨rfl, hb9⟩)
        have hB9 : Below W1.heap.size W1 w9 := ((Below.refl _ _).drew).trans hb9
        have hS := And.intro (cA _ hB9) (cB _ hB9)
        refine hK.out _ _ (fun _ => hS) ?_
        clear hK K
        refine wpAnyG_any (i := 1) (v := ?_) rfl (by kernel_rfl) (by kernel_rfl) (by kernel_rfl) (fun _ _ _ h => h) (by kernel_rfl) (fun _ => hS) (by kernel_rfl) ?_ ?_
        rotate_left
        · intro _; go_simp; try with_reducible rfl
        simp only [Act.put, List.setIfInBounds_toArray, List.set_cons_zero, List.set_cons_succ]
        refine wpAnyG_any (i := 2) (v := ?_) rfl (by kernel_rfl) (by kernel_rfl) (by kernel_rfl) (fun _ _ _ h => h) (by kernel_rfl) (fun _ => hS) (by kernel_rfl) ?_ ?_
        rotate_left
        · intro _; go_simp; try with_reducible rfl
        simp only [Act.put, List.setIfInBounds_toArray, List.set_cons_zero, List.set_cons_succ]
        refine wpAnyG_any (i := 3) (v := .bool true) rfl (by kernel_rfl) (by kernel_rfl) (by kernel_rfl) (fun _ _ _ h => h) (by kernel_rfl) (fun _ => hS) (by kernel_rfl) ?_ ?_
        · intro _; go_simp
        simp only [Act.put, List.setIfInBounds_toArray, List.set_cons_zero, List.set_cons_succ]
        refine wpAnyG_any (i := 4) (v := .bool true) rfl (by kernel_rfl) (by kernel_rfl) (by kernel_rfl) (fun _ _ _ h => h) (by kernel_rfl) (fun _ => hS) (by kernel_rfl) ?_ ?_
        · intro _; go_simp
        simp only [Act.put, List.setIfInBounds_toArray, List.set_cons_zero, List.set_cons_succ]
        refine wpAnyG_any (i := 5) (v := .bool true) rfl (by kernel_rfl) (by kernel_rfl) (by kernel_rfl) (fun _ _ _ h => h) (by kernel_rfl) (fun _ => hS) (by kernel_rfl) ?_ ?_
        · intro _; go_simp
        simp only [Act.put, List.setIfInBounds_toArray, List.set_cons_zero, List.set_cons_succ]
        refine wpAnyG_any (i := 6) (v := ?_) rfl (by kernel_rfl) (by kernel_rfl) (by kernel_rfl) (fun _ _ _ h => h) (by kernel_rfl) (fun _ => hS) (by kernel_rfl) ?_ ?_
        rotate_left
        · intro _; go_simp; try with_reducible rfl
        simp only [Act.put, List.setIfInBounds_toArray, List.set_cons_zero, List.set_cons_succ]
        refine wpAnyG_any (i := 8) (v := ?_) rfl (by kernel_rfl) (by kernel_rfl) (by kernel_rfl) (fun _ _ _ h => h) (by kernel_rfl) (fun _ => hS) (by kernel_rfl) ?_ ?_
        rotate_left
        · intro _; go_simp; try with_reducible rfl
        simp only [Act.put, List.setIfInBounds_toArray, List.set_cons_zero, List.set_cons_succ]
        refine wpAnyG_read (i := 7) (v := ?_) rfl (by kernel_rfl) (by kernel_rfl) (by kernel_rfl) (fun _ _ _ h => h) (by kernel_rfl) (by kernel_rfl) (by kernel_rfl) hS (by kernel_rfl) ?_ ?_
        rotate_left
        · intro wx hSw; go_split_ands; go_simp; try with_reducible rfl
        simp only [Act.put, List.setIfInBounds_toArray, List.set_cons_zero, List.set_cons_succ]
        refine wpAnyG_read (i := 9) (v := ?_) rfl (by kernel_rfl) (by kernel_rfl) (by kernel_rfl) (fun _ _ _ h => h) (by kernel_rfl) (by kernel_rfl) (by kernel_rfl) hS (by kernel_rfl) ?_ ?_
        rotate_left
        · intro wx hSw; go_split_ands; go_simp; try with_reducible rfl
        simp only [Act.put, List.setIfInBounds_toArray, List.set_cons_zero, List.set_cons_succ]
        refine wpAnyG_any (i := 10) (v := .bool true) rfl (by kernel_rfl) (by kernel_rfl) (by kernel_rfl) (fun _ _ _ h => h) (by kernel_rfl) (fun _ => hS) (by kernel_rfl) ?_ ?_
        · intro _; go_simp
        simp only [Act.put, List.setIfInBounds_toArray, List.set_cons_zero, List.set_cons_succ]
        refine wpAnyG_any (i := 11) (v := .bool true) rfl (by kernel_rfl) (by kernel_rfl) (by kernel_rfl) (fun _ _ _ h => h) (by kernel_rfl) (fun _ => hS) (by kernel_rfl) ?_ ?_
        · intro _; go_simp
        simp only [Act.put, List.setIfInBounds_toArray, List.set_cons_zero, List.set_cons_succ]
        refine wpAnyG_one (i := 12) rfl (by kernel_rfl) (by kernel_rfl) (fun K hK => ?_)
        go_simp
        refine hK.out _ _ (fun h => absurd (show true = false from h) (by decide)) ?_
        clear hK K
        refine wpAnyG_done (by kernel_rfl) ?_ _
        go_wp2
        go_ret
        exact ⟨rfl, hBw1.trans (hB9.mono hBw1.size)⟩
    · skip
      go_simp
      have hN38 : Holds (U1.alloc (.cells (row .u8 (List.replicate 32 0)) 23)) U1.heap.size .u8 23 (List.replicate 32 0) := Holds.new U1 .u8 23 (List.replicate 32 0)
      have hn38 : Below U1.heap.size U1 (U1.alloc (.cells (row .u8 (List.replicate 32 0)) 23)) := (Below.refl _ _).alloc (Nat.le_refl _) _
      have hb38 : Below W0.heap.size W0 (U1.alloc (.cells (row .u8 (List.replicate 32 0)) 23)) := hb1.trans (hn38.mono hb1.size)
      have hge38 := hb1.size
      have hO1n38 := hO1.belowM hn38
      refine hK.out _ _ (fun _ => hS) ?_
      clear hK K
      obtain ⟨G38, hGe38⟩ : ∃ q, U1.heap.size = q := ⟨_, rfl⟩
      have hlt138 := hltg1
      obtain ⟨U38, hU38⟩ : ∃ q, U1.alloc (.cells (row .u8 (List.replicate 32 0)) 23) = q := ⟨_, rfl⟩
      have hc38 : U1.alloc (.cells #[.int .u8 0, .int .u8 0, .int .u8 0, .int .u8 0, .int .u8 0, .int .u8 0, .int .u8 0, .int .u8 0, .int .u8 0, .int .u8 0, .int .u8 0, .int .u8 0, .int .u8 0, .int .u8 0, .int .u8 0, .int .u8 0, .int .u8 0, .int .u8 0, .int .u8 0, .int .u8 0, .int .u8 0, .int .u8 0, .int .u8 0, .int .u8 0, .int .u8 0, .int .u8 0, .int .u8 0, .int .u8 0, .int .u8 0, .int .u8 0, .int .u8 0, .int .u8 0] 23) = U38 := hU38
      rw [hU38, hGe38] at hN38
      rw [hU38] at hb38 hO1n38
      rw [hGe38] at hge38 hlt138
      rw [hc38, hGe38]
      have hltg38 : G1 < U38.heap.size := by rw [← hU38]; simp; omega
      clear hGe38 hU38 hc38 hn38
      refine wpAnyG_two (i := 3) (j := 4) rfl rfl (by kernel_rfl) (by kernel_rfl) (by kernel_rfl) (fun K hK => ?_) (fun K hK => ?_)
      · skip
        refine wp_appA _ _ rfl W0.heap.size _ [] rfl hO1n38 y m cb b rfl (hyW.below hb38) (by simp; omega) hb38.size ?_
        intro v39 u39 ho39 hg39
        have hb39 : Below W0.heap.size W0 u39 := below_grown hb38 hO1n38 hg39 hb38.size
        rw [List.nil_append] at ho39
        have h739 := holds_grown hN38 hO1n38 hg39 (by decide)
        clear hg39
        refine hK.out _ _ (fun _ => hS) ?_
        clear hK K
        refine wpAnyG_one (i := 4) rfl (by kernel_rfl) (by kernel_rfl) (fun K hK => ?_)
        go_simp
        have hN40 : Holds (u39.alloc (.cells (row .u8 [1]) 5)) u39.heap.size .u8 5 [1] := Holds.new u39 .u8 5 [1]
        have hn40 : Below u39.heap.size u39 (u39.alloc (.cells (row .u8 [1]) 5)) := (Below.refl _ _).alloc (Nat.le_refl _) _
        have hb40 : Below W0.heap.size W0 (u39.alloc (.cells (row .u8 [1]) 5)) := hb39.trans (hn40.mono hb39.size)
        have hge40 := hb39.size
        have ho39n40 := ho39.belowM hn40
        have h739n40 := h739.alloc (.cells (row .u8 [1]) 5)
        refine hK.out _ _ (fun _ => hS) ?_
        clear hK K
        obtain ⟨G40, hGe40⟩ : ∃ q, u39.heap.size = q := ⟨_, rfl⟩
        obtain ⟨U40, hU40⟩ : ∃ q, u39.alloc (.cells (row .u8 [1]) 5) = q := ⟨_, rfl⟩
        have hc40 : u39.alloc (.cells #[.int .u8 1] 5) = U40 := hU40
        rw [hU40, hGe40] at hN40
        rw [hU40] at hb40 ho39n40 h739n40
        rw [hGe40] at hge40
        rw [hc40, hGe40]
        clear hGe40 hU40 hc40 hn40
        refine wpAnyG_one (i := 5) rfl (by kernel_rfl) (by kernel_rfl) (fun K hK => ?_)
        refine wp_appA _ _ rfl W0.heap.size _ b rfl ho39n40 (some ⟨G40, 0, none⟩) 1 1 [1] rfl (hN40.bytes rfl (by simp)) (by rw [HBL.out]; omega) hb40.size ?_
        intro v41 u41 ho41 hg41
        have hb41 : Below W0.heap.size W0 u41 := below_grown hb40 ho39n40 hg41 hb40.size
        have h741 := holds_grown h739n40 ho39n40 hg41 (by decide)
        clear hg41
        refine hK.out _ _ (fun _ => hS) ?_
        clear hK K
        refine wpAnyG_one (i := 6) rfl (by kernel_rfl) (by kernel_rfl) (fun K hK => ?_)
        go_wp2_with (go_at_call 6; refine (hH _ _ _ (hBw.trans (hb41.mono hBw.size)) (hkW.below hb41 hkW.lt) ho41).mono ?_; rintro e u42 ⟨rfl, hx42⟩)
        have hb42 : Below W0.heap.size W0 u42 := hb41.trans (hx42.mono hb41.size)
        have h742 := h741.below hx42 h741.lt
        refine hK.out _ _ (fun _ => hS) ?_
        clear hK K
        refine wpAnyG_one (i := 8) rfl (by kernel_rfl) (by kernel_rfl) (fun K hK => ?_)
        refine wp_st 23 _ _ rfl _ rfl rfl h742 (by rw [hTl]; exact sizeKey) (by simp [hTl]) ?_
        refine hK.out _ _ (fun h => absurd (show true = false from h) (by decide)) ?_
        clear hK K
        refine wpAnyG_done (by kernel_rfl) ?_ _
        refine forget (p := fun y => Exit.then _ _ _ _ y) (fun W => Below W0.heap.size W0 W ∧ Holds W G38 .u8 23 TG) ⟨below_setRow hb42 hge38 _, h742.setRow TG⟩ ?_
        rintro W1 ⟨hb01, hG1⟩
        go_upto_region 4 with fail
        have hBw1 : Below w.heap.size w W1 := hBw.trans (hb01.mono hBw.size)
        have hyA1 := hyA.below hb01
        have cA := fun wx (h : Below W1.heap.size W1 wx) => conv_bytes (hyA1.below h)
        have cB := fun wx (h : Below W1.heap.size W1 wx) => conv_bytes ((hG1.below h hG1.lt).bytes (n := 32) hTl.symm (by omega))
        obtain ⟨SA, hSA⟩ : ∃ s, strOfNums TG = s := ⟨_, rfl⟩
        rw [hSA] at cA cB
        clear hSA hyA1 hG1 hb01 hH
        refine wp_region_gate (fun w' => (convert 24 9 (.slice xa 32 ca)).run Tryd.prog w' = .ok (.string SA) w' ∧ (convert 24 9 (.slice (some ⟨G38, 0, none⟩) 32 32)).run Tryd.prog w' = .ok (.string SA) w') 12 (by kernel_rfl) ?_
        refine wpAnyG_one (i := 0) rfl (by kernel_rfl) (by kernel_rfl) (fun K hK => ?_)
        go_wp2_with (go_at_call 7; refine (hLV _ hBw1.drew).mono ?_; rintro e w9 ⟨rfl, hb9⟩)
        have hB9 : Below W1.heap.size W1 w9 := ((Below.refl _ _).drew).trans hb9
        have hS := And.intro (cA _ hB9) (cB _ hB9)
        refine hK.out _ _ (fun _ => hS) ?_
        clear hK K
        refine wpAnyG_any (i := 1) (v := ?_) rfl (by kernel_rfl) (by kernel_rfl) (by kernel_rfl) (fun _ _ _ h => h) (by kernel_rfl) (fun _ => hS) (by kernel_rfl) ?_ ?_
        rotate_left
        · intro _; go_simp; try with_reducible rfl
        simp only [Act.put, List.setIfInBounds_toArray, List.set_cons_zero, List.set_cons_succ]
        refine wpAnyG_any (i := 2) (v := ?_) rfl (by kernel_rfl) (by kernel_rfl) (by kernel_rfl) (fun _ _ _ h => h) (by kernel_rfl) (fun _ => hS) (by kernel_rfl) ?_ ?_
        rotate_left
        · intro _; go_simp; try with_reducible rfl
        simp only [Act.put, List.setIfInBounds_toArray, List.set_cons_zero, List.set_cons_succ]
        refine wpAnyG_any (i := 3) (v := .bool true) rfl (by kernel_rfl) (by kernel_rfl) (by kernel_rfl) (fun _ _ _ h => h) (by kernel_rfl) (fun _ => hS) (by kernel_rfl) ?_ ?_
        · intro _; go_simp
        simp only [Act.put, List.setIfInBounds_toArray, List.set_cons_zero, List.set_cons_succ]
        refine wpAnyG_any (i := 4) (v := .bool true) rfl (by kernel_rfl) (by kernel_rfl) (by kernel_rfl) (fun _ _ _ h => h) (by kernel_rfl) (fun _ => hS) (by kernel_rfl) ?_ ?_
        · intro _; go_simp
        simp only [Act.put, List.setIfInBounds_toArray, List.set_cons_zero, List.set_cons_succ]
        refine wpAnyG_any (i := 5) (v := .bool true) rfl (by kernel_rfl) (by kernel_rfl) (by kernel_rfl) (fun _ _ _ h => h) (by kernel_rfl) (fun _ => hS) (by kernel_rfl) ?_ ?_
        · intro _; go_simp
        simp only [Act.put, List.setIfInBounds_toArray, List.set_cons_zero, List.set_cons_succ]
        refine wpAnyG_any (i := 6) (v := ?_) rfl (by kernel_rfl) (by kernel_rfl) (by kernel_rfl) (fun _ _ _ h => h) (by kernel_rfl) (fun _ => hS) (by kernel_rfl) ?_ ?_
        rotate_left
        · intro _; go_simp; try with_reducible rfl
        simp only [Act.put, List.setIfInBounds_toArray, List.set_cons_zero, List.set_cons_succ]
        refine wpAnyG_any (i := 8) (v := ?_) rfl (by kernel_rfl) (by kernel_rfl) (by kernel_rfl) (fun _ _ _ h => h) (by kernel_rfl) (fun _ => hS) (by kernel_rfl) ?_ ?_
        rotate_left
        · intro _; go_simp; try with_reducible rfl
        simp only [Act.put, List.setIfInBounds_toArray, List.set_cons_zero, List.set_cons_succ]
        refine wpAnyG_read (i := 7) (v := ?_) rfl (by kernel_rfl) (by kernel_rfl) (by kernel_rfl) (fun _ _ _ h => h) (by kernel_rfl) (by kernel_rfl) (by kernel_rfl) hS (by kernel_rfl) ?_ ?_
        rotate_left
        · intro wx hSw; go_split_ands; go_simp; try with_reducible rfl
        simp only [Act.put, List.setIfInBounds_toArray, List.set_cons_zero, List.set_cons_succ]
        refine wpAnyG_read (i := 9) (v := ?_) rfl (by kernel_rfl) (by kernel_rfl) (by kernel_rfl) (fun _ _ _ h => h) (by kernel_rfl) (by kernel_rfl) (by kernel_rfl) hS (by kernel_rfl) ?_ ?_
        rotate_left
        · intro wx hSw; go_split_ands; go_simp; try with_reducible rfl
        simp only [Act.put, List.setIfInBounds_toArray, List.set_cons_zero, List.set_cons_succ]
        refine wpAnyG_any (i := 10) (v := .bool true) rfl (by kernel_rfl) (by kernel_rfl) (by kernel_rfl) (fun _ _ _ h => h) (by kernel_rfl) (fun _ => hS) (by kernel_rfl) ?_ ?_
        · intro _; go_simp
        simp only [Act.put, List.setIfInBounds_toArray, List.set_cons_zero, List.set_cons_succ]
        refine wpAnyG_any (i := 11) (v := .bool true) rfl (by kernel_rfl) (by kernel_rfl) (by kernel_rfl) (fun _ _ _ h => h) (by kernel_rfl) (fun _ => hS) (by kernel_rfl) ?_ ?_
        · intro _; go_simp
        simp only [Act.put, List.setIfInBounds_toArray, List.set_cons_zero, List.set_cons_succ]
        refine wpAnyG_one (i := 12) rfl (by kernel_rfl) (by kernel_rfl) (fun K hK => ?_)
        go_simp
        refine hK.out _ _ (fun h => absurd (show true = false from h) (by decide)) ?_
        clear hK K
        refine wpAnyG_done (by kernel_rfl) ?_ _
        go_wp2
        go_ret
        exact ⟨rfl, hBw1.trans (hB9.mono hBw1.size)⟩
      · skip
        go_simp
        have hN44 : Holds (U38.alloc (.cells (row .u8 [1]) 5)) U38.heap.size .u8 5 [1] := Holds.new U38 .u8 5 [1]
        have hn44 : Below U38.heap.size U38 (U38.alloc (.cells (row .u8 [1]) 5)) := (Below.refl _ _).alloc (Nat.le_refl _) _
        have hb44 : Below W0.heap.size W0 (U38.alloc (.cells (row .u8 [1]) 5)) := hb38.trans (hn44.mono hb38.size)
        have hge44 := hb38.size
        have hO1n38n44 := hO1n38.belowM hn44
        have hN38n44 := hN38.alloc (.cells (row .u8 [1]) 5)
        refine hK.out _ _ (fun _ => hS) ?_
        clear hK K
        obtain ⟨G44, hGe44⟩ : ∃ q, U38.heap.size = q := ⟨_, rfl⟩
        have hlt144 := hltg38
        obtain ⟨U44, hU44⟩ : ∃ q, U38.alloc (.cells (row .u8 [1]) 5) = q := ⟨_, rfl⟩
        have hc44 : U38.alloc (.cells #[.int .u8 1] 5) = U44 := hU44
        rw [hU44, hGe44] at hN44
        rw [hU44] at hb44 hO1n38n44 hN38n44
        rw [hGe44] at hge44 hlt144
        rw [hc44, hGe44]
        have hne44 : G1 ≠ G44 := by omega
        have hltg44 : G1 < U44.heap.size := by rw [← hU44]; simp; omega
        clear hGe44 hU44 hc44 hn44
        refine wpAnyG_one (i := 3) rfl (by kernel_rfl) (by kernel_rfl) (fun K hK => ?_)
        refine wp_appA _ _ rfl W0.heap.size _ [] rfl hO1n38n44 y m cb b rfl (hyW.below hb44) (by simp; omega) hb44.size ?_
        intro v45 u45 ho45 hg45
        have hb45 : Below W0.heap.size W0 u45 := below_grown hb44 hO1n38n44 hg45 hb44.size
        rw [List.nil_append] at ho45
        have h445 := holds_grownA hN44 hg45 hne44
        have h745 := holds_grown hN38n44 hO1n38n44 hg45 (by decide)
        clear hg45
        refine hK.out _ _ (fun _ => hS) ?_
        clear hK K
        refine wpAnyG_one (i := 5) rfl (by kernel_rfl) (by kernel_rfl) (fun K hK => ?_)
        refine wp_appA _ _ rfl W0.heap.size _ b rfl ho45 (some ⟨G44, 0, none⟩) 1 1 [1] rfl (h445.bytes rfl (by simp)) (by rw [HBL.out]; omega) hb45.size ?_
        intro v46 u46 ho46 hg46
        have hb46 : Below W0.heap.size W0 u46 := below_grown hb45 ho45 hg46 hb45.size
        have h746 := holds_grown h745 ho45 hg46 (by decide)
        clear hg46
        refine hK.out _ _ (fun _ => hS) ?_
        clear hK K
        refine wpAnyG_one (i := 6) rfl (by kernel_rfl) (by kernel_rfl) (fun K hK => ?_)
        go_wp2_with (go_at_call 6; refine (hH _ _ _ (hBw.trans (hb46.mono hBw.size)) (hkW.below hb46 hkW.lt) ho46).mono ?_; rintro e u47 ⟨rfl, hx47⟩)
        have hb47 : Below W0.heap.size W0 u47 := hb46.trans (hx47.mono hb46.size)
        have h747 := h746.below hx47 h746.lt
        refine hK.out _ _ (fun _ => hS) ?_
        clear hK K
        refine wpAnyG_one (i := 8) rfl (by kernel_rfl) (by kernel_rfl) (fun K hK => ?_)
        refine wp_st 23 _ _ rfl _ rfl rfl h747 (by rw [hTl]; exact sizeKey) (by simp [hTl]) ?_
        refine hK.out _ _ (fun h => absurd (show true = false from h) (by decide)) ?_
        clear hK K
        refine wpAnyG_done (by kernel_rfl) ?_ _
        refine forget (p := fun y => Exit.then _ _ _ _ y) (fun W => Below W0.heap.size W0 W ∧ Holds W G38 .u8 23 TG) ⟨below_setRow hb47 hge38 _, h747.setRow TG⟩ ?_
        rintro W1 ⟨hb01, hG1⟩
        go_upto_region 4 with fail
        have hBw1 : Below w.heap.size w W1 := hBw.trans (hb01.mono hBw.size)
        have hyA1 := hyA.below hb01
        have cA := fun wx (h : Below W1.heap.size W1 wx) => conv_bytes (hyA1.below h)
        have cB := fun wx (h : Below W1.heap.size W1 wx) => conv_bytes ((hG1.below h hG1.lt).bytes (n := 32) hTl.symm (by omega))
        obtain ⟨SA, hSA⟩ : ∃ s, strOfNums TG = s := ⟨_, rfl⟩
        rw [hSA] at cA cB
        clear hSA hyA1 hG1 hb01 hH
        refine wp_region_gate (fun w' => (convert 24 9 (.slice xa 32 ca)).run Tryd.prog w' = .ok (.string SA) w' ∧ (convert 24 9 (.slice (some ⟨G38, 0, none⟩) 32 32)).run Tryd.prog w' = .ok (.string SA) w') 12 (by kernel_rfl) ?_
        refine wpAnyG_one (i := 0) rfl (by kernel_rfl) (by kernel_rfl) (fun K hK => ?_)
        go_wp2_with (go_at_call 7; refine (hLV _ hBw1.drew).mono ?_; rintro e w9 ⟨rfl, hb9⟩)
        have hB9 : Below W1.heap.size W1 w9 := ((Below.refl _ _).drew).trans hb9
        have hS := And.intro (cA _ hB9) (cB _ hB9)
        refine hK.out _ _ (fun _ => hS) ?_
        clear hK K
        refine wpAnyG_any (i := 1) (v := ?_) rfl (by kernel_rfl) (by kernel_rfl) (by kernel_rfl) (fun _ _ _ h => h) (by kernel_rfl) (fun _ => hS) (by kernel_rfl) ?_ ?_
        rotate_left
        · intro _; go_simp; try with_reducible rfl
        simp only [Act.put, List.setIfInBounds_toArray, List.set_cons_zero, List.set_cons_succ]
        refine wpAnyG_any (i := 2) (v := ?_) rfl (by kernel_rfl) (by kernel_rfl) (by kernel_rfl) (fun _ _ _ h => h) (by kernel_rfl) (fun _ => hS) (by kernel_rfl) ?_ ?_
        rotate_left
        · intro _; go_simp; try with_reducible rfl
        simp only [Act.put, List.setIfInBounds_toArray, List.set_cons_zero, List.set_cons_succ]
        refine wpAnyG_any (i := 3) (v := .bool true) rfl (by kernel_rfl) (by kernel_rfl) (by kernel_rfl) (fun _ _ _ h => h) (by kernel_rfl) (fun _ => hS) (by kernel_rfl) ?_ ?_
        · intro _; go_simp
        simp only [Act.put, List.setIfInBounds_toArray, List.set_cons_zero, List.set_cons_succ]
        refine wpAnyG_any (i := 4) (v := .bool true) rfl (by kernel_rfl) (by kernel_rfl) (by kernel_rfl) (fun _ _ _ h => h) (by kernel_rfl) (fun _ => hS) (by kernel_rfl) ?_ ?_
        · intro _; go_simp
        simp only [Act.put, List.setIfInBounds_toArray, List.set_cons_zero, List.set_cons_succ]
        refine wpAnyG_any (i := 5) (v := .bool true) rfl (by kernel_rfl) (by kernel_rfl) (by kernel_rfl) (fun _ _ _ h => h) (by kernel_rfl) (fun _ => hS) (by kernel_rfl) ?_ ?_
        · intro _; go_simp
        simp only [Act.put, List.setIfInBounds_toArray, List.set_cons_zero, List.set_cons_succ]
        refine wpAnyG_any (i := 6) (v := ?_) rfl (by kernel_rfl) (by kernel_rfl) (by kernel_rfl) (fun _ _ _ h => h) (by kernel_rfl) (fun _ => hS) (by kernel_rfl) ?_ ?_
        rotate_left
        · intro _; go_simp; try with_reducible rfl
        simp only [Act.put, List.setIfInBounds_toArray, List.set_cons_zero, List.set_cons_succ]
        refine wpAnyG_any (i := 8) (v := ?_) rfl (by kernel_rfl) (by kernel_rfl) (by kernel_rfl) (fun _ _ _ h => h) (by kernel_rfl) (fun _ => hS) (by kernel_rfl) ?_ ?_
        rotate_left
        · intro _; go_simp; try with_reducible rfl
        simp only [Act.put, List.setIfInBounds_toArray, List.set_cons_zero, List.set_cons_succ]
        refine wpAnyG_read (i := 7) (v := ?_) rfl (by kernel_rfl) (by kernel_rfl) (by kernel_rfl) (fun _ _ _ h => h) (by kernel_rfl) (by kernel_rfl) (by kernel_rfl) hS (by kernel_rfl) ?_ ?_
        rotate_left
        · intro wx hSw; go_split_ands; go_simp; try with_reducible rfl
        simp only [Act.put, List.setIfInBounds_toArray, List.set_cons_zero, List.set_cons_succ]
        refine wpAnyG_read (i := 9) (v := ?_) rfl (by kernel_rfl) (by kernel_rfl) (by kernel_rfl) (fun _ _ _ h => h) (by kernel_rfl) (by kernel_rfl) (by kernel_rfl) hS (by kernel_rfl) ?_ ?_
        rotate_left
        · intro wx hSw; go_split_ands; go_simp; try with_reducible rfl
        simp only [Act.put, List.setIfInBounds_toArray, List.set_cons_zero, List.set_cons_succ]
        refine wpAnyG_any (i := 10) (v := .bool true) rfl (by kernel_rfl) (by kernel_rfl) (by kernel_rfl) (fun _ _ _ h => h) (by kernel_rfl) (fun _ => hS) (by kernel_rfl) ?_ ?_
        · intro _; go_simp
        simp only [Act.put, List.setIfInBounds_toArray, List.set_cons_zero, List.set_cons_succ]
        refine wpAnyG_any (i := 11) (v := .bool true) rfl (by kernel_rfl) (by kernel_rfl) (by kernel_rfl) (fun _ _ _ h => h) (by kernel_rfl) (fun _ => hS) (by kernel_rfl) ?_ ?_
        · intro _; go_simp
        simp only [Act.put, List.setIfInBounds_toArray, List.set_cons_zero, List.set_cons_succ]
        refine wpAnyG_one (i := 12) rfl (by kernel_rfl) (by kernel_rfl) (fun K hK => ?_)
        go_simp
        refine hK.out _ _ (fun h => absurd (show true = false from h) (by decide)) ?_
        clear hK K
        refine wpAnyG_done (by kernel_rfl) ?_ _
        go_wp2
        go_ret
        exact ⟨rfl, hBw1.trans (hB9.mono hBw1.size)⟩
  · skip
    go_simp
    have hN49 : Holds (D0.alloc (.cells (row .u8 [1]) 5)) D0.heap.size .u8 5 [1] := Holds.new D0 .u8 5 [1]
    have hn49 : Below D0.heap.size D0 (D0.alloc (.cells (row .u8 [1]) 5)) := (Below.refl _ _).alloc (Nat.le_refl _) _
    have hb49 : Below W0.heap.size W0 (D0.alloc (.cells (row .u8 [1]) 5)) := hb0.trans (hn49.mono hb0.size)
    have hge49 := hb0.size
    refine hK.out _ _ (fun _ => hS) ?_
    clear hK K
    obtain ⟨G49, hGe49⟩ : ∃ q, D0.heap.size = q := ⟨_, rfl⟩
    obtain ⟨U49, hU49⟩ : ∃ q, D0.alloc (.cells (row .u8 [1]) 5) = q := ⟨_, rfl⟩
    have hc49 : D0.alloc (.cells #[.int .u8 1] 5) = U49 := hU49
    rw [hU49, hGe49] at hN49
    rw [hU49] at hb49 
    rw [hGe49] at hge49
    rw [hc49, hGe49]
    clear hGe49 hU49 hc49 hn49
    refine wpAnyG_two (i := 1) (j := 7) rfl rfl (by kernel_rfl) (by kernel_rfl) (by kernel_rfl) (fun K hK => ?_) (fun K hK => ?_)
    · skip
      go_simp
      have hN50 : Holds (U49.alloc (.cells (row .u8 []) 5)) U49.heap.size .u8 5 [] := Holds.new U49 .u8 5 []
      have hn50 : Below U49.heap.size U49 (U49.alloc (.cells (row .u8 []) 5)) := (Below.refl _ _).alloc (Nat.le_refl _) _
      have hb50 : Below W0.heap.size W0 (U49.alloc (.cells (row .u8 []) 5)) := hb49.trans (hn50.mono hb49.size)
      have hge50 := hb49.size
      have hN49n50 := hN49.alloc (.cells (row .u8 []) 5)
      refine hK.out _ _ (fun _ => hS) ?_
      clear hK K
      obtain ⟨G50, hGe50⟩ : ∃ q, U49.heap.size = q := ⟨_, rfl⟩
      have hlt450 := hN49.lt
      obtain ⟨U50, hU50⟩ : ∃ q, U49.alloc (.cells (row .u8 []) 5) = q := ⟨_, rfl⟩
      have hc50 : U49.alloc (.cells #[] 5) = U50 := hU50
      rw [hU50, hGe50] at hN50
      rw [hU50] at hb50 hN49n50
      rw [hGe50] at hge50 hlt450
      rw [hc50, hGe50]
      have hO50 : OwnB U50 W0.heap.size (.slice (some ⟨G50, 0, none⟩) 0 0) [] := by rw [← hU50, ← hGe50]; exact OwnB.empty U49 W0.heap.size hb49.size
      have hltg50 : G50 < U50.heap.size := hN50.lt
      have hne50 : G50 ≠ G49 := by omega
      clear hGe50 hU50 hc50 hn50
      refine wpAnyG_two (i := 3) (j := 7) rfl rfl (by kernel_rfl) (by kernel_rfl) (by kernel_rfl) (fun K hK => ?_) (fun K hK => ?_)
      · skip
        refine wp_appA _ _ rfl W0.heap.size _ [] rfl hO50 y m cb b rfl (hyW.below hb50) (by simp; omega) hb50.size ?_
        intro v51 u51 ho51 hg51
        have hb51 : Below W0.heap.size W0 u51 := below_grown hb50 hO50 hg51 hb50.size
        rw [List.nil_append] at ho51
        have h451 := holds_grownA hN49n50 hg51 hne50
        clear hg51
        refine hK.out _ _ (fun _ => hS) ?_
        clear hK K
        refine wpAnyG_two (i := 5) (j := 7) rfl rfl (by kernel_rfl) (by kernel_rfl) (by kernel_rfl) (fun K hK => ?_) (fun K hK => ?_)
        · skip
          refine wp_appA _ _ rfl W0.heap.size _ b rfl ho51 (some ⟨G49, 0, none⟩) 1 1 [1] rfl (h451.bytes rfl (by simp)) (by rw [HBL.out]; omega) hb51.size ?_
          intro v52 u52 ho52 hg52
          have hb52 : Below W0.heap.size W0 u52 := below_grown hb51 ho51 hg52 hb51.size
          clear hg52
          refine hK.out _ _ (fun _ => hS) ?_
          clear hK K
          refine wpAnyG_two (i := 6) (j := 7) rfl rfl (by kernel_rfl) (by kernel_rfl) (by kernel_rfl) (fun K hK => ?_) (fun K hK => ?_)
          · skip
            go_wp2_with (go_at_call 6; refine (hH _ _ _ (hBw.trans (hb52.mono hBw.size)) (hkW.below hb52 hkW.lt) ho52).mono ?_; rintro e u53 ⟨rfl, hx53⟩)
            have hb53 : Below W0.heap.size W0 u53 := hb52.trans (hx53.mono hb52.size)
            refine hK.out _ _ (fun _ => hS) ?_
            clear hK K
            refine wpAnyG_one (i := 7) rfl (by kernel_rfl) (by kernel_rfl) (fun K hK => ?_)
            go_simp
            have hN54 : Holds (u53.alloc (.cells (row .u8 (List.replicate 32 0)) 23)) u53.heap.size .u8 23 (List.replicate 32 0) := Holds.new u53 .u8 23 (List.replicate 32 0)
            have hn54 : Below u53.heap.size u53 (u53.alloc (.cells (row .u8 (List.replicate 32 0)) 23)) := (Below.refl _ _).alloc (Nat.le_refl _) _
            have hb54 : Below W0.heap.size W0 (u53.alloc (.cells (row .u8 (List.replicate 32 0)) 23)) := hb53.trans (hn54.mono hb53.size)
            have hge54 := hb53.size
            refine hK.out _ _ (fun _ => hS) ?_
            clear hK K
            obtain ⟨G54, hGe54⟩ : ∃ q, u53.heap.size = q := ⟨_, rfl⟩
            obtain ⟨U54, hU54⟩ : ∃ q, u53.alloc (.cells (row .u8 (List.replicate 32 0)) 23) = q := ⟨_, rfl⟩
            have hc54 : u53.alloc (.cells #[.int .u8 0, .int .u8 0, .int .u8 0, .int .u8 0, .int .u8 0, .int .u8 0, .int .u8 0, .int .u8 0, .int .u8 0, .int .u8 0, .int .u8 0, .int .u8 0, .int .u8 0, .int .u8 0, .int .u8 0, .int .u8 0, .int .u8 0, .int .u8 0, .int .u8 0, .int .u8 0, .int .u8 0, .int .u8 0, .int .u8 0, .int .u8 0, .int .u8 0, .int .u8 0, .int .u8 0, .int .u8 0, .int .u8 0, .int .u8 0, .int .u8 0, .int .u8 0] 23) = U54 := hU54
            rw [hU54, hGe54] at hN54
            rw [hU54] at hb54 
            rw [hGe54] at hge54
            rw [hc54, hGe54]
            clear hGe54 hU54 hc54 hn54
            refine wpAnyG_one (i := 8) rfl (by kernel_rfl) (by kernel_rfl) (fun K hK => ?_)
            refine wp_st 23 _ _ rfl _ rfl rfl hN54 (by rw [hTl]; exact sizeKey) (by simp [hTl]) ?_
            refine hK.out _ _ (fun h => absurd (show true = false from h) (by decide)) ?_
            clear hK K
            refine wpAnyG_done (by kernel_rfl) ?_ _
            refine forget (p := fun y => Exit.then _ _ _ _ y) (fun W => Below W0.heap.size W0 W ∧ Holds W G54 .u8 23 TG) ⟨below_setRow hb54 hge54 _, hN54.setRow TG⟩ ?_
            rintro W1 ⟨hb01, hG1⟩
            go_upto_region 4 with fail
            have hBw1 : Below w.heap.size w W1 := hBw.trans (hb01.mono hBw.size)
            have hyA1 := hyA.below hb01
            have cA := fun wx (h : Below W1.heap.size W1 wx) => conv_bytes (hyA1.below h)
            have cB := fun wx (h : Below W1.heap.size W1 wx) => conv_bytes ((hG1.below h hG1.lt).bytes (n := 32) hTl.symm (by omega))
            obtain ⟨SA, hSA⟩ : ∃ s, strOfNums TG = s := ⟨_, rfl⟩
            rw [hSA] at cA cB
            clear hSA hyA1 hG1 hb01 hH
            refine wp_region_gate (fun w' => (convert 24 9 (.slice xa 32 ca)).run Tryd.prog w' = .ok (.string SA) w' ∧ (convert 24 9 (.slice (some ⟨G54, 0, none⟩) 32 32)).run Tryd.prog w' = .ok (.string SA) w') 12 (by kernel_rfl) ?_
            refine wpAnyG_one (i := 0) rfl (by kernel_rfl) (by kernel_rfl) (fun K hK => ?_)
            go_wp2_with (go_at_call 7; refine (hLV _ hBw1.drew).mono ?_; rintro e w9 ⟨rfl, hb9⟩)
            have hB9 : Below W1.heap.size W1 w9 := ((Below.refl _ _).drew).trans hb9
            have hS := And.intro (cA _ hB9) (cB _ hB9)
            refine hK.out _ _ (fun _ => hS) ?_
            clear hK K
            refine wpAnyG_any (i := 1) (v := ?_) rfl (by kernel_rfl) (by kernel_rfl) (by kernel_rfl) (fun _ _ _ h => h) (by kernel_rfl) (fun _ => hS) (by kernel_rfl) ?_ ?_
            rotate_left
            · intro _; go_simp; try with_reducible rfl
            simp only [Act.put, List.setIfInBounds_toArray, List.set_cons_zero, List.set_cons_succ]
            refine wpAnyG_any (i := 2) (v := ?_) rfl (by kernel_rfl) (by kernel_rfl) (by kernel_rfl) (fun _ _ _ h => h) (by kernel_rfl) (fun _ => hS) (by kernel_rfl) ?_ ?_
            rotate_left
            · intro _; go_simp; try with_reducible rfl
            simp only [Act.put, List.setIfInBounds_toArray, List.set_cons_zero, List.set_cons_succ]
            refine wpAnyG_any (i := 3) (v := .bool true) rfl (by kernel_rfl) (by kernel_rfl) (by kernel_rfl) (fun _ _ _ h => h) (by kernel_rfl) (fun _ => hS) (by kernel_rfl) ?_ ?_
            · intro _; go_simp
            simp only [Act.put, List.setIfInBounds_toArray, List.set_cons_zero, List.set_cons_succ]
            refine wpAnyG_any (i := 4) (v := .bool true) rfl (by kernel_rfl) (by kernel_rfl) (by kernel_rfl) (fun _ _ _ h => h) (by kernel_rfl) (fun _ => hS) (by kernel_rfl) ?_ ?_
            · intro _; go_simp
            simp only [Act.put, List.setIfInBounds_toArray, List.set_cons_zero, List.set_cons_succ]
            refine wpAnyG_any (i := 5) (v := .bool true) rfl (by kernel_rfl) (by kernel_rfl) (by kernel_rfl) (fun _ _ _ h => h) (by kernel_rfl) (fun _ => hS) (by kernel_rfl) ?_ ?_
            · intro _; go_simp
            simp only [Act.put, List.setIfInBounds_toArray, List.set_cons_zero, List.set_cons_succ]
            refine wpAnyG_any (i := 6) (v := ?_) rfl (by kernel_rfl) (by kernel_rfl) (by kernel_rfl) (fun _ _ _ h => h) (by kernel_rfl) (fun _ => hS) (by kernel_rfl) ?_ ?_
            rotate_left
            · intro _; go_simp; try with_reducible rfl
            simp only [Act.put, List.setIfInBounds_toArray, List.set_cons_zero, List.set_cons_succ]
            refine wpAnyG_any (i := 8) (v := ?_) rfl (by kernel_rfl) (by kernel_rfl) (by kernel_rfl) (fun _ _ _ h => h) (by kernel_rfl) (fun _ => hS) (by kernel_rfl) ?_ ?_
            rotate_left
            · intro _; go_simp; try with_reducible rfl
            simp only [Act.put, List.setIfInBounds_toArray, List.set_cons_zero, List.set_cons_succ]
            refine wpAnyG_read (i := 7) (v := ?_) rfl (by kernel_rfl) (by kernel_rfl) (by kernel_rfl) (fun _ _ _ h => h) (by kernel_rfl) (by kernel_rfl) (by kernel_rfl) hS (by kernel_rfl) ?_ ?_
            rotate_left
            · intro wx hSw; go_split_ands; go_simp; try with_reducible rfl
            simp only [Act.put, List.setIfInBounds_toArray, List.set_cons_zero, List.set_cons_succ]
            refine wpAnyG_read (i := 9) (v := ?_) rfl (by kernel_rfl) (by kernel_rfl) (by kernel_rfl) (fun _ _ _ h => h) (by kernel_rfl) (by kernel_rfl) (by kernel_rfl) hS (by kernel_rfl) ?_ ?_
            rotate_left
            · intro wx hSw; go_split_ands; go_simp; try with_reducible rfl
            simp only [Act.put, List.setIfInBounds_toArray, List.set_cons_zero, List.set_cons_succ]
            refine wpAnyG_any (i := 10) (v := .bool true) rfl (by kernel_rfl) (by kernel_rfl) (by kernel_rfl) (fun _ _ _ h => h) (by kernel_rfl) (fun _ => hS) (by kernel_rfl) ?_ ?_
            · intro _; go_simp
            simp only [Act.put, List.setIfInBounds_toArray, List.set_cons_zero, List.set_cons_succ]
            refine wpAnyG_any (i := 11) (v := .bool true) rfl (by kernel_rfl) (by kernel_rfl) (by kernel_rfl) (fun _ _ _ h => h) (by kernel_rfl) (fun _ => hS) (by kernel_rfl) ?_ ?_
            · intro _; go_simp
            simp only [Act.put, List.setIfInBounds_toArray, List.set_cons_zero, List.set_cons_succ]
            refine wpAnyG_one (i := 12) rfl (by kernel_rfl) (by kernel_rfl) (fun K hK => ?_)
            go_simp
            refine hK.out _ _ (fun h => absurd (show true = false from h) (by decide)) ?_
            clear hK K
            refine wpAnyG_done (by kernel_rfl) ?_ _
            go_wp2
            go_ret
            exact ⟨rfl, hBw1.trans (hB9.mono hBw1.size)⟩
          · skip
            go_simp
            have hN56 : Holds (u52.alloc (.cells (row .u8 (List.replicate 32 0)) 23)) u52.heap.size .u8 23 (List.replicate 32 0) := Holds.new u52 .u8 23 (List.replicate 32 0)
            have hn56 : Below u52.heap.size u52 (u52.alloc (.cells (row .u8 (List.replicate 32 0)) 23)) := (Below.refl _ _).alloc (Nat.le_refl _) _
            have hb56 : Below W0.heap.size W0 (u52.alloc (.cells (row .u8 (List.replicate 32 0)) 23)) := hb52.trans (hn56.mono hb52.size)
            have hge56 := hb52.size
            have ho52n56 := ho52.belowM hn56
            refine hK.out _ _ (fun _ => hS) ?_
            clear hK K
            obtain ⟨G56, hGe56⟩ : ∃ q, u52.heap.size = q := ⟨_, rfl⟩
            obtain ⟨U56, hU56⟩ : ∃ q, u52.alloc (.cells (row .u8 (List.replicate 32 0)) 23) = q := ⟨_, rfl⟩
            have hc56 : u52.alloc (.cells #[.int .u8 0, .int .u8 0, .int .u8 0, .int .u8 0, .int .u8 0, .int .u8 0, .int .u8 0, .int .u8 0, .int .u8 0, .int .u8 0, .int .u8 0, .int .u8 0, .int .u8 0, .int .u8 0, .int .u8 0, .int .u8 0, .int .u8 0, .int .u8 0, .int .u8 0, .int .u8 0, .int .u8 0, .int .u8 0, .int .u8 0, .int .u8 0, .int .u8 0, .int .u8 0, .int .u8 0, .int .u8 0, .int .u8 0, .int .u8 0, .int .u8 0, .int .u8 0] 23) = U56 := hU56
            rw [hU56, hGe56] at hN56
            rw [hU56] at hb56 ho52n56
            rw [hGe56] at hge56
            rw [hc56, hGe56]
            clear hGe56 hU56 hc56 hn56
            refine wpAnyG_one (i := 6) rfl (by kernel_rfl) (by kernel_rfl) (fun K hK => ?_)
            go_wp2_with (go_at_call 6; refine (hH _ _ _ (hBw.trans (hb56.mono hBw.size)) (hkW.below hb56 hkW.lt) ho52n56).mono ?_; rintro e u57 ⟨rfl, hx57⟩)
            have hb57 : Below W0.heap.size W0 u57 := hb56.trans (hx57.mono hb56.size)
            have h757 := hN56.below hx57 hN56.lt
            refine hK.out _ _ (fun _ => hS) ?_
            clear hK K
            refine wpAnyG_one (i := 8) rfl (by kernel_rfl) (by kernel_rfl) (fun K hK => ?_)
            refine wp_st 23 _ _ rfl _ rfl rfl h757 (by rw [hTl]; exact sizeKey) (by simp [hTl]) ?_
            refine hK.out _ _ (fun h => absurd (show true = false from h) (by decide)) ?_
            clear hK K
            refine wpAnyG_done (by kernel_rfl) ?_ _
            refine forget (p := fun y => Exit.then _ _ _ _ y) (fun W => Below W0.heap.size W0 W ∧ Holds W G56 .u8 23 TG) ⟨below_setRow hb57 hge56 _, h757.setRow TG⟩ ?_
            rintro W1 ⟨hb01, hG1⟩
            go_upto_region 4 with fail
            have hBw1 : Below w.heap.size w W1 := hBw.trans (hb01.mono hBw.size)
            have hyA1 := hyA.below hb01
            have cA := fun wx (h : Below W1.heap.size W1 wx) => conv_bytes (hyA1.below h)
            have cB := fun wx (h : Below W1.heap.size W1 wx) => conv_bytes ((hG1.below h hG1.lt).bytes (n := 32) hTl.symm (by omega))
            obtain ⟨SA, hSA⟩ : ∃ s, strOfNums TG = s := ⟨_, rfl⟩
            rw [hSA] at cA cB
            clear hSA hyA1 hG1 hb01 hH
            refine wp_region_gate (fun w' => (convert 24 9 (.slice xa 32 ca)).run Tryd.prog w' = .ok (.string SA) w' ∧ (convert 24 9 (.slice (some ⟨G56, 0, none⟩) 32 32)).run Tryd.prog w' = .ok (.string SA) w') 12 (by kernel_rfl) ?_
            refine wpAnyG_one (i := 0) rfl (by kernel_rfl) (by kernel_rfl) (fun K hK => ?_)
            go_wp2_with (go_at_call 7; refine (hLV _ hBw1.drew).mono ?_; rintro e w9 ⟨rfl, hb9⟩)
            have hB9 : Below W1.heap.size W1 w9 := ((Below.refl _ _).drew).trans hb9
            have hS := And.intro (cA _ hB9) (cB _ hB9)
            refine hK.out _ _ (fun _ => hS) ?_
            clear hK K
            refine wpAnyG_any (i := 1) (v := ?_) rfl (by kernel_rfl) (by kernel_rfl) (by kernel_rfl) (fun _ _ _ h => h) (by kernel_rfl) (fun _ => hS) (by kernel_rfl) ?_ ?_
            rotate_left
            · intro _; go_simp; try with_reducible rfl
            simp only [Act.put, List.setIfInBounds_toArray, List.set_cons_zero, List.set_cons_succ]
            refine wpAnyG_any (i := 2) (v := ?_) rfl (by kernel_rfl) (by kernel_rfl) (by kernel_rfl) (fun _ _ _ h => h) (by kernel_rfl) (fun _ => hS) (by kernel_rfl) ?_ ?_
            rotate_left
            · intro _; go_simp; try with_reducible rfl
            simp only [Act.put, List.setIfInBounds_toArray, List.set_cons_zero, List.set_cons_succ]
            refine wpAnyG_any (i := 3) (v := .bool true) rfl (by kernel_rfl) (by kernel_rfl) (by kernel_rfl) (fun _ _ _ h => h) (by kernel_rfl) (fun _ => hS) (by kernel_rfl) ?_ ?_
            · intro _; go_simp
            simp only [Act.put, List.setIfInBounds_toArray, List.set_cons_zero, List.set_cons_succ]
            refine wpAnyG_any (i := 4) (v := .bool true) rfl (by kernel_rfl) (by kernel_rfl) (by kernel_rfl) (fun _ _ _ h => h) (by kernel_rfl) (fun _ => hS) (by kernel_rfl) ?_ ?_
            · intro _; go_simp
            simp only [Act.put, List.setIfInBounds_toArray, List.set_cons_zero, List.set_cons_succ]
            refine wpAnyG_any (i := 5) (v := .bool true) rfl (by kernel_rfl) (by kernel_rfl) (by kernel_rfl) (fun _ _ _ h => h) (by kernel_rfl) (fun _ => hS) (by kernel_rfl) ?_ ?_
            · intro _; go_simp
            simp only [Act.put, List.setIfInBounds_toArray, List.set_cons_zero, List.set_cons_succ]
            refine wpAnyG_any (i := 6) (v := ?_) rfl (by kernel_rfl) (by kernel_rfl) (by kernel_rfl) (fun _ _ _ h => h) (by kernel_rfl) (fun _ => hS) (by kernel_rfl) ?_ ?_
            rotate_left
            · intro _; go_simp; try with_reducible rfl
            simp only [Act.put, List.setIfInBounds_toArray, List.set_cons_zero, List.set_cons_succ]
            refine wpAnyG_any (i := 8) (v := ?_) rfl (by kernel_rfl) (by kernel_rfl) (by kernel_rfl) (fun _ _ _ h => h) (by kernel_rfl) (fun _ => hS) (by kernel_rfl) ?_ ?_
            rotate_left
            · intro _; go_simp; try with_reducible rfl
            simp only [Act.put, List.setIfInBounds_toArray, List.set_cons_zero, List.set_cons_succ]
            refine wpAnyG_read (i := 7) (v := ?_) rfl (by kernel_rfl) (by kernel_rfl) (by kernel_rfl) (fun _ _ _ h => h) (by kernel_rfl) (by kernel_rfl) (by kernel_rfl) hS (by kernel_rfl) ?_ ?_
            rotate_left
            · intro wx hSw; go_split_ands; go_simp; try with_reducible rfl
            simp only [Act.put, List.setIfInBounds_toArray, List.set_cons_zero, List.set_cons_succ]
            refine wpAnyG_read (i := 9) (v := ?_) rfl (by kernel_rfl) (by kernel_rfl) (by kernel_rfl) (fun _ _ _ h => h) (by kernel_rfl) (by kernel_rfl) (by kernel_rfl) hS (by kernel_rfl) ?_ ?_
            rotate_left
            · intro wx hSw; go_split_ands; go_simp; try with_reducible rfl
            simp only [Act.put, List.setIfInBounds_toArray, List.set_cons_zero, List.set_cons_succ]
            refine wpAnyG_any (i := 10) (v := .bool true) rfl (by kernel_rfl) (by kernel_rfl) (by kernel_rfl) (fun _ _ _ h => h) (by kernel_rfl) (fun _ => hS) (by kernel_rfl) ?_ ?_
            · intro _; go_simp
            simp only [Act.put, List.setIfInBounds_toArray, List.set_cons_zero, List.set_cons_succ]
            refine wpAnyG_any (i := 11) (v := .bool true) rfl (by kernel_rfl) (by kernel_rfl) (by kernel_rfl) (fun _ _ _ h => h) (by kernel_rfl) (fun _ => hS) (by kernel_rfl) ?_ ?_
            · intro _; go_simp
            simp only [Act.put, List.setIfInBounds_toArray, List.set_cons_zero, List.set_cons_succ]
            refine wpAnyG_one (i := 12) rfl (by kernel_rfl) (by kernel_rfl) (fun K hK => ?_)
            go_simp
            refine hK.out _ _ (fun h => absurd (show true = false from h) (by decide)) ?_
            clear hK K
            refine wpAnyG_done (by kernel_rfl) ?_ _
            go_wp2
            go_ret
            exact ⟨rfl, hBw1.trans (hB9.mono hBw1.size)⟩
        · skip
          go_simp
          have hN59 : Holds (u51.alloc (.cells (row .u8 (List.replicate 32 0)) 23)) u51.heap.size .u8 23 (List.replicate 32 0) := Holds.new u51 .u8 23 (List.replicate 32 0)
          have hn59 : Below u51.heap.size u51 (u51.alloc (.cells (row .u8 (List.replicate 32 0)) 23)) := (Below.refl _ _).alloc (Nat.le_refl _) _
          have hb59 : Below W0.heap.size W0 (u51.alloc (.cells (row .u8 (List.replicate 32 0)) 23)) := hb51.trans (hn59.mono hb51.size)
          have hge59 := hb51.size
          have ho51n59 := ho51.belowM hn59
          have h451n59 := h451.alloc (.cells (row .u8 (List.replicate 32 0)) 23)
          refine hK.out _ _ (fun _ => hS) ?_
          clear hK K
          obtain ⟨G59, hGe59⟩ : ∃ q, u51.heap.size = q := ⟨_, rfl⟩
          have hlt459 := h451.lt
          obtain ⟨U59, hU59⟩ : ∃ q, u51.alloc (.cells (row .u8 (List.replicate 32 0)) 23) = q := ⟨_, rfl⟩
          have hc59 : u51.alloc (.cells #[.int .u8 0, .int .u8 0, .int .u8 0, .int .u8 0, .int .u8 0, .int .u8 0, .int .u8 0, .int .u8 0, .int .u8 0, .int .u8 0, .int .u8 0, .int .u8 0, .int .u8 0, .int .u8 0, .int .u8 0, .int .u8 0, .int .u8 0, .int .u8 0, .int .u8 0, .int .u8 0, .int .u8 0, .int .u8 0, .int .u8 0, .int .u8 0, .int .u8 0, .int .u8 0, .int .u8 0, .int .u8 0, .int .u8 0, .int .u8 0, .int .u8 0, .int .u8 0] 23) = U59 := hU59
          rw [hU59, hGe59] at hN59
          rw [hU59] at hb59 ho51n59 h451n59
          rw [hGe59] at hge59 hlt459
          rw [hc59, hGe59]
          clear hGe59 hU59 hc59 hn59
          refine wpAnyG_one (i := 5) rfl (by kernel_rfl) (by kernel_rfl) (fun K hK => ?_)
          refine wp_appA _ _ rfl W0.heap.size _ b rfl ho51n59 (some ⟨G49, 0, none⟩) 1 1 [1] rfl (h451n59.bytes rfl (by simp)) (by rw [HBL.out]; omega) hb59.size ?_
          intro v60 u60 ho60 hg60
          have hb60 : Below W0.heap.size W0 u60 := below_grown hb59 ho51n59 hg60 hb59.size
          have h760 := holds_grown hN59 ho51n59 hg60 (by decide)
          clear hg60
          refine hK.out _ _ (fun _ => hS) ?_
          clear hK K
          refine wpAnyG_one (i := 6) rfl (by kernel_rfl) (by kernel_rfl) (fun K hK => ?_)
          go_wp2_with (go_at_call 6; refine (hH _ _ _ (hBw.trans (hb60.mono hBw.size)) (hkW.below hb60 hkW.lt) ho60).mono ?_; rintro e u61 ⟨rfl, hx61⟩)
          have hb61 : Below W0.heap.size W0 u61 := hb60.trans (hx61.mono hb60.size)
          have h761 := h760.below hx61 h760.lt
          refine hK.out _ _ (fun _ => hS) ?_
          clear hK K
          refine wpAnyG_one (i := 8) rfl (by kernel_rfl) (by kernel_rfl) (fun K hK => ?_)
          refine wp_st 23 _ _ rfl _ rfl rfl h761 (by rw [hTl]; exact sizeKey) (by simp [hTl]) ?_
          refine hK.out _ _ (fun h => absurd (show true = false from h) (by decide)) ?_
          clear hK K
          refine wpAnyG_done (by kernel_rfl) ?_ _
          refine forget (p := fun y => Exit.then _ _ _ _ y) (fun W => Below W0.heap.size W0 W ∧ Holds W G59 .u8 23 TG) ⟨below_setRow hb61 hge59 _, h761.setRow TG⟩ ?_
          rintro W1 ⟨hb01, hG1⟩
          go_upto_region 4 with fail
          have hBw1 : Below w.heap.size w W1 := hBw.trans (hb01.mono hBw.size)
          have hyA1 := hyA.below hb01
          have cA := fun wx (h : Below W1.heap.size W1 wx) => conv_bytes (hyA1.below h)
          have cB := fun wx (h : Below W1.heap.size W1 wx) => conv_bytes ((hG1.below h hG1.lt).bytes (n := 32) hTl.symm (by omega))
          obtain ⟨SA, hSA⟩ : ∃ s, strOfNums TG = s := ⟨_, rfl⟩
          rw [hSA] at cA cB
          clear hSA hyA1 hG1 hb01 hH
          refine wp_region_gate (fun w' => (convert 24 9 (.slice xa 32 ca)).run Tryd.prog w' = .ok (.string SA) w' ∧ (convert 24 9 (.slice (some ⟨G59, 0, none⟩) 32 32)).run Tryd.prog w' = .ok (.string SA) w') 12 (by kernel_rfl) ?_
          refine wpAnyG_one (i := 0) rfl (by kernel_rfl) (by kernel_rfl) (fun K hK => ?_)
          go_wp2_with (go_at_call 7; refine (hLV _ hBw1.drew).mono ?_; rintro e w9 ⟨rfl, hb9⟩)
          have hB9 : Below W1.heap.size W1 w9 := ((Below.refl _ _).drew).trans hb9
          have hS := And.intro (cA _ hB9) (cB _ hB9)
          refine hK.out _ _ (fun _ => hS) ?_
          clear hK K
          refine wpAnyG_any (i := 1) (v := ?_) rfl (by kernel_rfl) (by kernel_rfl) (by kernel_rfl) (fun _ _ _ h => h) (by kernel_rfl) (fun _ => hS) (by kernel_rfl) ?_ ?_
          rotate_left
          · intro _; go_simp; try with_reducible rfl
          simp only [Act.put, List.setIfInBounds_toArray, List.set_cons_zero, List.set_cons_succ]
          refine wpAnyG_any (i := 2) (v := ?_) rfl (by kernel_rfl) (by kernel_rfl) (by kernel_rfl) (fun _ _ _ h => h) (by kernel_rfl) (fun _ => hS) (by kernel_rfl) ?_ ?_
          rotate_left
          · intro _; go_simp; try with_reducible rfl
          simp only [Act.put, List.setIfInBounds_toArray, List.set_cons_zero, List.set_cons_succ]
          refine wpAnyG_any (i := 3) (v := .bool true) rfl (by kernel_rfl) (by kernel_rfl) (by kernel_rfl) (fun _ _ _ h => h) (by kernel_rfl) (fun _ => hS) (by kernel_rfl) ?_ ?_
          · intro _; go_simp
          simp only [Act.put, List.setIfInBounds_toArray, List.set_cons_zero, List.set_cons_succ]
          refine wpAnyG_any (i := 4) (v := .bool true) rfl (by kernel_rfl) (by kernel_rfl) (by kernel_rfl) (fun _ _ _ h => h) (by kernel_rfl) (fun _ => hS) (by kernel_rfl) ?_ ?_
          · intro _; go_simp
          simp only [Act.put, List.setIfInBounds_toArray, List.set_cons_zero, List.set_cons_succ]
          refine wpAnyG_any (i := 5) (v := .bool true) rfl (by kernel_rfl) (by kernel_rfl) (by kernel_rfl) (fun _ _ _ h => h) (by kernel_rfl) (fun _ => hS) (by kernel_rfl) ?_ ?_
          · intro _; go_simp
          simp only [Act.put, List.setIfInBounds_toArray, List.set_cons_zero, List.set_cons_succ]
          refine wpAnyG_any (i := 6) (v := ?_) rfl (by kernel_rfl) (by kernel_rfl) (by kernel_rfl) (fun _ _ _ h => h) (by kernel_rfl) (fun _ => hS) (by kernel_rfl) ?_ ?_
          rotate_left
          · intro _; go_simp; try with_reducible rfl
          simp only [Act.put, List.setIfInBounds_toArray, List.set_cons_zero, List.set_cons_succ]
          refine wpAnyG_any (i := 8) (v := ?_) rfl (by kernel_rfl) (by kernel_rfl) (by kernel_rfl) (fun _ _ _ h => h) (by kernel_rfl) (fun _ => hS) (by kernel_rfl) ?_ ?_
          rotate_left
          · intro _; go_simp; try with_reducible rfl
          simp only [Act.put, List.setIfInBounds_toArray, List.set_cons_zero, List.set_cons_succ]
          refine wpAnyG_read (i := 7) (v := ?_) rfl (by kernel_rfl) (by kernel_rfl) (by kernel_rfl) (fun _ _ _ h => h) (by kernel_rfl) (by kernel_rfl) (by kernel_rfl) hS (by kernel_rfl) ?_ ?_
          rotate_left
          · intro wx hSw; go_split_ands; go_simp; try with_reducible rfl
          simp only [Act.put, List.setIfInBounds_toArray, List.set_cons_zero, List.set_cons_succ]
          refine wpAnyG_read (i := 9) (v := ?_) rfl (by kernel_rfl) (by kernel_rfl) (by kernel_rfl) (fun _ _ _ h => h) (by kernel_rfl) (by kernel_rfl) (by kernel_rfl) hS (by kernel_rfl) ?_ ?_
          rotate_left
          · intro wx hSw; go_split_ands; go_simp; try with_reducible rfl
          simp only [Act.put, List.setIfInBounds_toArray, List.set_cons_zero, List.set_cons_succ]
          refine wpAnyG_any (i := 10) (v := .bool true) rfl (by kernel_rfl) (by kernel_rfl) (by kernel_rfl) (fun _ _ _ h => h) (by kernel_rfl) (fun _ => hS) (by kernel_rfl) ?_ ?_
          · intro _; go_simp
          simp only [Act.put, List.setIfInBounds_toArray, List.set_cons_zero, List.set_cons_succ]
          refine wpAnyG_any (i := 11) (v := .bool true) rfl (by kernel_rfl) (by kernel_rfl) (by kernel_rfl) (fun _ _ _ h => h) (by kernel_rfl) (fun _ => hS) (by kernel_rfl) ?_ ?_
          · intro _; go_simp
          simp only [Act.put, List.setIfInBounds_toArray, List.set_cons_zero, List.set_cons_succ]
          refine wpAnyG_one (i := 12) rfl (by kernel_rfl) (by kernel_rfl) (fun K hK => ?_)
          go_simp
          refine hK.out _ _ (fun h => absurd (show true = false from h) (by decide)) ?_
          clear hK K
          refine wpAnyG_done (by kernel_rfl) ?_ _
          go_wp2
          go_ret
          exact ⟨rfl, hBw1.trans (hB9.mono hBw1.size)⟩
      · skip
        go_simp
        have hN63 : Holds (U50.alloc (.cells (row .u8 (List.replicate 32 0)) 23)) U50.heap.size .u8 23 (List.replicate 32 0) := Holds.new U50 .u8 23 (List.replicate 32 0)
        have hn63 : Below U50.heap.size U50 (U50.alloc (.cells (row .u8 (List.replicate 32 0)) 23)) := (Below.refl _ _).alloc (Nat.le_refl _) _
        have hb63 : Below W0.heap.size W0 (U50.alloc (.cells (row .u8 (List.replicate 32 0)) 23)) := hb50.trans (hn63.mono hb50.size)
        have hge63 := hb50.size
        have hO50n63 := hO50.belowM hn63
        have hN49n50n63 := hN49n50.alloc (.cells (row .u8 (List.replicate 32 0)) 23)
        refine hK.out _ _ (fun _ => hS) ?_
        clear hK K
        obtain ⟨G63, hGe63⟩ : ∃ q, U50.heap.size = q := ⟨_, rfl⟩
        have hlt463 := hN49n50.lt
        have hlt163 := hltg50
        obtain ⟨U63, hU63⟩ : ∃ q, U50.alloc (.cells (row .u8 (List.replicate 32 0)) 23) = q := ⟨_, rfl⟩
        have hc63 : U50.alloc (.cells #[.int .u8 0, .int .u8 0, .int .u8 0, .int .u8 0, .int .u8 0, .int .u8 0, .int .u8 0, .int .u8 0, .int .u8 0, .int .u8 0, .int .u8 0, .int .u8 0, .int .u8 0, .int .u8 0, .int .u8 0, .int .u8 0, .int .u8 0, .int .u8 0, .int .u8 0, .int .u8 0, .int .u8 0, .int .u8 0, .int .u8 0, .int .u8 0, .int .u8 0, .int .u8 0, .int .u8 0, .int .u8 0, .int .u8 0, .int .u8 0, .int .u8 0, .int .u8 0] 23) = U63 := hU63
        rw [hU63, hGe63] at hN63
        rw [hU63] at hb63 hO50n63 hN49n50n63
        rw [hGe63] at hge63 hlt463 hlt163
        rw [hc63, hGe63]
        have hltg63 : G50 < U63.heap.size := by rw [← hU63]; simp; omega
        clear hGe63 hU63 hc63 hn63
        refine wpAnyG_one (i := 3) rfl (by kernel_rfl) (by kernel_rfl) (fun K hK => ?_)
        refine wp_appA _ _ rfl W0.heap.size _ [] rfl hO50n63 y m cb b rfl (hyW.below hb63) (by simp; omega) hb63.size ?_
        intro v64 u64 ho64 hg64
        have hb64 : Below W0.heap.size W0 u64 := below_grown hb63 hO50n63 hg64 hb63.size
        rw [List.nil_append] at ho64
        have h464 := holds_grownA hN49n50n63 hg64 hne50
        have h764 := holds_grown hN63 hO50n63 hg64 (by decide)
        clear hg64
        refine hK.out _ _ (fun _ => hS) ?_
        clear hK K
        refine wpAnyG_one (i := 5) rfl (by kernel_rfl) (by kernel_rfl) (fun K hK => ?_)
        refine wp_appA _ _ rfl W0.heap.size _ b rfl ho64 (some ⟨G49, 0, none⟩) 1 1 [1] rfl (h464.bytes rfl (by simp)) (by rw [HBL.out]; omega) hb64.size ?_
        intro v65 u65 ho65 hg65
        have hb65 : Below W0.heap.size W0 u65 := below_grown hb64 ho64 hg65 hb64.size
        have h765 := holds_grown h764 ho64 hg65 (by decide)
        clear hg65
        refine hK.out _ _ (fun _ => hS) ?_
        clear hK K
        refine wpAnyG_one (i := 6) rfl (by kernel_rfl) (by kernel_rfl) (fun K hK => ?_)
        go_wp2_with (go_at_call 6; refine (hH _ _ _ (hBw.trans (hb65.mono hBw.size)) (hkW.below hb65 hkW.lt) ho65).mono ?_; rintro e u66 ⟨rfl, hx66⟩)
        have hb66 : Below W0.heap.size W0 u66 := hb65.trans (hx66.mono hb65.size)
        have h766 := h765.below hx66 h765.lt
        refine hK.out _ _ (fun _ => hS) ?_
        clear hK K
        refine wpAnyG_one (i := 8) rfl (by kernel_rfl) (by kernel_rfl) (fun K hK => ?_)
        refine wp_st 23 _ _ rfl _ rfl rfl h766 (by rw [hTl]; exact sizeKey) (by simp [hTl]) ?_
        refine hK.out _ _ (fun h => absurd (show true = false from h) (by decide)) ?_
        clear hK K
        refine wpAnyG_done (by kernel_rfl) ?_ _
        refine forget (p := fun y => Exit.then _ _ _ _ y) (fun W => Below W0.heap.size W0 W ∧ Holds W G63 .u8 23 TG) ⟨below_setRow hb66 hge63 _, h766.setRow TG⟩ ?_
        rintro W1 ⟨hb01, hG1⟩
        go_upto_region 4 with fail
        have hBw1 : Below w.heap.size w W1 := hBw.trans (hb01.mono hBw.size)
        have hyA1 := hyA.below hb01
        have cA := fun wx (h : Below W1.heap.size W1 wx) => conv_bytes (hyA1.below h)
        have cB := fun wx (h : Below W1.heap.size W1 wx) => conv_bytes ((hG1.below h hG1.lt).bytes (n := 32) hTl.symm (by omega))
        obtain ⟨SA, hSA⟩ : ∃ s, strOfNums TG = s := ⟨_, rfl⟩
        rw [hSA] at cA cB
        clear hSA hyA1 hG1 hb01 hH
        refine wp_region_gate (fun w' => (convert 24 9 (.slice xa 32 ca)).run Tryd.prog w' = .ok (.string SA) w' ∧ (convert 24 9 (.slice (some ⟨G63, 0, none⟩) 32 32)).run Tryd.prog w' = .ok (.string SA) w') 12 (by kernel_rfl) ?_
        refine wpAnyG_one (i := 0) rfl (by kernel_rfl) (by kernel_rfl) (fun K hK => ?_)
        go_wp2_with (go_at_call 7; refine (hLV _ hBw1.drew).mono ?_; rintro e w9 ⟨rfl, hb9⟩)
        have hB9 : Below W1.heap.size W1 w9 := ((Below.refl _ _).drew).trans hb9
        have hS := And.intro (cA _ hB9) (cB _ hB9)
        refine hK.out _ _ (fun _ => hS) ?_
        clear hK K
        refine wpAnyG_any (i := 1) (v := ?_) rfl (by kernel_rfl) (by kernel_rfl) (by kernel_rfl) (fun _ _ _ h => h) (by kernel_rfl) (fun _ => hS) (by kernel_rfl) ?_ ?_
        rotate_left
        · intro _; go_simp; try with_reducible rfl
        simp only [Act.put, List.setIfInBounds_toArray, List.set_cons_zero, List.set_cons_succ]
        refine wpAnyG_any (i := 2) (v := ?_) rfl (by kernel_rfl) (by kernel_rfl) (by kernel_rfl) (fun _ _ _ h => h) (by kernel_rfl) (fun _ => hS) (by kernel_rfl) ?_ ?_
        rotate_left
        · intro _; go_simp; try with_reducible rfl
        simp only [Act.put, List.setIfInBounds_toArray, List.set_cons_zero, List.set_cons_succ]
        refine wpAnyG_any (i := 3) (v := .bool true) rfl (by kernel_rfl) (by kernel_rfl) (by kernel_rfl) (fun _ _ _ h => h) (by kernel_rfl) (fun _ => hS) (by kernel_rfl) ?_ ?_
        · intro _; go_simp
        simp only [Act.put, List.setIfInBounds_toArray, List.set_cons_zero, List.set_cons_succ]
        refine wpAnyG_any (i := 4) (v := .bool true) rfl (by kernel_rfl) (by kernel_rfl) (by kernel_rfl) (fun _ _ _ h => h) (by kernel_rfl) (fun _ => hS) (by kernel_rfl) ?_ ?_
        · intro _; go_simp
        simp only [Act.put, List.setIfInBounds_toArray, List.set_cons_zero, List.set_cons_succ]
        refine wpAnyG_any (i := 5) (v := .bool true) rfl (by kernel_rfl) (by kernel_rfl) (by kernel_rfl) (fun _ _ _ h => h) (by kernel_rfl) (fun _ => hS) (by kernel_rfl) ?_ ?_
        · intro _; go_simp
        simp only [Act.put, List.setIfInBounds_toArray, List.set_cons_zero, List.set_cons_succ]
        refine wpAnyG_any (i := 6) (v := ?_) rfl (by kernel_rfl) (by kernel_rfl) (by kernel_rfl) (fun _ _ _ h => h) (by kernel_rfl) (fun _ => hS) (by kernel_rfl) ?_ ?_
        rotate_left
        · intro _; go_simp; try with_reducible rfl
        simp only [Act.put, List.setIfInBounds_toArray, List.set_cons_zero, List.set_cons_succ]
        refine wpAnyG_any (i := 8) (v := ?_) rfl (by kernel_rfl) (by kernel_rfl) (by kernel_rfl) (fun _ _ _ h => h) (by kernel_rfl) (fun _ => hS) (by kernel_rfl) ?_ ?_
        rotate_left
        · intro _; go_simp; try with_reducible rfl
        simp only [Act.put, List.setIfInBounds_toArray, List.set_cons_zero, List.set_cons_succ]
        refine wpAnyG_read (i := 7) (v := ?_) rfl (by kernel_rfl) (by kernel_rfl) (by kernel_rfl) (fun _ _ _ h => h) (by kernel_rfl) (by kernel_rfl) (by kernel_rfl) hS (by kernel_rfl) ?_ ?_
        rotate_left
        · intro wx hSw; go_split_ands; go_simp; try with_reducible rfl
        simp only [Act.put, List.setIfInBounds_toArray, List.set_cons_zero, List.set_cons_succ]
        refine wpAnyG_read (i := 9) (v := ?_) rfl (by kernel_rfl) (by kernel_rfl) (by kernel_rfl) (fun _ _ _ h => h) (by kernel_rfl) (by kernel_rfl) (by kernel_rfl) hS (by kernel_rfl) ?_ ?_
        rotate_left
        · intro wx hSw; go_split_ands; go_simp; try with_reducible rfl
        simp only [Act.put, List.setIfInBounds_toArray, List.set_cons_zero, List.set_cons_succ]
        refine wpAnyG_any (i := 10) (v := .bool true) rfl (by kernel_rfl) (by kernel_rfl) (by kernel_rfl) (fun _ _ _ h => h) (by kernel_rfl) (fun _ => hS) (by kernel_rfl) ?_ ?_
        · intro _; go_simp
        simp only [Act.put, List.setIfInBounds_toArray, List.set_cons_zero, List.set_cons_succ]
        refine wpAnyG_any (i := 11) (v := .bool true) rfl (by kernel_rfl) (by kernel_rfl) (by kernel_rfl) (fun _ _ _ h => h) (by kernel_rfl) (fun _ => hS) (by kernel_rfl) ?_ ?_
        · intro _; go_simp
        simp only [Act.put, List.setIfInBounds_toArray, List.set_cons_zero, List.set_cons_succ]
        refine wpAnyG_one (i := 12) rfl (by kernel_rfl) (by kernel_rfl) (fun K hK => ?_)
        go_simp
        refine hK.out _ _ (fun h => absurd (show true = false from h) (by decide)) ?_
        clear hK K
        refine wpAnyG_done (by kernel_rfl) ?_ _
        go_wp2
        go_ret
        exact ⟨rfl, hBw1.trans (hB9.mono hBw1.size)⟩
    · skip
      go_simp
      have hN68 : Holds (U49.alloc (.cells (row .u8 (List.replicate 32 0)) 23)) U49.heap.size .u8 23 (List.replicate 32 0) := Holds.new U49 .u8 23 (List.replicate 32 0)
      have hn68 : Below U49.heap.size U49 (U49.alloc (.cells (row .u8 (List.replicate 32 0)) 23)) := (Below.refl _ _).alloc (Nat.le_refl _) _
      have hb68 : Below W0.heap.size W0 (U49.alloc (.cells (row .u8 (List.replicate 32 0)) 23)) := hb49.trans (hn68.mono hb49.size)
      have hge68 := hb49.size
      have hN49n68 := hN49.alloc (.cells (row .u8 (List.replicate 32 0)) 23)
      refine hK.out _ _ (fun _ => hS) ?_
      clear hK K
      obtain ⟨G68, hGe68⟩ : ∃ q, U49.heap.size = q := ⟨_, rfl⟩
      have hlt468 := hN49.lt
      obtain ⟨U68, hU68⟩ : ∃ q, U49.alloc (.cells (row .u8 (List.replicate 32 0)) 23) = q := ⟨_, rfl⟩
      have hc68 : U49.alloc (.cells #[.int .u8 0, .int .u8 0, .int .u8 0, .int .u8 0, .int .u8 0, .int .u8 0, .int .u8 0, .int .u8 0, .int .u8 0, .int .u8 0, .int .u8 0, .int .u8 0, .int .u8 0, .int .u8 0, .int .u8 0, .int .u8 0, .int .u8 0, .int .u8 0, .int .u8 0, .int .u8 0, .int .u8 0, .int .u8 0, .int .u8 0, .int .u8 0, .int .u8 0, .int .u8 0, .int .u8 0, .int .u8 0, .int .u8 0, .int .u8 0, .int .u8 0, .int .u8 0] 23) = U68 := hU68
      rw [hU68, hGe68] at hN68
      rw [hU68] at hb68 hN49n68
      rw [hGe68] at hge68 hlt468
      rw [hc68, hGe68]
      clear hGe68 hU68 hc68 hn68
      refine wpAnyG_one (i := 1) rfl (by kernel_rfl) (by kernel_rfl) (fun K hK => ?_)
      go_simp
      have hN69 : Holds (U68.alloc (.cells (row .u8 []) 5)) U68.heap.size .u8 5 [] := Holds.new U68 .u8 5 []
      have hn69 : Below U68.heap.size U68 (U68.alloc (.cells (row .u8 []) 5)) := (Below.refl _ _).alloc (Nat.le_refl _) _
      have hb69 : Below W0.heap.size W0 (U68.alloc (.cells (row .u8 []) 5)) := hb68.trans (hn69.mono hb68.size)
      have hge69 := hb68.size
      have hN49n68n69 := hN49n68.alloc (.cells (row .u8 []) 5)
      have hN68n69 := hN68.alloc (.cells (row .u8 []) 5)
      refine hK.out _ _ (fun _ => hS) ?_
      clear hK K
      obtain ⟨G69, hGe69⟩ : ∃ q, U68.heap.size = q := ⟨_, rfl⟩
      have hlt469 := hN49n68.lt
      obtain ⟨U69, hU69⟩ : ∃ q, U68.alloc (.cells (row .u8 []) 5) = q := ⟨_, rfl⟩
      have hc69 : U68.alloc (.cells #[] 5) = U69 := hU69
      rw [hU69, hGe69] at hN69
      rw [hU69] at hb69 hN49n68n69 hN68n69
      rw [hGe69] at hge69 hlt469
      rw [hc69, hGe69]
      have hO69 : OwnB U69 W0.heap.size (.slice (some ⟨G69, 0, none⟩) 0 0) [] := by rw [← hU69, ← hGe69]; exact OwnB.empty U68 W0.heap.size hb68.size
      have hltg69 : G69 < U69.heap.size := hN69.lt
      have hne69 : G69 ≠ G49 := by omega
      clear hGe69 hU69 hc69 hn69
      refine wpAnyG_one (i := 3) rfl (by kernel_rfl) (by kernel_rfl) (fun K hK => ?_)
      refine wp_appA _ _ rfl W0.heap.size _ [] rfl hO69 y m cb b rfl (hyW.below hb69) (by simp; omega) hb69.size ?_
      intro v70 u70 ho70 hg70
      have hb70 : Below W0.heap.size W0 u70 := below_grown hb69 hO69 hg70 hb69.size
      rw [List.nil_append] at ho70
      have h470 := holds_grownA hN49n68n69 hg70 hne69
      have h770 := holds_grown hN68n69 hO69 hg70 (by decide)
      clear hg70
      refine hK.out _ _ (fun _ => hS) ?_
      clear hK K
      refine wpAnyG_one (i := 5) rfl (by kernel_rfl) (by kernel_rfl) (fun K hK => ?_)
      refine wp_appA _ _ rfl W0.heap.size _ b rfl ho70 (some ⟨G49, 0, none⟩) 1 1 [1] rfl (h470.bytes rfl (by simp)) (by rw [HBL.out]; omega) hb70.size ?_
      intro v71 u71 ho71 hg71
      have hb71 : Below W0.heap.size W0 u71 := below_grown hb70 ho70 hg71 hb70.size
      have h771 := holds_grown h770 ho70 hg71 (by decide)
      clear hg71
      refine hK.out _ _ (fun _ => hS) ?_
      clear hK K
      refine wpAnyG_one (i := 6) rfl (by kernel_rfl) (by kernel_rfl) (fun K hK => ?_)
      go_wp2_with (go_at_call 6; refine (hH _ _ _ (hBw.trans (hb71.mono hBw.size)) (hkW.below hb71 hkW.lt) ho71).mono ?_; rintro e u72 ⟨rfl, hx72⟩)
      have hb72 : Below W0.heap.size W0 u72 := hb71.trans (hx72.mono hb71.size)
      have h772 := h771.below hx72 h771.lt
      refine hK.out _ _ (fun _ => hS) ?_
      clear hK K
      refine wpAnyG_one (i := 8) rfl (by kernel_rfl) (by kernel_rfl) (fun K hK => ?_)
      refine wp_st 23 _ _ rfl _ rfl rfl h772 (by rw [hTl]; exact sizeKey) (by simp [hTl]) ?_
      refine hK.out _ _ (fun h => absurd (show true = false from h) (by decide)) ?_
      clear hK K
      refine wpAnyG_done (by kernel_rfl) ?_ _
      refine forget (p := fun y => Exit.then _ _ _ _ y) (fun W => Below W0.heap.size W0 W ∧ Holds W G68 .u8 23 TG) ⟨below_setRow hb72 hge68 _, h772.setRow TG⟩ ?_
      rintro W1 ⟨hb01, hG1⟩
      go_upto_region 4 with fail
      have hBw1 : Below w.heap.size w W1 := hBw.trans (hb01.mono hBw.size)
      have hyA1 := hyA.below hb01
      have cA := fun wx (h : Below W1.heap.size W1 wx) => conv_bytes (hyA1.below h)
      have cB := fun wx (h : Below W1.heap.size W1 wx) => conv_bytes ((hG1.below h hG1.lt).bytes (n := 32) hTl.symm (by omega))
      obtain ⟨SA, hSA⟩ : ∃ s, strOfNums TG = s := ⟨_, rfl⟩
      rw [hSA] at cA cB
      clear hSA hyA1 hG1 hb01 hH
      refine wp_region_gate (fun w' => (convert 24 9 (.slice xa 32 ca)).run Tryd.prog w' = .ok (.string SA) w' ∧ (convert 24 9 (.slice (some ⟨G68, 0, none⟩) 32 32)).run Tryd.prog w' = .ok (.string SA) w') 12 (by kernel_rfl) ?_
      refine wpAnyG_one (i := 0) rfl (by kernel_rfl) (by kernel_rfl) (fun K hK => ?_)
      go_wp2_with (go_at_call 7; refine (hLV _ hBw1.drew).mono ?_; rintro e w9 ⟨rfl, hb9⟩)
      have hB9 : Below W1.heap.size W1 w9 := ((Below.refl _ _).drew).trans hb9
      have hS := And.intro (cA _ hB9) (cB _ hB9)
      refine hK.out _ _ (fun _ => hS) ?_
      clear hK K
      refine wpAnyG_any (i := 1) (v := ?_) rfl (by kernel_rfl) (by kernel_rfl) (by kernel_rfl) (fun _ _ _ h => h) (by kernel_rfl) (fun _ => hS) (by kernel_rfl) ?_ ?_
      rotate_left
      · intro _; go_simp; try with_reducible rfl
      simp only [Act.put, List.setIfInBounds_toArray, List.set_cons_zero, List.set_cons_succ]
      refine wpAnyG_any (i := 2) (v := ?_) rfl (by kernel_rfl) (by kernel_rfl) (by kernel_rfl) (fun _ _ _ h => h) (by kernel_rfl) (fun _ => hS) (by kernel_rfl) ?_ ?_
      rotate_left
      · intro _; go_simp; try with_reducible rfl
      simp only [Act.put, List.setIfInBounds_toArray, List.set_cons_zero, List.set_cons_succ]
      refine wpAnyG_any (i := 3) (v := .bool true) rfl (by kernel_rfl) (by kernel_rfl) (by kernel_rfl) (fun _ _ _ h => h) (by kernel_rfl) (fun _ => hS) (by kernel_rfl) ?_ ?_
      · intro _; go_simp
      simp only [Act.put, List.setIfInBounds_toArray, List.set_cons_zero, List.set_cons_succ]
      refine wpAnyG_any (i := 4) (v := .bool true) rfl (by kernel_rfl) (by kernel_rfl) (by kernel_rfl) (fun _ _ _ h => h) (by kernel_rfl) (fun _ => hS) (by kernel_rfl) ?_ ?_
      · intro _; go_simp
      simp only [Act.put, List.setIfInBounds_toArray, List.set_cons_zero, List.set_cons_succ]
      refine wpAnyG_any (i := 5) (v := .bool true) rfl (by kernel_rfl) (by kernel_rfl) (by kernel_rfl) (fun _ _ _ h => h) (by kernel_rfl) (fun _ => hS) (by kernel_rfl) ?_ ?_
      · intro _; go_simp
      simp only [Act.put, List.setIfInBounds_toArray, List.set_cons_zero, List.set_cons_succ]
      refine wpAnyG_any (i := 6) (v := ?_) rfl (by kernel_rfl) (by kernel_rfl) (by kernel_rfl) (fun _ _ _ h => h) (by kernel_rfl) (fun _ => hS) (by kernel_rfl) ?_ ?_
      rotate_left
      · intro _; go_simp; try with_reducible rfl
      simp only [Act.put, List.setIfInBounds_toArray, List.set_cons_zero, List.set_cons_succ]
      refine wpAnyG_any (i := 8) (v := ?_) rfl (by kernel_rfl) (by kernel_rfl) (by kernel_rfl) (fun _ _ _ h => h) (by kernel_rfl) (fun _ => hS) (by kernel_rfl) ?_ ?_
      rotate_left
      · intro _; go_simp; try with_reducible rfl
      simp only [Act.put, List.setIfInBounds_toArray, List.set_cons_zero, List.set_cons_succ]
      refine wpAnyG_read (i := 7) (v := ?_) rfl (by kernel_rfl) (by kernel_rfl) (by kernel_rfl) (fun _ _ _ h => h) (by kernel_rfl) (by kernel_rfl) (by kernel_rfl) hS (by kernel_rfl) ?_ ?_
      rotate_left
      · intro wx hSw; go_split_ands; go_simp; try with_reducible rfl
      simp only [Act.put, List.setIfInBounds_toArray, List.set_cons_zero, List.set_cons_succ]
      refine wpAnyG_read (i := 9) (v := ?_) rfl (by kernel_rfl) (by kernel_rfl) (by kernel_rfl) (fun _ _ _ h => h) (by kernel_rfl) (by kernel_rfl) (by kernel_rfl) hS (by kernel_rfl) ?_ ?_
      rotate_left
      · intro wx hSw; go_split_ands; go_simp; try with_reducible rfl
      simp only [Act.put, List.setIfInBounds_toArray, List.set_cons_zero, List.set_cons_succ]
      refine wpAnyG_any (i := 10) (v := .bool true) rfl (by kernel_rfl) (by kernel_rfl) (by kernel_rfl) (fun _ _ _ h => h) (by kernel_rfl) (fun _ => hS) (by kernel_rfl) ?_ ?_
      · intro _; go_simp
      simp only [Act.put, List.setIfInBounds_toArray, List.set_cons_zero, List.set_cons_succ]
      refine wpAnyG_any (i := 11) (v := .bool true) rfl (by kernel_rfl) (by kernel_rfl) (by kernel_rfl) (fun _ _ _ h => h) (by kernel_rfl) (fun _ => hS) (by kernel_rfl) ?_ ?_
      · intro _; go_simp
      simp only [Act.put, List.setIfInBounds_toArray, List.set_cons_zero, List.set_cons_succ]
      refine wpAnyG_one (i := 12) rfl (by kernel_rfl) (by kernel_rfl) (fun K hK => ?_)
      go_simp
      refine hK.out _ _ (fun h => absurd (show true = false from h) (by decide)) ?_
      clear hK K
      refine wpAnyG_done (by kernel_rfl) ?_ _
      go_wp2
      go_ret
      exact ⟨rfl, hBw1.trans (hB9.mono hBw1.size)⟩
  · skip
    go_simp
    have hN74 : Holds (D0.alloc (.cells (row .u8 (List.replicate 32 0)) 23)) D0.heap.size .u8 23 (List.replicate 32 0) := Holds.new D0 .u8 23 (List.replicate 32 0)
    have hn74 : Below D0.heap.size D0 (D0.alloc (.cells (row .u8 (List.replicate 32 0)) 23)) := (Below.refl _ _).alloc (Nat.le_refl _) _
    have hb74 : Below W0.heap.size W0 (D0.alloc (.cells (row .u8 (List.replicate 32 0)) 23)) := hb0.trans (hn74.mono hb0.size)
    have hge74 := hb0.size
    refine hK.out _ _ (fun _ => hS) ?_
    clear hK K
    obtain ⟨G74, hGe74⟩ : ∃ q, D0.heap.size = q := ⟨_, rfl⟩
    obtain ⟨U74, hU74⟩ : ∃ q, D0.alloc (.cells (row .u8 (List.replicate 32 0)) 23) = q := ⟨_, rfl⟩
    have hc74 : D0.alloc (.cells #[.int .u8 0, .int .u8 0, .int .u8 0, .int .u8 0, .int .u8 0, .int .u8 0, .int .u8 0, .int .u8 0, .int .u8 0, .int .u8 0, .int .u8 0, .int .u8 0, .int .u8 0, .int .u8 0, .int .u8 0, .int .u8 0, .int .u8 0, .int .u8 0, .int .u8 0, .int .u8 0, .int .u8 0, .int .u8 0, .int .u8 0, .int .u8 0, .int .u8 0, .int .u8 0, .int .u8 0, .int .u8 0, .int .u8 0, .int .u8 0, .int .u8 0, .int .u8 0] 23) = U74 := hU74
    rw [hU74, hGe74] at hN74
    rw [hU74] at hb74 
    rw [hGe74] at hge74
    rw [hc74, hGe74]
    clear hGe74 hU74 hc74 hn74
    refine wpAnyG_two (i := 1) (j := 4) rfl rfl (by kernel_rfl) (by kernel_rfl) (by kernel_rfl) (fun K hK => ?_) (fun K hK => ?_)
    · skip
      go_simp
      have hN75 : Holds (U74.alloc (.cells (row .u8 []) 5)) U74.heap.size .u8 5 [] := Holds.new U74 .u8 5 []
      have hn75 : Below U74.heap.size U74 (U74.alloc (.cells (row .u8 []) 5)) := (Below.refl _ _).alloc (Nat.le_refl _) _
      have hb75 : Below W0.heap.size W0 (U74.alloc (.cells (row .u8 []) 5)) := hb74.trans (hn75.mono hb74.size)
      have hge75 := hb74.size
      have hN74n75 := hN74.alloc (.cells (row .u8 []) 5)
      refine hK.out _ _ (fun _ => hS) ?_
      clear hK K
      obtain ⟨G75, hGe75⟩ : ∃ q, U74.heap.size = q := ⟨_, rfl⟩
      obtain ⟨U75, hU75⟩ : ∃ q, U74.alloc (.cells (row .u8 []) 5) = q := ⟨_, rfl⟩
      have hc75 : U74.alloc (.cells #[] 5) = U75 := hU75
      rw [hU75, hGe75] at hN75
      rw [hU75] at hb75 hN74n75
      rw [hGe75] at hge75
      rw [hc75, hGe75]
      have hO75 : OwnB U75 W0.heap.size (.slice (some ⟨G75, 0, none⟩) 0 0) [] := by rw [← hU75, ← hGe75]; exact OwnB.empty U74 W0.heap.size hb74.size
      have hltg75 : G75 < U75.heap.size := hN75.lt
      clear hGe75 hU75 hc75 hn75
      refine wpAnyG_two (i := 3) (j := 4) rfl rfl (by kernel_rfl) (by kernel_rfl) (by kernel_rfl) (fun K hK => ?_) (fun K hK => ?_)
      · skip
        refine wp_appA _ _ rfl W0.heap.size _ [] rfl hO75 y m cb b rfl (hyW.below hb75) (by simp; omega) hb75.size ?_
        intro v76 u76 ho76 hg76
        have hb76 : Below W0.heap.size W0 u76 := below_grown hb75 hO75 hg76 hb75.size
        rw [List.nil_append] at ho76
        have h776 := holds_grown hN74n75 hO75 hg76 (by decide)
        clear hg76
        refine hK.out _ _ (fun _ => hS) ?_
        clear hK K
        refine wpAnyG_one (i := 4) rfl (by kernel_rfl) (by kernel_rfl) (fun K hK => ?_)
        go_simp
        have hN77 : Holds (u76.alloc (.cells (row .u8 [1]) 5)) u76.heap.size .u8 5 [1] := Holds.new u76 .u8 5 [1]
        have hn77 : Below u76.heap.size u76 (u76.alloc (.cells (row .u8 [1]) 5)) := (Below.refl _ _).alloc (Nat.le_refl _) _
        have hb77 : Below W0.heap.size W0 (u76.alloc (.cells (row .u8 [1]) 5)) := hb76.trans (hn77.mono hb76.size)
        have hge77 := hb76.size
        have ho76n77 := ho76.belowM hn77
        have h776n77 := h776.alloc (.cells (row .u8 [1]) 5)
        refine hK.out _ _ (fun _ => hS) ?_
        clear hK K
        obtain ⟨G77, hGe77⟩ : ∃ q, u76.heap.size = q := ⟨_, rfl⟩
        obtain ⟨U77, hU77⟩ : ∃ q, u76.alloc (.cells (row .u8 [1]) 5) = q := ⟨_, rfl⟩
        have hc77 : u76.alloc (.cells #[.int .u8 1] 5) = U77 := hU77
        rw [hU77, hGe77] at hN77
        rw [hU77] at hb77 ho76n77 h776n77
        rw [hGe77] at hge77
        rw [hc77, hGe77]
        clear hGe77 hU77 hc77 hn77
        refine wpAnyG_one (i := 5) rfl (by kernel_rfl) (by kernel_rfl) (fun K hK => ?_)
        refine wp_appA _ _ rfl W0.heap.size _ b rfl ho76n77 (some ⟨G77, 0, none⟩) 1 1 [1] rfl (hN77.bytes rfl (by simp)) (by rw [HBL.out]; omega) hb77.size ?_
        intro v78 u78 ho78 hg78
        have hb78 : Below W0.heap.size W0 u78 := below_grown hb77 ho76n77 hg78 hb77.size
        have h778 := holds_grown h776n77 ho76n77 hg78 (by decide)
        clear hg78
        refine hK.out _ _ (fun _ => hS) ?_
        clear hK K
        refine wpAnyG_one (i := 6) rfl (by kernel_rfl) (by kernel_rfl) (fun K hK => ?_)
        go_wp2_with (go_at_call 6; refine (hH _ _ _ (hBw.trans (hb78.mono hBw.size)) (hkW.below hb78 hkW.lt) ho78).mono ?_; rintro e u79 ⟨rfl, hx79⟩)
        have hb79 : Below W0.heap.size W0 u79 := hb78.trans (hx79.mono hb78.size)
        have h779 := h778.below hx79 h778.lt
        refine hK.out _ _ (fun _ => hS) ?_
        clear hK K
        refine wpAnyG_one (i := 8) rfl (by kernel_rfl) (by kernel_rfl) (fun K hK => ?_)
        refine wp_st 23 _ _ rfl _ rfl rfl h779 (by rw [hTl]; exact sizeKey) (by simp [hTl]) ?_
        refine hK.out _ _ (fun h => absurd (show true = false from h) (by decide)) ?_
        clear hK K
        refine wpAnyG_done (by kernel_rfl) ?_ _
        refine forget (p := fun y => Exit.then _ _ _ _ y) (fun W => Below W0.heap.size W0 W ∧ Holds W G74 .u8 23 TG) ⟨below_setRow hb79 hge74 _, h779.setRow TG⟩ ?_
        rintro W1 ⟨hb01, hG1⟩
        go_upto_region 4 with fail
        have hBw1 : Below w.heap.size w W1 := hBw.trans (hb01.mono hBw.size)
        have hyA1 := hyA.below hb01
        have cA := fun wx (h : Below W1.heap.size W1 wx) => conv_bytes (hyA1.below h)
        have cB := fun wx (h : Below W1.heap.size W1 wx) => conv_bytes ((hG1.below h hG1.lt).bytes (n := 32) hTl.symm (by omega))
        obtain ⟨SA, hSA⟩ : ∃ s, strOfNums TG = s := ⟨_, rfl⟩
        rw [hSA] at cA cB
        clear hSA hyA1 hG1 hb01 hH
        refine wp_region_gate (fun w' => (convert 24 9 (.slice xa 32 ca)).run Tryd.prog w' = .ok (.string SA) w' ∧ (convert 24 9 (.slice (some ⟨G74, 0, none⟩) 32 32)).run Tryd.prog w' = .ok (.string SA) w') 12 (by kernel_rfl) ?_
        refine wpAnyG_one (i := 0) rfl (by kernel_rfl) (by kernel_rfl) (fun K hK => ?_)
        go_wp2_with (go_at_call 7; refine (hLV _ hBw1.drew).mono ?_; rintro e w9 ⟨rfl, hb9⟩)
        have hB9 : Below W1.heap.size W1 w9 := ((Below.refl _ _).drew).trans hb9
        have hS := And.intro (cA _ hB9) (cB _ hB9)
        refine hK.out _ _ (fun _ => hS) ?_
        clear hK K
        refine wpAnyG_any (i := 1) (v := ?_) rfl (by kernel_rfl) (by kernel_rfl) (by kernel_rfl) (fun _ _ _ h => h) (by kernel_rfl) (fun _ => hS) (by kernel_rfl) ?_ ?_
        rotate_left
        · intro _; go_simp; try with_reducible rfl
        simp only [Act.put, List.setIfInBounds_toArray, List.set_cons_zero, List.set_cons_succ]
        refine wpAnyG_any (i := 2) (v := ?_) rfl (by kernel_rfl) (by kernel_rfl) (by kernel_rfl) (fun _ _ _ h => h) (by kernel_rfl) (fun _ => hS) (by kernel_rfl) ?_ ?_
        rotate_left
        · intro _; go_simp; try with_reducible rfl
        simp only [Act.put, List.setIfInBounds_toArray, List.set_cons_zero, List.set_cons_succ]
        refine wpAnyG_any (i := 3) (v := .bool true) rfl (by kernel_rfl) (by kernel_rfl) (by kernel_rfl) (fun _ _ _ h => h) (by kernel_rfl) (fun _ => hS) (by kernel_rfl) ?_ ?_
        · intro _; go_simp
        simp only [Act.put, List.setIfInBounds_toArray, List.set_cons_zero, List.set_cons_succ]
        refine wpAnyG_any (i := 4) (v := .bool true) rfl (by kernel_rfl) (by kernel_rfl) (by kernel_rfl) (fun _ _ _ h => h) (by kernel_rfl) (fun _ => hS) (by kernel_rfl) ?_ ?_
        · intro _; go_simp
        simp only [Act.put, List.setIfInBounds_toArray, List.set_cons_zero, List.set_cons_succ]
        refine wpAnyG_any (i := 5) (v := .bool true) rfl (by kernel_rfl) (by kernel_rfl) (by kernel_rfl) (fun _ _ _ h => h) (by kernel_rfl) (fun _ => hS) (by kernel_rfl) ?_ ?_
        · intro _; go_simp
        simp only [Act.put, List.setIfInBounds_toArray, List.set_cons_zero, List.set_cons_succ]
        refine wpAnyG_any (i := 6) (v := ?_) rfl (by kernel_rfl) (by kernel_rfl) (by kernel_rfl) (fun _ _ _ h => h) (by kernel_rfl) (fun _ => hS) (by kernel_rfl) ?_ ?_
        rotate_left
        · intro _; go_simp; try with_reducible rfl
        simp only [Act.put, List.setIfInBounds_toArray, List.set_cons_zero, List.set_cons_succ]
        refine wpAnyG_any (i := 8) (v := ?_) rfl (by kernel_rfl) (by kernel_rfl) (by kernel_rfl) (fun _ _ _ h => h) (by kernel_rfl) (fun _ => hS) (by kernel_rfl) ?_ ?_
        rotate_left
        · intro _; go_simp; try with_reducible rfl
        simp only [Act.put, List.setIfInBounds_toArray, List.set_cons_zero, List.set_cons_succ]
        refine wpAnyG_read (i := 7) (v := ?_) rfl (by kernel_rfl) (by kernel_rfl) (by kernel_rfl) (fun _ _ _ h => h) (by kernel_rfl) (by kernel_rfl) (by kernel_rfl) hS (by kernel_rfl) ?_ ?_
        rotate_left
        · intro wx hSw; go_split_ands; go_simp; try with_reducible rfl
        simp only [Act.put, List.setIfInBounds_toArray, List.set_cons_zero, List.set_cons_succ]
        refine wpAnyG_read (i := 9) (v := ?_) rfl (by kernel_rfl) (by kernel_rfl) (by kernel_rfl) (fun _ _ _ h => h) (by kernel_rfl) (by kernel_rfl) (by kernel_rfl) hS (by kernel_rfl) ?_ ?_
        rotate_left
        · intro wx hSw; go_split_ands; go_simp; try with_reducible rfl
        simp only [Act.put, List.setIfInBounds_toArray, List.set_cons_zero, List.set_cons_succ]
        refine wpAnyG_any (i := 10) (v := .bool true) rfl (by kernel_rfl) (by kernel_rfl) (by kernel_rfl) (fun _ _ _ h => h) (by kernel_rfl) (fun _ => hS) (by kernel_rfl) ?_ ?_
        · intro _; go_simp
        simp only [Act.put, List.setIfInBounds_toArray, List.set_cons_zero, List.set_cons_succ]
        refine wpAnyG_any (i := 11) (v := .bool true) rfl (by kernel_rfl) (by kernel_rfl) (by kernel_rfl) (fun _ _ _ h => h) (by kernel_rfl) (fun _ => hS) (by kernel_rfl) ?_ ?_
        · intro _; go_simp
        simp only [Act.put, List.setIfInBounds_toArray, List.set_cons_zero, List.set_cons_succ]
        refine wpAnyG_one (i := 12) rfl (by kernel_rfl) (by kernel_rfl) (fun K hK => ?_)
        go_simp
        refine hK.out _ _ (fun h => absurd (show true = false from h) (by decide)) ?_
        clear hK K
        refine wpAnyG_done (by kernel_rfl) ?_ _
        go_wp2
        go_ret
        exact ⟨rfl, hBw1.trans (hB9.mono hBw1.size)⟩
      · skip
        go_simp
        have hN81 : Holds (U75.alloc (.cells (row .u8 [1]) 5)) U75.heap.size .u8 5 [1] := Holds.new U75 .u8 5 [1]
        have hn81 : Below U75.heap.size U75 (U75.alloc (.cells (row .u8 [1]) 5)) := (Below.refl _ _).alloc (Nat.le_refl _) _
        have hb81 : Below W0.heap.size W0 (U75.alloc (.cells (row .u8 [1]) 5)) := hb75.trans (hn81.mono hb75.size)
        have hge81 := hb75.size
        have hO75n81 := hO75.belowM hn81
        have hN74n75n81 := hN74n75.alloc (.cells (row .u8 [1]) 5)
        refine hK.out _ _ (fun _ => hS) ?_
        clear hK K
        obtain ⟨G81, hGe81⟩ : ∃ q, U75.heap.size = q := ⟨_, rfl⟩
        have hlt181 := hltg75
        obtain ⟨U81, hU81⟩ : ∃ q, U75.alloc (.cells (row .u8 [1]) 5) = q := ⟨_, rfl⟩
        have hc81 : U75.alloc (.cells #[.int .u8 1] 5) = U81 := hU81
        rw [hU81, hGe81] at hN81
        rw [hU81] at hb81 hO75n81 hN74n75n81
        rw [hGe81] at hge81 hlt181
        rw [hc81, hGe81]
        have hne81 : G75 ≠ G81 := by omega
        have hltg81 : G75 < U81.heap.size := by rw [← hU81]; simp; omega
        clear hGe81 hU81 hc81 hn81
        refine wpAnyG_one (i := 3) rfl (by kernel_rfl) (by kernel_rfl) (fun K hK => ?_)
        refine wp_appA _ _ rfl W0.heap.size _ [] rfl hO75n81 y m cb b rfl (hyW.below hb81) (by simp; omega) hb81.size ?_
        intro v82 u82 ho82 hg82
        have hb82 : Below W0.heap.size W0 u82 := below_grown hb81 hO75n81 hg82 hb81.size
        rw [List.nil_append] at ho82
        have h482 := holds_grownA hN81 hg82 hne81
        have h782 := holds_grown hN74n75n81 hO75n81 hg82 (by decide)
        clear hg82
        refine hK.out _ _ (fun _ => hS) ?_
        clear hK K
        refine wpAnyG_one (i := 5) rfl (by kernel_rfl) (by kernel_rfl) (fun K hK => ?_)
        refine wp_appA _ _ rfl W0.heap.size _ b rfl ho82 (some ⟨G81, 0, none⟩) 1 1 [1] rfl (h482.bytes rfl (by simp)) (by rw [HBL.out]; omega) hb82.size ?_
        intro v83 u83 ho83 hg83
        have hb83 : Below W0.heap.size W0 u83 := below_grown hb82 ho82 hg83 hb82.size
        have h783 := holds_grown h782 ho82 hg83 (by decide)
        clear hg83
        refine hK.out _ _ (fun _ => hS) ?_
        clear hK K
        refine wpAnyG_one (i := 6) rfl (by kernel_rfl) (by kernel_rfl) (fun K hK => ?_)
        go_wp2_with (go_at_call 6; refine (hH _ _ _ (hBw.trans (hb83.mono hBw.size)) (hkW.below hb83 hkW.lt) ho83).mono ?_; rintro e u84 ⟨rfl, hx84⟩)
        have hb84 : Below W0.heap.size W0 u84 := hb83.trans (hx84.mono hb83.size)
        have h784 := h783.below hx84 h783.lt
        refine hK.out _ _ (fun _ => hS) ?_
        clear hK K
        refine wpAnyG_one (i := 8) rfl (by kernel_rfl) (by kernel_rfl) (fun K hK => ?_)
        refine wp_st 23 _ _ rfl _ rfl rfl h784 (by rw [hTl]; exact sizeKey) (by simp [hTl]) ?_
        refine hK.out _ _ (fun h => absurd (show true = false from h) (by decide)) ?_
        clear hK K
        refine wpAnyG_done (by kernel_rfl) ?_ _
        refine forget (p := fun y => Exit.then _ _ _ _ y) (fun W => Below W0.heap.size W0 W ∧ Holds W G74 .u8 23 TG) ⟨below_setRow hb84 hge74 _, h784.setRow TG⟩ ?_
        rintro W1 ⟨hb01, hG1⟩
        go_upto_region 4 with fail
        have hBw1 : Below w.heap.size w W1 := hBw.trans (hb01.mono hBw.size)
        have hyA1 := hyA.below hb01
        have cA := fun wx (h : Below W1.heap.size W1 wx) => conv_bytes (hyA1.below h)
        have cB := fun wx (h : Below W1.heap.size W1 wx) => conv_bytes ((hG1.below h hG1.lt).bytes (n := 32) hTl.symm (by omega))
        obtain ⟨SA, hSA⟩ : ∃ s, strOfNums TG = s := ⟨_, rfl⟩
        rw [hSA] at cA cB
        clear hSA hyA1 hG1 hb01 hH
        refine wp_region_gate (fun w' => (convert 24 9 (.slice xa 32 ca)).run Tryd.prog w' = .ok (.string SA) w' ∧ (convert 24 9 (.slice (some ⟨G74, 0, none⟩) 32 32)).run Tryd.prog w' = .ok (.string SA) w') 12 (by kernel_rfl) ?_
        refine wpAnyG_one (i := 0) rfl (by kernel_rfl) (by kernel_rfl) (fun K hK => ?_)
        go_wp2_with (go_at_call 7; refine (hLV _ hBw1.drew).mono ?_; rintro e w9 ⟨rfl, hb9⟩)
        have hB9 : Below W1.heap.size W1 w9 := ((Below.refl _ _).drew).trans hb9
        have hS := And.intro (cA _ hB9) (cB _ hB9)
        refine hK.out _ _ (fun _ => hS) ?_
        clear hK K
        refine wpAnyG_any (i := 1) (v := ?_) rfl (by kernel_rfl) (by kernel_rfl) (by kernel_rfl) (fun _ _ _ h => h) (by kernel_rfl) (fun _ => hS) (by kernel_rfl) ?_ ?_
        rotate_left
        · intro _; go_simp; try with_reducible rfl
        simp only [Act.put, List.setIfInBounds_toArray, List.set_cons_zero, List.set_cons_succ]
        refine wpAnyG_any (i := 2) (v := ?_) rfl (by kernel_rfl) (by kernel_rfl) (by kernel_rfl) (fun _ _ _ h => h) (by kernel_rfl) (fun _ => hS) (by kernel_rfl) ?_ ?_
        rotate_left
        · intro _; go_simp; try with_reducible rfl
        simp only [Act.put, List.setIfInBounds_toArray, List.set_cons_zero, List.set_cons_succ]
        refine wpAnyG_any (i := 3) (v := .bool true) rfl (by kernel_rfl) (by kernel_rfl) (by kernel_rfl) (fun _ _ _ h => h) (by kernel_rfl) (fun _ => hS) (by kernel_rfl) ?_ ?_
        · intro _; go_simp
        simp only [Act.put, List.setIfInBounds_toArray, List.set_cons_zero, List.set_cons_succ]
        refine wpAnyG_any (i := 4) (v := .bool true) rfl (by kernel_rfl) (by kernel_rfl) (by kernel_rfl) (fun _ _ _ h => h) (by kernel_rfl) (fun _ => hS) (by kernel_rfl) ?_ ?_
        · intro _; go_simp
        simp only [Act.put, List.setIfInBounds_toArray, List.set_cons_zero, List.set_cons_succ]
        refine wpAnyG_any (i := 5) (v := .bool true) rfl (by kernel_rfl) (by kernel_rfl) (by kernel_rfl) (fun _ _ _ h => h) (by kernel_rfl) (fun _ => hS) (by kernel_rfl) ?_ ?_
        · intro _; go_simp
        simp only [Act.put, List.setIfInBounds_toArray, List.set_cons_zero, List.set_cons_succ]
        refine wpAnyG_any (i := 6) (v := ?_) rfl (by kernel_rfl) (by kernel_rfl) (by kernel_rfl) (fun _ _ _ h => h) (by kernel_rfl) (fun _ => hS) (by kernel_rfl) ?_ ?_
        rotate_left
        · intro _; go_simp; try with_reducible rfl
        simp only [Act.put, List.setIfInBounds_toArray, List.set_cons_zero, List.set_cons_succ]
        refine wpAnyG_any (i := 8) (v := ?_) rfl (by kernel_rfl) (by kernel_rfl) (by kernel_rfl) (fun _ _ _ h => h) (by kernel_rfl) (fun _ => hS) (by kernel_rfl) ?_ ?_
        rotate_left
        · intro _; go_simp; try with_reducible rfl
        simp only [Act.put, List.setIfInBounds_toArray, List.set_cons_zero, List.set_cons_succ]
        refine wpAnyG_read (i := 7) (v := ?_) rfl (by kernel_rfl) (by kernel_rfl) (by kernel_rfl) (fun _ _ _ h => h) (by kernel_rfl) (by kernel_rfl) (by kernel_rfl) hS (by kernel_rfl) ?_ ?_
        rotate_left
        · intro wx hSw; go_split_ands; go_simp; try with_reducible rfl
        simp only [Act.put, List.setIfInBounds_toArray, List.set_cons_zero, List.set_cons_succ]
        refine wpAnyG_read (i := 9) (v := ?_) rfl (by kernel_rfl) (by kernel_rfl) (by kernel_rfl) (fun _ _ _ h => h) (by kernel_rfl) (by kernel_rfl) (by kernel_rfl) hS (by kernel_rfl) ?_ ?_
        rotate_left
        · intro wx hSw; go_split_ands; go_simp; try with_reducible rfl
        simp only [Act.put, List.setIfInBounds_toArray, List.set_cons_zero, List.set_cons_succ]
        refine wpAnyG_any (i := 10) (v := .bool true) rfl (by kernel_rfl) (by kernel_rfl) (by kernel_rfl) (fun _ _ _ h => h) (by kernel_rfl) (fun _ => hS) (by kernel_rfl) ?_ ?_
        · intro _; go_simp
        simp only [Act.put, List.setIfInBounds_toArray, List.set_cons_zero, List.set_cons_succ]
        refine wpAnyG_any (i := 11) (v := .bool true) rfl (by kernel_rfl) (by kernel_rfl) (by kernel_rfl) (fun _ _ _ h => h) (by kernel_rfl) (fun _ => hS) (by kernel_rfl) ?_ ?_
        · intro _; go_simp
        simp only [Act.put, List.setIfInBounds_toArray, List.set_cons_zero, List.set_cons_succ]
        refine wpAnyG_one (i := 12) rfl (by kernel_rfl) (by kernel_rfl) (fun K hK => ?_)
        go_simp
        refine hK.out _ _ (fun h => absurd (show true = false from h) (by decide)) ?_
        clear hK K
        refine wpAnyG_done (by kernel_rfl) ?_ _
        go_wp2
        go_ret
        exact ⟨rfl, hBw1.trans (hB9.mono hBw1.size)⟩
    · skip
      go_simp
      have hN86 : Holds (U74.alloc (.cells (row .u8 [1]) 5)) U74.heap.size .u8 5 [1] := Holds.new U74 .u8 5 [1]
      have hn86 : Below U74.heap.size U74 (U74.alloc (.cells (row .u8 [1]) 5)) := (Below.refl _ _).alloc (Nat.le_refl _) _
      have hb86 : Below W0.heap.size W0 (U74.alloc (.cells (row .u8 [1]) 5)) := hb74.trans (hn86.mono hb74.size)
      have hge86 := hb74.size
      have hN74n86 := hN74.alloc (.cells (row .u8 [1]) 5)
      refine hK.out _ _ (fun _ => hS) ?_
      clear hK K
      obtain ⟨G86, hGe86⟩ : ∃ q, U74.heap.size = q := ⟨_, rfl⟩
      obtain ⟨U86, hU86⟩ : ∃ q, U74.alloc (.cells (row .u8 [1]) 5) = q := ⟨_, rfl⟩
      have hc86 : U74.alloc (.cells #[.int .u8 1] 5) = U86 := hU86
      rw [hU86, hGe86] at hN86
      rw [hU86] at hb86 hN74n86
      rw [hGe86] at hge86
      rw [hc86, hGe86]
      clear hGe86 hU86 hc86 hn86
      refine wpAnyG_one (i := 1) rfl (by kernel_rfl) (by kernel_rfl) (fun K hK => ?_)
      go_simp
      have hN87 : Holds (U86.alloc (.cells (row .u8 []) 5)) U86.heap.size .u8 5 [] := Holds.new U86 .u8 5 []
      have hn87 : Below U86.heap.size U86 (U86.alloc (.cells (row .u8 []) 5)) := (Below.refl _ _).alloc (Nat.le_refl _) _
      have hb87 : Below W0.heap.size W0 (U86.alloc (.cells (row .u8 []) 5)) := hb86.trans (hn87.mono hb86.size)
      have hge87 := hb86.size
      have hN86n87 := hN86.alloc (.cells (row .u8 []) 5)
      have hN74n86n87 := hN74n86.alloc (.cells (row .u8 []) 5)
      refine hK.out _ _ (fun _ => hS) ?_
      clear hK K
      obtain ⟨G87, hGe87⟩ : ∃ q, U86.heap.size = q := ⟨_, rfl⟩
      have hlt487 := hN86.lt
      obtain ⟨U87, hU87⟩ : ∃ q, U86.alloc (.cells (row .u8 []) 5) = q := ⟨_, rfl⟩
      have hc87 : U86.alloc (.cells #[] 5) = U87 := hU87
      rw [hU87, hGe87] at hN87
      rw [hU87] at hb87 hN86n87 hN74n86n87
      rw [hGe87] at hge87 hlt487
      rw [hc87, hGe87]
      have hO87 : OwnB U87 W0.heap.size (.slice (some ⟨G87, 0, none⟩) 0 0) [] := by rw [← hU87, ← hGe87]; exact OwnB.empty U86 W0.heap.size hb86.size
      have hltg87 : G87 < U87.heap.size := hN87.lt
      have hne87 : G87 ≠ G86 := by omega
      clear hGe87 hU87 hc87 hn87
      refine wpAnyG_one (i := 3) rfl (by kernel_rfl) (by kernel_rfl) (fun K hK => ?_)
      refine wp_appA _ _ rfl W0.heap.size _ [] rfl hO87 y m cb b rfl (hyW.below hb87) (by simp; omega) hb87.size ?_
      intro v88 u88 ho88 hg88
      have hb88 : Below W0.heap.size W0 u88 := below_grown hb87 hO87 hg88 hb87.size
      rw [List.nil_append] at ho88
      have h488 := holds_grownA hN86n87 hg88 hne87
      have h788 := holds_grown hN74n86n87 hO87 hg88 (by decide)
      clear hg88
      refine hK.out _ _ (fun _ => hS) ?_
      clear hK K
      refine wpAnyG_one (i := 5) rfl (by kernel_rfl) (by kernel_rfl) (fun K hK => ?_)
      refine wp_appA _ _ rfl W0.heap.size _ b rfl ho88 (some ⟨G86, 0, none⟩) 1 1 [1] rfl (h488.bytes rfl (by simp)) (by rw [HBL.out]; omega) hb88.size ?_
      intro v89 u89 ho89 hg89
      have hb89 : Below W0.heap.size W0 u89 := below_grown hb88 ho88 hg89 hb88.size
      have h789 := holds_grown h788 ho88 hg89 (by decide)
      clear hg89
      refine hK.out _ _ (fun _ => hS) ?_
      clear hK K
      refine wpAnyG_one (i := 6) rfl (by kernel_rfl) (by kernel_rfl) (fun K hK => ?_)
      go_wp2_with (go_at_call 6; refine (hH _ _ _ (hBw.trans (hb89.mono hBw.size)) (hkW.below hb89 hkW.lt) ho89).mono ?_; rintro e u90 ⟨rfl, hx90⟩)
      have hb90 : Below W0.heap.size W0 u90 := hb89.trans (hx90.mono hb89.size)
      have h790 := h789.below hx90 h789.lt
      refine hK.out _ _ (fun _ => hS) ?_
      clear hK K
      refine wpAnyG_one (i := 8) rfl (by kernel_rfl) (by kernel_rfl) (fun K hK => ?_)
      refine wp_st 23 _ _ rfl _ rfl rfl h790 (by rw [hTl]; exact sizeKey) (by simp [hTl]) ?_
      refine hK.out _ _ (fun h => absurd (show true = false from h) (by decide)) ?_
      clear hK K
      refine wpAnyG_done (by kernel_rfl) ?_ _
      refine forget (p := fun y => Exit.then _ _ _ _ y) (fun W => Below W0.heap.size W0 W ∧ Holds W G74 .u8 23 TG) ⟨below_setRow hb90 hge74 _, h790.setRow TG⟩ ?_
      rintro W1 ⟨hb01, hG1⟩
      go_upto_region 4 with fail
      have hBw1 : Below w.heap.size w W1 := hBw.trans (hb01.mono hBw.size)
      have hyA1 := hyA.below hb01
      have cA := fun wx (h : Below W1.heap.size W1 wx) => conv_bytes (hyA1.below h)
      have cB := fun wx (h : Below W1.heap.size W1 wx) => conv_bytes ((hG1.below h hG1.lt).bytes (n := 32) hTl.symm (by omega))
      obtain ⟨SA, hSA⟩ : ∃ s, strOfNums TG = s := ⟨_, rfl⟩
      rw [hSA] at cA cB
      clear hSA hyA1 hG1 hb01 hH
      refine wp_region_gate (fun w' => (convert 24 9 (.slice xa 32 ca)).run Tryd.prog w' = .ok (.string SA) w' ∧ (convert 24 9 (.slice (some ⟨G74, 0, none⟩) 32 32)).run Tryd.prog w' = .ok (.string SA) w') 12 (by kernel_rfl) ?_
      refine wpAnyG_one (i := 0) rfl (by kernel_rfl) (by kernel_rfl) (fun K hK => ?_)
      go_wp2_with (go_at_call 7; refine (hLV _ hBw1.drew).mono ?_; rintro e w9 ⟨rfl, hb9⟩)
      have hB9 : Below W1.heap.size W1 w9 := ((Below.refl _ _).drew).trans hb9
      have hS := And.intro (cA _ hB9) (cB _ hB9)
      refine hK.out _ _ (fun _ => hS) ?_
      clear hK K
      refine wpAnyG_any (i := 1) (v := ?_) rfl (by kernel_rfl) (by kernel_rfl) (by kernel_rfl) (fun _ _ _ h => h) (by kernel_rfl) (fun _ => hS) (by kernel_rfl) ?_ ?_
      rotate_left
      · intro _; go_simp; try with_reducible rfl
      simp only [Act.put, List.setIfInBounds_toArray, List.set_cons_zero, List.set_cons_succ]
      refine wpAnyG_any (i := 2) (v := ?_) rfl (by kernel_rfl) (by kernel_rfl) (by kernel_rfl) (fun _ _ _ h => h) (by kernel_rfl) (fun _ => hS) (by kernel_rfl) ?_ ?_
      rotate_left
      · intro _; go_simp; try with_reducible rfl
      simp only [Act.put, List.setIfInBounds_toArray, List.set_cons_zero, List.set_cons_succ]
      refine wpAnyG_any (i := 3) (v := .bool true) rfl (by kernel_rfl) (by kernel_rfl) (by kernel_rfl) (fun _ _ _ h => h) (by kernel_rfl) (fun _ => hS) (by kernel_rfl) ?_ ?_
      · intro _; go_simp
      simp only [Act.put, List.setIfInBounds_toArray, List.set_cons_zero, List.set_cons_succ]
      refine wpAnyG_any (i := 4) (v := .bool true) rfl (by kernel_rfl) (by kernel_rfl) (by kernel_rfl) (fun _ _ _ h => h) (by kernel_rfl) (fun _ => hS) (by kernel_rfl) ?_ ?_
      · intro _; go_simp
      simp only [Act.put, List.setIfInBounds_toArray, List.set_cons_zero, List.set_cons_succ]
      refine wpAnyG_any (i := 5) (v := .bool true) rfl (by kernel_rfl) (by kernel_rfl) (by kernel_rfl) (fun _ _ _ h => h) (by kernel_rfl) (fun _ => hS) (by kernel_rfl) ?_ ?_
      · intro _; go_simp
      simp only [Act.put, List.setIfInBounds_toArray, List.set_cons_zero, List.set_cons_succ]
      refine wpAnyG_any (i := 6) (v := ?_) rfl (by kernel_rfl) (by kernel_rfl) (by kernel_rfl) (fun _ _ _ h => h) (by kernel_rfl) (fun _ => hS) (by kernel_rfl) ?_ ?_
      rotate_left
      · intro _; go_simp; try with_reducible rfl
      simp only [Act.put, List.setIfInBounds_toArray, List.set_cons_zero, List.set_cons_succ]
      refine wpAnyG_any (i := 8) (v := ?_) rfl (by kernel_rfl) (by kernel_rfl) (by kernel_rfl) (fun _ _ _ h => h) (by kernel_rfl) (fun _ => hS) (by kernel_rfl) ?_ ?_
      rotate_left
      · intro _; go_simp; try with_reducible rfl
      simp only [Act.put, List.setIfInBounds_toArray, List.set_cons_zero, List.set_cons_succ]
      refine wpAnyG_read (i := 7) (v := ?_) rfl (by kernel_rfl) (by kernel_rfl) (by kernel_rfl) (fun _ _ _ h => h) (by kernel_rfl) (by kernel_rfl) (by kernel_rfl) hS (by kernel_rfl) ?_ ?_
      rotate_left
      · intro wx hSw; go_split_ands; go_simp; try with_reducible rfl
      simp only [Act.put, List.setIfInBounds_toArray, List.set_cons_zero, List.set_cons_succ]
      refine wpAnyG_read (i := 9) (v := ?_) rfl (by kernel_rfl) (by kernel_rfl) (by kernel_rfl) (fun _ _ _ h => h) (by kernel_rfl) (by kernel_rfl) (by kernel_rfl) hS (by kernel_rfl) ?_ ?_
      rotate_left
      · intro wx hSw; go_split_ands; go_simp; try with_reducible rfl
      simp only [Act.put, List.setIfInBounds_toArray, List.set_cons_zero, List.set_cons_succ]
      refine wpAnyG_any (i := 10) (v := .bool true) rfl (by kernel_rfl) (by kernel_rfl) (by kernel_rfl) (fun _ _ _ h => h) (by kernel_rfl) (fun _ => hS) (by kernel_rfl) ?_ ?_
      · intro _; go_simp
      simp only [Act.put, List.setIfInBounds_toArray, List.set_cons_zero, List.set_cons_succ]
      refine wpAnyG_any (i := 11) (v := .bool true) rfl (by kernel_rfl) (by kernel_rfl) (by kernel_rfl) (fun _ _ _ h => h) (by kernel_rfl) (fun _ => hS) (by kernel_rfl) ?_ ?_
      · intro _; go_simp
      simp only [Act.put, List.setIfInBounds_toArray, List.set_cons_zero, List.set_cons_succ]
      refine wpAnyG_one (i := 12) rfl (by kernel_rfl) (by kernel_rfl) (fun K hK => ?_)
      go_simp
      refine hK.out _ _ (fun h => absurd (show true = false from h) (by decide)) ?_
      clear hK K
      refine wpAnyG_done (by kernel_rfl) ?_ _
      go_wp2
      go_ret
      exact ⟨rfl, hBw1.trans (hB9.mono hBw1.size)⟩
end Go.Proofs.YtoebbfifebpnbaaDoor
