/- The statement MacLong, walked. -/
import Derived.Test.YteolgonoodfniaaDoorLive2
import Derived.Test.YteolgonoodfniaaDoorFewL2
import Derived.Test.YteolgonoodfniaaDoorEq
namespace Go.Proofs.YteolgonoodfniaaDoor
open Go.RowKit
set_option maxRecDepth 20000
set_option linter.unusedSimpArgs false

theorem fill_long (z : List Int) (h : 64 < z.length) : fillL (sumL z) = fillL z := by
  unfold fillL
  rw [if_pos h, if_neg (by rw [sumL_length]; omega)]
theorem tag_long (z b : List Int) (h : 64 < z.length) : tagL (sumL z) b = tagL z b := by
  have e : fillL (sumL z) = fillL z := by
    unfold fillL
    rw [if_pos h, if_neg (by rw [sumL_length]; omega)]
  unfold tagL
  rw [e]
theorem tag_more (z b : List Int) (m : Nat) (h : z.length + m ≤ 64) : tagL (z ++ List.replicate m 0) b = tagL z b := by
  have e : fillL (z ++ List.replicate m 0) = fillL z := by
    unfold fillL
    rw [if_neg (by simp; omega), if_neg (by omega), List.append_assoc, List.replicate_append_replicate]
    congr 2
    simp
    omega
  unfold tagL
  rw [e]

set_option maxHeartbeats 4000000 in
theorem long_walk (x : Option Addr) (len cap : Nat) (z0 : List Int) (y : Option Addr) (lb cb : Nat) (b0 : List Int) (n : Int) (w : World) (hn0 : 0 ≤ n) (hn1 : n ≤ 255) (hKT : KTab w) (hx : Bytes w x len cap z0) (hy : Bytes w y lb cb b0) :
    Calls Tryd.prog 6 #[.slice x len cap, .slice y lb cb, .int .u8 n] w fun e w' => e = .returned (.bool true) ∧ Below w.heap.size w w' := by
  have hf1 : Calls Tryd.prog 9 #[.slice x len cap, .int .i64 200] w (fun e w' => e = .returned (.slice x (min len 200) cap) ∧ w = w') := few2_any x len cap 200 z0 w hx (by omega) (by omega)
  have hf2 : Calls Tryd.prog 9 #[.slice y lb cb, .int .i64 200] w (fun e w' => e = .returned (.slice y (min lb 200) cb) ∧ w = w') := few2_any y lb cb 200 b0 w hy (by omega) (by omega)
  have hx6 := hx.fewM 200
  have hy6 := hy.fewM 200
  obtain ⟨m, hm⟩ : ∃ q, min len 200 = q := ⟨_, rfl⟩
  obtain ⟨z, hz⟩ : ∃ q, z0.take 200 = q := ⟨_, rfl⟩
  obtain ⟨k, hk⟩ : ∃ q, min lb 200 = q := ⟨_, rfl⟩
  obtain ⟨b, hb⟩ : ∃ q, b0.take 200 = q := ⟨_, rfl⟩
  have hm6 : m ≤ 200 := by omega
  have hk3 : k ≤ 200 := by omega
  rw [hm] at hf1 hx6
  rw [hk] at hf2 hy6
  rw [hz] at hx6
  rw [hb] at hy6
  clear hm hz hk hb hx hy
  have hzl := hx6.len_eq
  have hTl := tagL_length z b
  have hH : ∀ (x' : Option Addr) (m' c' : Nat) (z' : List Int) (wx : World), Below w.heap.size w wx → Bytes wx x' m' c' z' → m' ≤ 1000 → tagL z' b = tagL z b → Calls Tryd.prog 11 #[.slice x' m' c', .slice y k cb] wx fun e w' => e = .returned (.agg (row .u8 (tagL z b))) ∧ Below wx.heap.size wx w' := fun x' m' c' z' wx h1 h2 h3 h4 => by
    have := hmac_any x' m' c' z' y k cb b wx h2 (by omega) (hy6.below h1) (by omega) (hKT.below h1)
    rw [h4] at this
    exact this
  have hH1 := fun wx (h : Below w.heap.size w wx) => hH x m cap z wx h (hx6.below h) (by omega) rfl
  have hgd := guardKey
  by_cases h64 : 64 < m
  · have hl := tag_long z b (by omega)
    have hH2 : ∀ (g : Nat) (wx : World), Below w.heap.size w wx → Holds wx g .u8 26 (sumL z) → Calls Tryd.prog 11 #[.slice (some ⟨g, 0, none⟩) 32 32, .slice y k cb] wx fun e w' => e = .returned (.agg (row .u8 (tagL z b))) ∧ Below wx.heap.size wx w' := fun g wx h1 h2 =>
      hH _ 32 32 (sumL z) wx h1 (h2.bytes (sumL_length z).symm (by rw [sumL_length]; omega)) (by omega) hl
    have hs := sum_any x m cap z w hx6 (by omega) hKT
    have hdl := sumL_length z
    obtain ⟨D, hD⟩ : ∃ q, sumL z = q := ⟨_, rfl⟩
    obtain ⟨TG, hTG⟩ : ∃ q, tagL z b = q := ⟨_, rfl⟩
    rw [hD] at hs hdl hH2
    rw [hTG] at hTl hH1 hH2
    have hE := fun wx => eqKey TG TG hTl hTl wx
    rw [beq_self_eq_true] at hE
    have h64i : (64 : Int) < (m : Int) := by omega
    clear hH hl hD hTG hzl hx6 hy6
    go_enter Tryd.func6, Tryd.ntmps6
    go_upto_region 4 with (first
      | (go_at_call 9; with_reducible refine hf1.mono ?_; rintro e w' ⟨rfl, rfl⟩)
      | (go_at_call 9; with_reducible refine hf2.mono ?_; rintro e w' ⟨rfl, rfl⟩)
      | (go_at_call 17; refine hs.mono ?_; rintro e w1 ⟨rfl, hb1⟩; have hN1 := Holds.new w1 .u8 26 (List.replicate 32 0))
      | (refine wpList_st rfl 26 _ _ rfl _ rfl rfl hN1 (by rw [hdl]; exact sizeKey) (by simp [hdl]) ?_))
    refine forget (p := fun y => Code.wp _ _ _ _ y) (fun W2 => Below w.heap.size w W2 ∧ Holds W2 w1.heap.size .u8 26 D) ⟨below_setRow (hb1.alloc hb1.size _) hb1.size _, hN1.setRow _⟩ ?_
    clear hN1 hb1 hs hf1 hf2
    rintro W2 ⟨hB2, hD2⟩
    obtain ⟨db, hdb⟩ : ∃ q, w1.heap.size = q := ⟨_, rfl⟩
    rw [hdb] at hD2 ⊢
    clear hdb
    simp only [Act.put]
    refine wp_region_gate (fun _ => True) 10 (by kernel_rfl) ?_
    have hS : True := trivial
    refine wpAnyG_one (i := 0) rfl (by kernel_rfl) (by kernel_rfl) (fun K hK => ?_)
    have hB3 : Below w.heap.size w W2.drew := hB2.drew
    go_wp2_with (go_at_call 10; refine (live2_any _ (hKT.below hB3)).mono ?_; rintro e w3 ⟨rfl, hb3⟩)
    have hB4 : Below w.heap.size w w3 := hB3.trans (hb3.mono hB3.size)
    have hD3 := (hD2.drew).below hb3 hD2.drew.lt
    refine hK.out _ _ (fun _ => hS) ?_
    clear hK K
    refine wpAnyG_any (i := 1) (v := ?_) rfl (by kernel_rfl) (by kernel_rfl) (by kernel_rfl) (fun _ _ _ h => h) (by kernel_rfl) (fun _ => hS) (by kernel_rfl) ?_ ?_
    rotate_left
    · intro _; go_simp; try with_reducible rfl
    simp only [Act.put, List.setIfInBounds_toArray, List.set_cons_zero, List.set_cons_succ]
    refine wpAnyG_any (i := 2) (v := ?_) rfl (by kernel_rfl) (by kernel_rfl) (by kernel_rfl) (fun _ _ _ h => h) (by kernel_rfl) (fun _ => hS) (by kernel_rfl) ?_ ?_
    rotate_left
    · intro _; go_simp; try with_reducible rfl
    simp only [Act.put, List.setIfInBounds_toArray, List.set_cons_zero, List.set_cons_succ]
    refine wpAnyG_any (i := 3) (v := ?_) rfl (by kernel_rfl) (by kernel_rfl) (by kernel_rfl) (fun _ _ _ h => h) (by kernel_rfl) (fun _ => hS) (by kernel_rfl) ?_ ?_
    rotate_left
    · intro _; go_simp; try with_reducible rfl
    simp only [Act.put, List.setIfInBounds_toArray, List.set_cons_zero, List.set_cons_succ]
    refine wpAnyG_any (i := 5) (v := .slice (some ⟨db, 0, none⟩) 32 32) rfl (by kernel_rfl) (by kernel_rfl) (by kernel_rfl) (fun _ _ _ h => h) (by kernel_rfl) (fun _ => hS) (by kernel_rfl) ?_ ?_
    · intro _; go_simp
    simp only [Act.put, List.setIfInBounds_toArray, List.set_cons_zero, List.set_cons_succ]
    refine wpAnyG_any (i := 6) (v := ?_) rfl (by kernel_rfl) (by kernel_rfl) (by kernel_rfl) (fun _ _ _ h => h) (by kernel_rfl) (fun _ => hS) (by kernel_rfl) ?_ ?_
    rotate_left
    · intro _; go_simp; try with_reducible rfl
    simp only [Act.put, List.setIfInBounds_toArray, List.set_cons_zero, List.set_cons_succ]
    refine wpAnyG_one (i := 4) rfl (by kernel_rfl) (by kernel_rfl) (fun K hK => ?_)
    go_wp2_with (go_at_call 11; refine (hH1 _ hB4).mono ?_; rintro e w4 ⟨rfl, hb4⟩)
    have hB5 : Below w.heap.size w w4 := hB4.trans (hb4.mono hB4.size)
    have hD4 := hD3.below hb4 hD3.lt
    refine hK.out _ _ (fun _ => hS) ?_
    clear hK K
    refine wpAnyG_one (i := 7) rfl (by kernel_rfl) (by kernel_rfl) (fun K hK => ?_)
    go_wp2_with (go_at_call 11; refine (hH2 _ _ hB5 hD4).mono ?_; rintro e w5 ⟨rfl, hb5⟩)
    have hB6 : Below w.heap.size w w5 := hB5.trans (hb5.mono hB5.size)
    refine hK.out _ _ (fun _ => hS) ?_
    clear hK K
    refine wpAnyG_any (i := 8) (v := .bool true) rfl (by kernel_rfl) (by kernel_rfl) (by kernel_rfl) (fun _ _ _ h => h) (by kernel_rfl) (fun _ => hS) (by kernel_rfl) ?_ ?_
    · intro _; go_simp
    simp only [Act.put, List.setIfInBounds_toArray, List.set_cons_zero, List.set_cons_succ]
    refine wpAnyG_any (i := 9) (v := .bool true) rfl (by kernel_rfl) (by kernel_rfl) (by kernel_rfl) (fun _ _ _ h => h) (by kernel_rfl) (fun _ => hS) (by kernel_rfl) ?_ ?_
    · intro _; go_simp
    simp only [Act.put, List.setIfInBounds_toArray, List.set_cons_zero, List.set_cons_succ]
    refine wpAnyG_one (i := 10) rfl (by kernel_rfl) (by kernel_rfl) (fun K hK => ?_)
    go_simp
    refine hK.out _ _ (fun h => absurd (show true = false from h) (by decide)) ?_
    clear hK K
    refine wpAnyG_done (by kernel_rfl) ?_ _
    go_wp2
    go_ret
    exact ⟨rfl, hB6⟩
  · have hH2 : ∀ (x' : Option Addr) (m' c' j : Nat) (wx : World), Below w.heap.size w wx → Bytes wx x' m' c' (z ++ List.replicate j 0) → z.length + j ≤ 64 → Calls Tryd.prog 11 #[.slice x' m' c', .slice y k cb] wx fun e w' => e = .returned (.agg (row .u8 (tagL z b))) ∧ Below wx.heap.size wx w' := fun x' m' c' j wx h1 h2 h3 =>
      hH x' m' c' _ wx h1 h2 (by rw [h2.len_eq, List.length_append, List.length_replicate]; omega) (tag_more z b j h3)
    obtain ⟨TG, hTG⟩ : ∃ q, tagL z b = q := ⟨_, rfl⟩
    rw [hTG] at hTl hH1 hH2
    have hE := fun wx => eqKey TG TG hTl hTl wx
    rw [beq_self_eq_true] at hE
    have h64i : ¬ ((64 : Int) < (m : Int)) := by omega
    have HZ : VeilM (m = z.length) := ⟨hzl⟩
    have hz64 : z.length ≤ 64 := by omega
    have hb0 : Below w.heap.size w (w.alloc (.cells #[] 5)) := (Below.refl _ _).alloc (Nat.le_refl _) _
    have hxA := hx6.below hb0
    have hoA := OwnB.empty w w.heap.size (Nat.le_refl _)
    clear hH hTG hzl
    go_enter Tryd.func6, Tryd.ntmps6
    go_upto_region 6 with (first
      | (go_at_call 9; with_reducible refine hf1.mono ?_; rintro e w' ⟨rfl, rfl⟩)
      | (go_at_call 9; with_reducible refine hf2.mono ?_; rintro e w' ⟨rfl, rfl⟩)
      | (at_builtin; refine wpList_app rfl _ _ rfl w.heap.size _ [] rfl hoA x m cap z rfl hxA (by simp; omega) (by simp) ?_; intro v1 w1 ho1 hg1; rw [List.nil_append] at ho1; have hB1 : Below w.heap.size w w1 := below_grown hb0 hoA hg1 (by simp)))
    clear hf1 hf2 hxA hoA hb0 hg1
    go_wp2_with fail
    go_loopw [8, 9] (fun v i wr => ∃ j : Nat, (z.length + j ≤ 64) ∧ i = .int .i64 j ∧ OwnB wr w.heap.size v (z ++ List.replicate j 0) ∧ Below w.heap.size w wr) (fun _ i _ => 64 - (intOf i).toNat)
    case atStart => exact ⟨0, by omega, rfl, by simpa using ho1, hB1⟩
    case round =>
      clear ho1 hB1
      obtain ⟨j, hj, rfl, ho, hB⟩ := hrel
      obtain ⟨xv, nv, cv, rfl, hnv⟩ := ho.isSlice
      rw [List.length_append, List.length_replicate] at hnv
      by_cases hc : (j : Int) < n ∧ z.length + j < 64
      · obtain ⟨hc1, hc2⟩ := hc
        have hc3 : (nv : Int) < 64 := by omega
        have hn64 : (z ++ List.replicate j 0).length ≤ 64 := by rw [List.length_append, List.length_replicate]; omega
        have HR : VeilM (z ++ List.replicate (j + 1) 0 = (z ++ List.replicate j 0) ++ [0]) := ⟨by rw [List.replicate_succ', List.append_assoc]⟩
        have HN : VeilM (nv = z.length + j) := ⟨hnv⟩
        clear hnv
        have hsz := hB.size
        go_wp2_with (at_builtin; refine wpList_app1 rfl _ _ rfl w.heap.size _ _ rfl 0 (ho.alloc _) rfl (by omega) hB.size ?_; intro v3 w3 ho3 hg3; have hB3 : Below w.heap.size w w3 := below_grown (hB.alloc hB.size _) (ho.alloc _) hg3 (by simp; omega))
        go_roundw
        case rel => exact ⟨j + 1, by omega, by go_num, by rw [HR.out]; exact ho3, hB3⟩
        case measure => simp [intOf]; omega
      · have hfin : ∀ wx, Below wr.heap.size wr wx → Calls Tryd.prog 11 #[.slice xv nv cv, .slice y k cb] wx fun e w' => e = .returned (.agg (row .u8 TG)) ∧ Below wx.heap.size wx w' := fun wx hb => hH2 xv nv cv j wx (hB.trans (hb.mono hB.size)) ((ho.bytes.2).below hb) hj
        have hdec : ¬ ((j : Int) < n) ∨ ((j : Int) < n ∧ ¬ ((nv : Int) < 64)) := by
          by_cases h1 : (j : Int) < n
          · exact .inr ⟨h1, fun h2 => hc ⟨h1, by omega⟩⟩
          · exact .inl h1
        clear hc hH2 hnv ho
        rcases hdec with h1 | ⟨h1, h2⟩
        all_goals
          go_wp2_with (first
            | (go_at_call 10; refine (live2_any _ (hKT.below hB)).mono ?_; rintro e w4 ⟨rfl, hb4⟩; have hB4 : Below w.heap.size w w4 := hB.trans (hb4.mono hB.size))
            | (go_at_call 11; with_reducible refine (hH1 _ hB4).mono ?_; rintro e w5 ⟨rfl, hb5⟩; have hb45 : Below wr.heap.size wr w5 := hb4.trans (hb5.mono hb4.size))
            | (go_at_call 11; with_reducible refine (hfin _ hb45).mono ?_; rintro e w6 ⟨rfl, hb6⟩))
          go_ret
          exact ⟨rfl, (hB.trans (hb45.mono hB.size)).trans (hb6.mono (Nat.le_trans hB.size hb45.size))⟩
end Go.Proofs.YteolgonoodfniaaDoor
