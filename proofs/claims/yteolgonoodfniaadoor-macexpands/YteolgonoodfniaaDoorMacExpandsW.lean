/- The statement MacExpands, walked. -/
import Derived.Test.YteolgonoodfniaaDoorLive2
import Derived.Test.YteolgonoodfniaaDoorRefExp
import Derived.Test.YteolgonoodfniaaDoorStrB
import Derived.Test.YteolgonoodfniaaDoorEq
namespace Go.Proofs.YteolgonoodfniaaDoor
open Go.RowKit
set_option maxRecDepth 20000
set_option linter.unusedSimpArgs false

set_option maxHeartbeats 4000000 in
theorem expands_walk (k : List Int) (y : Option Addr) (lb cb : Nat) (b0 : List Int) (n : Int) (w : World) (hk : k.length = 32) (hKT : KTab w) (hy : Bytes w y lb cb b0) :
    Calls Tryd.prog 4 #[.agg (row .u8 k), .slice y lb cb, .int .i64 n] w fun e w' => e = .returned (.bool true) ∧ Below w.heap.size w w' := by
  have hy6 := hy.fewM 100
  obtain ⟨m, hm⟩ : ∃ q, min lb 100 = q := ⟨_, rfl⟩
  obtain ⟨b, hb⟩ : ∃ q, b0.take 100 = q := ⟨_, rfl⟩
  have hm6 : m ≤ 100 := by omega
  have hf1 : ∀ wx, Below w.heap.size w wx → Calls Tryd.prog 9 #[.slice y lb cb, .int .i64 100] wx (fun e w' => e = .returned (.slice y m cb) ∧ wx = w') := fun wx hb' => by
    rw [← hm]; exact few2_any y lb cb 100 b0 wx (hy.below hb') (by omega) (by omega)
  rw [hm, hb] at hy6
  clear hm hb hy
  -- what both answer, at the number that is asked
  have hA : ∀ (q : Int), (q ≤ 300 ∨ 8160 < q) → ∃ (Z : List Int) (er : Int), (∀ wx, Below w.heap.size w wx → Calls Tryd.prog 13 #[.agg (row .u8 k), .slice y m cb, .int .i64 q] wx fun e w' => ∃ xa na ca, e = .returned (.tuple #[.slice xa na ca, .int .i64 er]) ∧ Bytes w' xa na ca Z ∧ Below wx.heap.size wx w') ∧
      (∀ wx, Below w.heap.size w wx → Calls Tryd.prog 14 #[.agg (row .u8 k), .slice y m cb, .int .i64 q] wx fun e w' => ∃ xa na ca, e = .returned (.tuple #[.slice xa na ca, .int .i64 er]) ∧ Bytes w' xa na ca Z ∧ Below wx.heap.size wx w') := fun q hq => by
    by_cases h : q < 0 ∨ 8160 < q
    · refine ⟨[], 2, fun wx hb' => (expand_no k y m cb q wx h).mono fun e w' ⟨he, hbb⟩ => ⟨none, 0, 0, he, bytes_nil _, hbb⟩, fun wx hb' => (refExpand_no k y m cb q wx h).mono fun e w' ⟨he, hbb⟩ => ⟨none, 0, 0, he, bytes_nil _, hbb⟩⟩
    · obtain ⟨q', rfl⟩ := Int.eq_ofNat_of_zero_le (show 0 ≤ q by omega)
      refine ⟨expL k b q', 0, fun wx hb' => (expand_any k y m cb b q' wx hk (hy6.below hb') (by omega) (by omega) (hKT.below hb')).mono fun e w' ⟨v, he, ho, hbb⟩ => ?_, fun wx hb' => (refExpand_any k y m cb b q' wx hk (hy6.below hb') (by omega) (by omega)).mono fun e w' ⟨xx, cc, he, ho, hbb⟩ => ⟨xx, q', cc, he, ho, hbb⟩⟩
      obtain ⟨x, n', c, hv, hn'⟩ := ho.isSlice
      subst hv
      exact ⟨x, n', c, he, ho.bytes.2, hbb⟩
  have hTl := tagL_length b k
  have hH : ∀ (g : Nat) (wx : World), Below w.heap.size w wx → Holds wx g .u8 26 k → Calls Tryd.prog 15 #[.slice y m cb, .slice (some ⟨g, 0, none⟩) 32 32] wx fun e w' => e = .returned (.agg (row .u8 (tagL b k))) ∧ Below wx.heap.size wx w' := fun g wx h1 h2 =>
    extract_any y m cb b _ 32 32 k wx (hy6.below h1) (by omega) (h2.bytes hk.symm (by omega)) (by omega) (hKT.below h1)
  have hR : ∀ (g : Nat) (wx : World), Below w.heap.size w wx → Holds wx g .u8 26 k → Calls Tryd.prog 16 #[.slice y m cb, .slice (some ⟨g, 0, none⟩) 32 32] wx fun e w' => e = .returned (.agg (row .u8 (tagL b k))) ∧ Below wx.heap.size wx w' := fun g wx h1 h2 =>
    refExtract_any y m cb b _ 32 32 k wx (hy6.below h1) (by omega) (h2.bytes hk.symm (by omega)) (by omega)
  obtain ⟨TG, hTG⟩ : ∃ q, tagL b k = q := ⟨_, rfl⟩
  rw [hTG] at hTl hH hR
  have hE := fun wx => eqKey TG TG hTl hTl wx
  rw [beq_self_eq_true] at hE
  have hgd := guardKey
  clear hTG
  have hN := Holds.new w .u8 26 k
  have hcase : (((300 : Int) < n ∧ n ≤ 8160) ∧ ∃ q : Int, VeilM ((300 : Int) = q) ∧ (q ≤ 300 ∨ 8160 < q)) ∨ (((300 : Int) < n ∧ ¬ n ≤ 8160) ∧ ∃ q : Int, VeilM (n = q) ∧ (q ≤ 300 ∨ 8160 < q)) ∨ (¬ ((300 : Int) < n) ∧ ∃ q : Int, VeilM (n = q) ∧ (q ≤ 300 ∨ 8160 < q)) := by
    by_cases h1 : (300 : Int) < n
    · by_cases h2 : n ≤ 8160
      · exact .inl ⟨⟨h1, h2⟩, 300, ⟨rfl⟩, by omega⟩
      · exact .inr (.inl ⟨⟨h1, h2⟩, n, ⟨rfl⟩, by omega⟩)
    · exact .inr (.inr ⟨h1, n, ⟨rfl⟩, by omega⟩)
  go_enter Tryd.func4, Tryd.ntmps4
  go_upto_region 1 with fail
  refine forget (p := fun y => Code.wp _ _ _ _ y) (fun W0 => Below w.heap.size w W0 ∧ Holds W0 w.heap.size .u8 26 k) ⟨(Below.refl _ _).alloc (Nat.le_refl _) _, hN⟩ ?_
  clear hN
  rintro W0 ⟨hB0, hk0⟩
  go_upto_region 2 with (go_at_call 9; refine (hf1 _ hB0).mono ?_; rintro e w' ⟨rfl, rfl⟩)
  clear hf1
  rcases hcase with ⟨⟨h1, h2⟩, q, hq, hqq⟩ | ⟨⟨h1, h2⟩, q, hq, hqq⟩ | ⟨h1, q, hq, hqq⟩
  all_goals
    go_upto_region 4 with fail
    rw [hq.out]
    obtain ⟨Z, er, hA1, hA2⟩ := hA q hqq
    clear hA
    go_upto_region 5 with (first
      | (refine wpList_ld rfl 26 _ rfl _ rfl hk0 Tryd.underlying26 sizeKey hk ?_)
      | (go_at_call 13; refine (hA1 _ hB0).mono ?_; rintro e w2 ⟨xa, na, ca, rfl, hy2, hb2⟩))
    have hB2 : Below w.heap.size w w2 := hB0.trans (hb2.mono hB0.size)
    have hk2 := hk0.below hb2 hk0.lt
    go_upto_region 6 with (first
      | (refine wpList_ld rfl 26 _ rfl _ rfl hk2 Tryd.underlying26 sizeKey hk ?_)
      | (go_at_call 14; refine (hA2 _ hB2).mono ?_; rintro e w3 ⟨xb, nb, cb3, rfl, hy3, hb3⟩))
    have hB3 : Below w.heap.size w w3 := hB2.trans (hb3.mono hB2.size)
    have hk3 := hk2.below hb3 hk2.lt
    have hyA := hy2.below hb3
    have cA := fun wx (h : Below w3.heap.size w3 wx) => conv_bytes (hyA.below h)
    have cB := fun wx (h : Below w3.heap.size w3 wx) => conv_bytes (hy3.below h)
    obtain ⟨SA, hSA⟩ : ∃ s, strOfNums Z = s := ⟨_, rfl⟩
    rw [hSA] at cA cB
    clear hSA hA1 hA2 hy2 hy3 hyA hb2 hb3 hk0 hk2 hB0 hB2
    refine wp_region_gate (fun w' => (convert 22 9 (.slice xa na ca)).run Tryd.prog w' = .ok (.string SA) w' ∧ (convert 22 9 (.slice xb nb cb3)).run Tryd.prog w' = .ok (.string SA) w') 22 (by kernel_rfl) ?_
    refine wpAnyG_one (i := 0) rfl (by kernel_rfl) (by kernel_rfl) (fun K hK => ?_)
    have hBd : Below w3.heap.size w3 w3.drew := (Below.refl _ _).drew
    have hB4 : Below w.heap.size w w3.drew := hB3.drew
    go_wp2_with (go_at_call 10; refine (live2_any _ (hKT.below hB4)).mono ?_; rintro e w4 ⟨rfl, hb4⟩)
    have hb34 : Below w3.heap.size w3 w4 := hBd.trans hb4
    have hB5 : Below w.heap.size w w4 := hB3.trans (hb34.mono hB3.size)
    have hk4 := hk3.below hb34 hk3.lt
    have hS := And.intro (cA _ hb34) (cB _ hb34)
    refine hK.out _ _ (fun _ => hS) ?_
    clear hK K
    refine wpAnyG_any (i := 1) (v := ?_) rfl (by kernel_rfl) (by kernel_rfl) (by kernel_rfl) (fun _ _ _ h => h) (by kernel_rfl) (fun _ => hS) (by kernel_rfl) ?_ ?_
    rotate_left
    · intro _; go_simp; try with_reducible rfl
    simp only [Act.put, List.setIfInBounds_toArray, List.set_cons_zero, List.set_cons_succ]
    refine wpAnyG_any (i := 2) (v := ?_) rfl (by kernel_rfl) (by kernel_rfl) (by kernel_rfl) (fun _ _ _ h => h) (by kernel_rfl) (fun _ => hS) (by kernel_rfl) ?_ ?_
    rotate_left
    · intro _; go_simp; try with_reducible rfl
    simp only [Act.put, List.setIfInBounds_toArray, List.set_cons_zero, List.set_cons_succ]
    refine wpAnyG_any (i := 4) (v := ?_) rfl (by kernel_rfl) (by kernel_rfl) (by kernel_rfl) (fun _ _ _ h => h) (by kernel_rfl) (fun _ => hS) (by kernel_rfl) ?_ ?_
    rotate_left
    · intro _; go_simp; try with_reducible rfl
    simp only [Act.put, List.setIfInBounds_toArray, List.set_cons_zero, List.set_cons_succ]
    refine wpAnyG_read (i := 3) (v := ?_) rfl (by kernel_rfl) (by kernel_rfl) (by kernel_rfl) (fun _ _ _ h => h) (by kernel_rfl) (by kernel_rfl) (by kernel_rfl) hS (by kernel_rfl) ?_ ?_
    rotate_left
    · intro wx hSw; go_split_ands; go_simp; try with_reducible rfl
    simp only [Act.put, List.setIfInBounds_toArray, List.set_cons_zero, List.set_cons_succ]
    refine wpAnyG_read (i := 5) (v := ?_) rfl (by kernel_rfl) (by kernel_rfl) (by kernel_rfl) (fun _ _ _ h => h) (by kernel_rfl) (by kernel_rfl) (by kernel_rfl) hS (by kernel_rfl) ?_ ?_
    rotate_left
    · intro wx hSw; go_split_ands; go_simp; try with_reducible rfl
    simp only [Act.put, List.setIfInBounds_toArray, List.set_cons_zero, List.set_cons_succ]
    refine wpAnyG_any (i := 6) (v := .bool true) rfl (by kernel_rfl) (by kernel_rfl) (by kernel_rfl) (fun _ _ _ h => h) (by kernel_rfl) (fun _ => hS) (by kernel_rfl) ?_ ?_
    · intro _; go_simp
    simp only [Act.put, List.setIfInBounds_toArray, List.set_cons_zero, List.set_cons_succ]
    refine wpAnyG_any (i := 7) (v := .bool true) rfl (by kernel_rfl) (by kernel_rfl) (by kernel_rfl) (fun _ _ _ h => h) (by kernel_rfl) (fun _ => hS) (by kernel_rfl) ?_ ?_
    · intro _; go_simp
    simp only [Act.put, List.setIfInBounds_toArray, List.set_cons_zero, List.set_cons_succ]
    refine wpAnyG_any (i := 8) (v := ?_) rfl (by kernel_rfl) (by kernel_rfl) (by kernel_rfl) (fun _ _ _ h => h) (by kernel_rfl) (fun _ => hS) (by kernel_rfl) ?_ ?_
    rotate_left
    · intro _; go_simp; try with_reducible rfl
    simp only [Act.put, List.setIfInBounds_toArray, List.set_cons_zero, List.set_cons_succ]
    refine wpAnyG_any (i := 9) (v := ?_) rfl (by kernel_rfl) (by kernel_rfl) (by kernel_rfl) (fun _ _ _ h => h) (by kernel_rfl) (fun _ => hS) (by kernel_rfl) ?_ ?_
    rotate_left
    · intro _; go_simp; try with_reducible rfl
    simp only [Act.put, List.setIfInBounds_toArray, List.set_cons_zero, List.set_cons_succ]
    refine wpAnyG_any (i := 10) (v := ?_) rfl (by kernel_rfl) (by kernel_rfl) (by kernel_rfl) (fun _ _ _ h => h) (by kernel_rfl) (fun _ => hS) (by kernel_rfl) ?_ ?_
    rotate_left
    · intro _; go_simp; try with_reducible rfl
    simp only [Act.put, List.setIfInBounds_toArray, List.set_cons_zero, List.set_cons_succ]
    refine wpAnyG_any (i := 11) (v := .bool true) rfl (by kernel_rfl) (by kernel_rfl) (by kernel_rfl) (fun _ _ _ h => h) (by kernel_rfl) (fun _ => hS) (by kernel_rfl) ?_ ?_
    · intro _; go_simp
    simp only [Act.put, List.setIfInBounds_toArray, List.set_cons_zero, List.set_cons_succ]
    refine wpAnyG_any (i := 12) (v := .bool true) rfl (by kernel_rfl) (by kernel_rfl) (by kernel_rfl) (fun _ _ _ h => h) (by kernel_rfl) (fun _ => hS) (by kernel_rfl) ?_ ?_
    · intro _; go_simp
    simp only [Act.put, List.setIfInBounds_toArray, List.set_cons_zero, List.set_cons_succ]
    refine wpAnyG_any (i := 13) (v := ?_) rfl (by kernel_rfl) (by kernel_rfl) (by kernel_rfl) (fun _ _ _ h => h) (by kernel_rfl) (fun _ => hS) (by kernel_rfl) ?_ ?_
    rotate_left
    · intro _; go_simp; try with_reducible rfl
    simp only [Act.put, List.setIfInBounds_toArray, List.set_cons_zero, List.set_cons_succ]
    refine wpAnyG_any (i := 14) (v := ?_) rfl (by kernel_rfl) (by kernel_rfl) (by kernel_rfl) (fun _ _ _ h => h) (by kernel_rfl) (fun _ => hS) (by kernel_rfl) ?_ ?_
    rotate_left
    · intro _; go_simp; try with_reducible rfl
    simp only [Act.put, List.setIfInBounds_toArray, List.set_cons_zero, List.set_cons_succ]
    refine wpAnyG_any (i := 17) (v := ?_) rfl (by kernel_rfl) (by kernel_rfl) (by kernel_rfl) (fun _ _ _ h => h) (by kernel_rfl) (fun _ => hS) (by kernel_rfl) ?_ ?_
    rotate_left
    · intro _; go_simp; try with_reducible rfl
    simp only [Act.put, List.setIfInBounds_toArray, List.set_cons_zero, List.set_cons_succ]
    refine wpAnyG_any (i := 15) (v := .slice (some ⟨w.heap.size, 0, none⟩) 32 32) rfl (by kernel_rfl) (by kernel_rfl) (by kernel_rfl) (fun _ _ _ h => h) (by kernel_rfl) (fun _ => hS) (by kernel_rfl) ?_ ?_
    · intro _; go_simp
    simp only [Act.put, List.setIfInBounds_toArray, List.set_cons_zero, List.set_cons_succ]
    refine wpAnyG_any (i := 18) (v := .slice (some ⟨w.heap.size, 0, none⟩) 32 32) rfl (by kernel_rfl) (by kernel_rfl) (by kernel_rfl) (fun _ _ _ h => h) (by kernel_rfl) (fun _ => hS) (by kernel_rfl) ?_ ?_
    · intro _; go_simp
    simp only [Act.put, List.setIfInBounds_toArray, List.set_cons_zero, List.set_cons_succ]
    refine wpAnyG_one (i := 16) rfl (by kernel_rfl) (by kernel_rfl) (fun K hK => ?_)
    go_wp2_with (go_at_call 15; refine (hH _ _ hB5 hk4).mono ?_; rintro e w5 ⟨rfl, hb5⟩)
    have hb35 : Below w3.heap.size w3 w5 := hb34.trans (hb5.mono hb34.size)
    have hB6 : Below w.heap.size w w5 := hB5.trans (hb5.mono hB5.size)
    have hk5 := hk4.below hb5 hk4.lt
    replace hS := And.intro (cA _ hb35) (cB _ hb35)
    refine hK.out _ _ (fun _ => hS) ?_
    clear hK K
    refine wpAnyG_one (i := 19) rfl (by kernel_rfl) (by kernel_rfl) (fun K hK => ?_)
    go_wp2_with (go_at_call 16; refine (hR _ _ hB6 hk5).mono ?_; rintro e w6 ⟨rfl, hb6⟩)
    have hb36 : Below w3.heap.size w3 w6 := hb35.trans (hb6.mono hb35.size)
    have hB7 : Below w.heap.size w w6 := hB6.trans (hb6.mono hB6.size)
    replace hS := And.intro (cA _ hb36) (cB _ hb36)
    refine hK.out _ _ (fun _ => hS) ?_
    clear hK K
    refine wpAnyG_any (i := 20) (v := .bool true) rfl (by kernel_rfl) (by kernel_rfl) (by kernel_rfl) (fun _ _ _ h => h) (by kernel_rfl) (fun _ => hS) (by kernel_rfl) ?_ ?_
    · intro _; go_simp
    simp only [Act.put, List.setIfInBounds_toArray, List.set_cons_zero, List.set_cons_succ]
    refine wpAnyG_any (i := 21) (v := .bool true) rfl (by kernel_rfl) (by kernel_rfl) (by kernel_rfl) (fun _ _ _ h => h) (by kernel_rfl) (fun _ => hS) (by kernel_rfl) ?_ ?_
    · intro _; go_simp
    simp only [Act.put, List.setIfInBounds_toArray, List.set_cons_zero, List.set_cons_succ]
    refine wpAnyG_one (i := 22) rfl (by kernel_rfl) (by kernel_rfl) (fun K hK => ?_)
    go_simp
    refine hK.out _ _ (fun h => absurd (show true = false from h) (by decide)) ?_
    clear hK K
    refine wpAnyG_done (by kernel_rfl) ?_ _
    go_wp2
    go_ret
    exact ⟨rfl, hB7⟩
end Go.Proofs.YteolgonoodfniaaDoor
