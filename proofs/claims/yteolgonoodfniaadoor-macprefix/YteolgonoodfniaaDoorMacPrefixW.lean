/- The statement MacPrefix, walked. -/
import Derived.Test.YteolgonoodfniaaDoorLive2
import Derived.Test.YteolgonoodfniaaDoorFewL2
import Derived.Test.YteolgonoodfniaaDoorStrB
namespace Go.Proofs.YteolgonoodfniaaDoor
open Go.RowKit
set_option maxRecDepth 20000
set_option linter.unusedSimpArgs false

theorem outK_pre (k b : List Int) (i d : Nat) : ∃ t, outK k b (i + d) = outK k b i ++ t := by
  induction d with
  | zero => exact ⟨[], by simp⟩
  | succ d ih =>
    obtain ⟨t, ht⟩ := ih
    exact ⟨t ++ tK k b (i + d + 1), by rw [← Nat.add_assoc]; simp only [outK]; rw [ht, List.append_assoc]⟩
theorem expL_take (k b : List Int) (a n : Nat) (h : a ≤ n) : (expL k b n).take a = expL k b a := by
  unfold expL
  rw [List.take_take, Nat.min_eq_left h]
  obtain ⟨t, ht⟩ := outK_pre k b ((a + 31) / 32) ((n + 31) / 32 - (a + 31) / 32)
  rw [show (a + 31) / 32 + ((n + 31) / 32 - (a + 31) / 32) = (n + 31) / 32 by omega] at ht
  rw [ht, List.take_append_of_le_length (by rw [outK_length]; omega)]

set_option maxHeartbeats 4000000 in
theorem prefix_walk (k : List Int) (y : Option Addr) (lb cb : Nat) (b0 : List Int) (l : List Int) (w : World) (hk : k.length = 32) (hl : l.length = 2) (hlu : ∀ v ∈ l, 0 ≤ v ∧ v ≤ 255) (hKT : KTab w) (hy : Bytes w y lb cb b0) :
    Calls Tryd.prog 5 #[.agg (row .u8 k), .slice y lb cb, .agg (row .u8 l)] w fun e w' => e = .returned (.bool true) ∧ Below w.heap.size w w' := by
  obtain ⟨p0, q0, rfl⟩ : ∃ p q, l = [p, q] := by
    match l, hl with
    | [p, q], _ => exact ⟨p, q, rfl⟩
  have hp := hlu p0 (by simp)
  have hq := hlu q0 (by simp)
  obtain ⟨p, rfl⟩ := Int.eq_ofNat_of_zero_le hp.1
  obtain ⟨q, rfl⟩ := Int.eq_ofNat_of_zero_le hq.1
  have hp2 : p ≤ 255 := by omega
  have hq2 : q ≤ 255 := by omega
  clear hl hlu hp hq
  have hy6 := hy.fewM 100
  obtain ⟨m, hm⟩ : ∃ q, min lb 100 = q := ⟨_, rfl⟩
  obtain ⟨b, hb⟩ : ∃ q, b0.take 100 = q := ⟨_, rfl⟩
  have hm6 : m ≤ 100 := by omega
  have hf1 : ∀ wx, Below w.heap.size w wx → Calls Tryd.prog 9 #[.slice y lb cb, .int .i64 100] wx (fun e w' => e = .returned (.slice y m cb) ∧ wx = w') := fun wx hb' => by
    rw [← hm]; exact few2_any y lb cb 100 b0 wx (hy.below hb') (by omega) (by omega)
  rw [hm, hb] at hy6
  clear hm hb hy
  have hX : ∀ (n : Nat) (wx : World), n ≤ 255 → Below w.heap.size w wx → Calls Tryd.prog 13 #[.agg (row .u8 k), .slice y m cb, .int .i64 n] wx fun e w' => ∃ xa ca, e = .returned (.tuple #[.slice xa n ca, .int .i64 0]) ∧ Bytes w' xa n ca (expL k b n) ∧ Below wx.heap.size wx w' := fun n wx hn hb' =>
    (expand_any k y m cb b n wx hk (hy6.below hb') (by omega) (by omega) (hKT.below hb')).mono fun e w' ⟨v, he, ho, hbb⟩ => by
      obtain ⟨x, n', c, hv, hn'⟩ := ho.isSlice
      rw [expL_length] at hn'
      subst hn' hv
      exact ⟨x, c, he, ho.bytes.2, hbb⟩
  go_enter Tryd.func5, Tryd.ntmps5
  go_upto_region 1 with fail
  refine forget (p := fun y => Code.wp _ _ _ _ y) (fun W0 => Below w.heap.size w W0 ∧ Holds W0 w.heap.size .u8 26 k ∧ Holds W0 (w.heap.size + 1) .u8 33 [(p : Int), (q : Int)]) ⟨((Below.refl _ _).alloc (Nat.le_refl _) _).alloc (by simp) _, (Holds.new w .u8 26 k).alloc _, ?_⟩ ?_
  · have := Holds.new (w.alloc (.cells (row .u8 k) 26)) .u8 33 [(p : Int), (q : Int)]
    rw [World.size_alloc] at this
    exact this
  rintro W0 ⟨hB0, hk0, hn0⟩
  have c0 := hn0.cell 0 (by simp)
  have c1 := hn0.cell 1 (by simp)
  simp only [List.getElem?_cons_zero, List.getElem?_cons_succ, Option.getD_some] at c0 c1
  go_upto_region 2 with (go_at_call 9; refine (hf1 _ hB0).mono ?_; rintro e w' ⟨rfl, rfl⟩)
  clear hf1
  go_quiet ((fail))
  go_upto_region 3 with fail
  have hB1 : Below w.heap.size w (W0.drewN nq) := below_drewN hB0 nq
  have hk1 : Holds (W0.drewN nq) w.heap.size .u8 26 k := hk0.drewN nq
  refine forget (p := fun y => Code.wp _ _ _ _ y) (fun W1 => Below w.heap.size w W1 ∧ Holds W1 w.heap.size .u8 26 k) ⟨hB1, hk1⟩ ?_
  clear hB0 hk0 hn0 c0 c1 hB1 hk1
  rintro W1 ⟨hB1, hk1⟩
  have hcase : ((q : Int) < (p : Int) ∧ ∃ A B : Nat, q = A ∧ p = B ∧ A ≤ B ∧ B ≤ 255) ∨ (¬ ((q : Int) < (p : Int)) ∧ ∃ A B : Nat, p = A ∧ q = B ∧ A ≤ B ∧ B ≤ 255) := by
    by_cases h : (q : Int) < (p : Int)
    · exact .inl ⟨h, q, p, rfl, rfl, by omega, by omega⟩
    · exact .inr ⟨h, p, q, rfl, rfl, by omega, by omega⟩
  clear hp2 hq2
  rcases hcase with ⟨hpq, A, B, hA, hB, hAB, hB2⟩ | ⟨hpq, A, B, hA, hB, hAB, hB2⟩
  all_goals
    rw [hA, hB] at hpq ⊢
    clear hA hB
    go_upto_region 5 with fail
    have hX1 := hX A W1 (by omega) hB1
    go_upto_region 6 with (first
      | (refine wpList_ld rfl 26 _ rfl _ rfl hk1 Tryd.underlying26 sizeKey hk ?_)
      | (go_at_call 13; refine hX1.mono ?_; rintro e w2 ⟨xa, ca, rfl, hy2, hb2⟩))
    have hB3 : Below w.heap.size w w2 := hB1.trans (hb2.mono hB1.size)
    have hk2 := hk1.below hb2 hk1.lt
    have hX2 := hX B w2 (by omega) hB3
    go_upto_region 7 with (first
      | (refine wpList_ld rfl 26 _ rfl _ rfl hk2 Tryd.underlying26 sizeKey hk ?_)
      | (go_at_call 13; refine hX2.mono ?_; rintro e w3 ⟨xb, cb3, rfl, hy3, hb3⟩))
    have hB4 : Below w.heap.size w w3 := hB3.trans (hb3.mono hB3.size)
    have hyB : Bytes w3 xb A cb3 (expL k b A) := by
      have := hy3.fewM A
      rw [Nat.min_eq_right hAB, expL_take k b A B hAB] at this
      exact this
    have hyA := hy2.below hb3
    have cA := fun wx (h : Below w3.heap.size w3 wx) => conv_bytes (hyA.below h)
    have cB := fun wx (h : Below w3.heap.size w3 wx) => conv_bytes (hyB.below h)
    obtain ⟨SA, hSA⟩ : ∃ s, strOfNums (expL k b A) = s := ⟨_, rfl⟩
    rw [hSA] at cA cB
    have hle := hy3.le
    have htop := hy3.top
    have hABi : (A : Int) ≤ (B : Int) := by omega
    have hAc : (A : Int) ≤ (cb3 : Int) := by omega
    have hA0 : (0 : Int) ≤ (A : Int) := by omega
    clear hX hX1 hX2 hk1 hk2 hy2 hy3 hyA hyB hSA hb2 hb3 hpq
    refine wp_region_gate (fun w' => (convert 22 9 (.slice xa A ca)).run Tryd.prog w' = .ok (.string SA) w' ∧ (convert 22 9 (.slice xb A cb3)).run Tryd.prog w' = .ok (.string SA) w') 30 (by kernel_rfl) ?_
    refine wpAnyG_one (i := 0) rfl (by kernel_rfl) (by kernel_rfl) (fun K hK => ?_)
    have hBd : Below w3.heap.size w3 w3.drew := (Below.refl _ _).drew
    go_wp2_with (go_at_call 10; refine (live2_any _ (hKT.below (hB4.trans (hBd.mono hB4.size)))).mono ?_; rintro e w4 ⟨rfl, hb4⟩)
    have hB5 : Below w3.heap.size w3 w4 := hBd.trans hb4
    have hS := And.intro (cA _ hB5) (cB _ hB5)
    refine hK.out _ _ (fun _ => hS) ?_
    clear hK K
    refine wpAnyG_any (i := 1) (v := ?_) rfl (by kernel_rfl) (by kernel_rfl) (by kernel_rfl) (fun _ _ _ h => h) (by kernel_rfl) (fun _ => hS) (by kernel_rfl) ?_ ?_
    rotate_left
    · intro _; go_simp; try with_reducible rfl
    simp only [Act.put, List.setIfInBounds_toArray, List.set_cons_zero, List.set_cons_succ]
    refine wpAnyG_any (i := 2) (v := ?_) rfl (by kernel_rfl) (by kernel_rfl) (by kernel_rfl) (fun _ _ _ h => h) (by kernel_rfl) (fun _ => hS) (by kernel_rfl) ?_ ?_
    rotate_left
    · intro _; go_simp; try with_reducible rfl
    simp only [Act.put, List.setIfInBounds_toArray, List.set_cons_zero, List.set_cons_succ]
    refine wpAnyG_any (i := 3) (v := .bool true) rfl (by kernel_rfl) (by kernel_rfl) (by kernel_rfl) (fun _ _ _ h => h) (by kernel_rfl) (fun _ => hS) (by kernel_rfl) ?_ ?_
    · intro _; go_simp
    simp only [Act.put, List.setIfInBounds_toArray, List.set_cons_zero, List.set_cons_succ]
    refine wpAnyG_any (i := 4) (v := .bool true) rfl (by kernel_rfl) (by kernel_rfl) (by kernel_rfl) (fun _ _ _ h => h) (by kernel_rfl) (fun _ => hS) (by kernel_rfl) ?_ ?_
    · intro _; go_simp
    simp only [Act.put, List.setIfInBounds_toArray, List.set_cons_zero, List.set_cons_succ]
    refine wpAnyG_any (i := 5) (v := ?_) rfl (by kernel_rfl) (by kernel_rfl) (by kernel_rfl) (fun _ _ _ h => h) (by kernel_rfl) (fun _ => hS) (by kernel_rfl) ?_ ?_
    rotate_left
    · intro _; go_simp; try with_reducible rfl
    simp only [Act.put, List.setIfInBounds_toArray, List.set_cons_zero, List.set_cons_succ]
    refine wpAnyG_any (i := 6) (v := ?_) rfl (by kernel_rfl) (by kernel_rfl) (by kernel_rfl) (fun _ _ _ h => h) (by kernel_rfl) (fun _ => hS) (by kernel_rfl) ?_ ?_
    rotate_left
    · intro _; go_simp; try with_reducible rfl
    simp only [Act.put, List.setIfInBounds_toArray, List.set_cons_zero, List.set_cons_succ]
    refine wpAnyG_any (i := 7) (v := .bool true) rfl (by kernel_rfl) (by kernel_rfl) (by kernel_rfl) (fun _ _ _ h => h) (by kernel_rfl) (fun _ => hS) (by kernel_rfl) ?_ ?_
    · intro _; go_simp
    simp only [Act.put, List.setIfInBounds_toArray, List.set_cons_zero, List.set_cons_succ]
    refine wpAnyG_any (i := 8) (v := .bool true) rfl (by kernel_rfl) (by kernel_rfl) (by kernel_rfl) (fun _ _ _ h => h) (by kernel_rfl) (fun _ => hS) (by kernel_rfl) ?_ ?_
    · intro _; go_simp
    simp only [Act.put, List.setIfInBounds_toArray, List.set_cons_zero, List.set_cons_succ]
    refine wpAnyG_any (i := 9) (v := ?_) rfl (by kernel_rfl) (by kernel_rfl) (by kernel_rfl) (fun _ _ _ h => h) (by kernel_rfl) (fun _ => hS) (by kernel_rfl) ?_ ?_
    rotate_left
    · intro _; go_simp; try with_reducible rfl
    simp only [Act.put, List.setIfInBounds_toArray, List.set_cons_zero, List.set_cons_succ]
    refine wpAnyG_any (i := 10) (v := ?_) rfl (by kernel_rfl) (by kernel_rfl) (by kernel_rfl) (fun _ _ _ h => h) (by kernel_rfl) (fun _ => hS) (by kernel_rfl) ?_ ?_
    rotate_left
    · intro _; go_simp; try with_reducible rfl
    simp only [Act.put, List.setIfInBounds_toArray, List.set_cons_zero, List.set_cons_succ]
    refine wpAnyG_any (i := 11) (v := ?_) rfl (by kernel_rfl) (by kernel_rfl) (by kernel_rfl) (fun _ _ _ h => h) (by kernel_rfl) (fun _ => hS) (by kernel_rfl) ?_ ?_
    rotate_left
    · intro _; go_simp; try with_reducible rfl
    simp only [Act.put, List.setIfInBounds_toArray, List.set_cons_zero, List.set_cons_succ]
    refine wpAnyG_any (i := 12) (v := ?_) rfl (by kernel_rfl) (by kernel_rfl) (by kernel_rfl) (fun _ _ _ h => h) (by kernel_rfl) (fun _ => hS) (by kernel_rfl) ?_ ?_
    rotate_left
    · intro _; go_simp; try with_reducible rfl
    simp only [Act.put, List.setIfInBounds_toArray, List.set_cons_zero, List.set_cons_succ]
    refine wpAnyG_any (i := 13) (v := .bool true) rfl (by kernel_rfl) (by kernel_rfl) (by kernel_rfl) (fun _ _ _ h => h) (by kernel_rfl) (fun _ => hS) (by kernel_rfl) ?_ ?_
    · intro _; go_simp
    simp only [Act.put, List.setIfInBounds_toArray, List.set_cons_zero, List.set_cons_succ]
    refine wpAnyG_any (i := 14) (v := .bool true) rfl (by kernel_rfl) (by kernel_rfl) (by kernel_rfl) (fun _ _ _ h => h) (by kernel_rfl) (fun _ => hS) (by kernel_rfl) ?_ ?_
    · intro _; go_simp
    simp only [Act.put, List.setIfInBounds_toArray, List.set_cons_zero, List.set_cons_succ]
    refine wpAnyG_any (i := 15) (v := ?_) rfl (by kernel_rfl) (by kernel_rfl) (by kernel_rfl) (fun _ _ _ h => h) (by kernel_rfl) (fun _ => hS) (by kernel_rfl) ?_ ?_
    rotate_left
    · intro _; go_simp; try with_reducible rfl
    simp only [Act.put, List.setIfInBounds_toArray, List.set_cons_zero, List.set_cons_succ]
    refine wpAnyG_any (i := 16) (v := ?_) rfl (by kernel_rfl) (by kernel_rfl) (by kernel_rfl) (fun _ _ _ h => h) (by kernel_rfl) (fun _ => hS) (by kernel_rfl) ?_ ?_
    rotate_left
    · intro _; go_simp; try with_reducible rfl
    simp only [Act.put, List.setIfInBounds_toArray, List.set_cons_zero, List.set_cons_succ]
    refine wpAnyG_any (i := 17) (v := ?_) rfl (by kernel_rfl) (by kernel_rfl) (by kernel_rfl) (fun _ _ _ h => h) (by kernel_rfl) (fun _ => hS) (by kernel_rfl) ?_ ?_
    rotate_left
    · intro _; go_simp; try with_reducible rfl
    simp only [Act.put, List.setIfInBounds_toArray, List.set_cons_zero, List.set_cons_succ]
    refine wpAnyG_any (i := 18) (v := ?_) rfl (by kernel_rfl) (by kernel_rfl) (by kernel_rfl) (fun _ _ _ h => h) (by kernel_rfl) (fun _ => hS) (by kernel_rfl) ?_ ?_
    rotate_left
    · intro _; go_simp; try with_reducible rfl
    simp only [Act.put, List.setIfInBounds_toArray, List.set_cons_zero, List.set_cons_succ]
    refine wpAnyG_any (i := 19) (v := .bool true) rfl (by kernel_rfl) (by kernel_rfl) (by kernel_rfl) (fun _ _ _ h => h) (by kernel_rfl) (fun _ => hS) (by kernel_rfl) ?_ ?_
    · intro _; go_simp
    simp only [Act.put, List.setIfInBounds_toArray, List.set_cons_zero, List.set_cons_succ]
    refine wpAnyG_any (i := 20) (v := .bool true) rfl (by kernel_rfl) (by kernel_rfl) (by kernel_rfl) (fun _ _ _ h => h) (by kernel_rfl) (fun _ => hS) (by kernel_rfl) ?_ ?_
    · intro _; go_simp
    simp only [Act.put, List.setIfInBounds_toArray, List.set_cons_zero, List.set_cons_succ]
    refine wpAnyG_any (i := 21) (v := ?_) rfl (by kernel_rfl) (by kernel_rfl) (by kernel_rfl) (fun _ _ _ h => h) (by kernel_rfl) (fun _ => hS) (by kernel_rfl) ?_ ?_
    rotate_left
    · intro _; go_simp; try with_reducible rfl
    simp only [Act.put, List.setIfInBounds_toArray, List.set_cons_zero, List.set_cons_succ]
    refine wpAnyG_any (i := 22) (v := ?_) rfl (by kernel_rfl) (by kernel_rfl) (by kernel_rfl) (fun _ _ _ h => h) (by kernel_rfl) (fun _ => hS) (by kernel_rfl) ?_ ?_
    rotate_left
    · intro _; go_simp; try with_reducible rfl
    simp only [Act.put, List.setIfInBounds_toArray, List.set_cons_zero, List.set_cons_succ]
    refine wpAnyG_any (i := 23) (v := ?_) rfl (by kernel_rfl) (by kernel_rfl) (by kernel_rfl) (fun _ _ _ h => h) (by kernel_rfl) (fun _ => hS) (by kernel_rfl) ?_ ?_
    rotate_left
    · intro _; go_simp; try with_reducible rfl
    simp only [Act.put, List.setIfInBounds_toArray, List.set_cons_zero, List.set_cons_succ]
    refine wpAnyG_any (i := 26) (v := ?_) rfl (by kernel_rfl) (by kernel_rfl) (by kernel_rfl) (fun _ _ _ h => h) (by kernel_rfl) (fun _ => hS) (by kernel_rfl) ?_ ?_
    rotate_left
    · intro _; go_simp; try with_reducible rfl
    simp only [Act.put, List.setIfInBounds_toArray, List.set_cons_zero, List.set_cons_succ]
    refine wpAnyG_any (i := 24) (v := .slice xb A cb3) rfl (by kernel_rfl) (by kernel_rfl) (by kernel_rfl) (fun _ _ _ h => h) (by kernel_rfl) (fun _ => hS) (by kernel_rfl) ?_ ?_
    · intro _; go_simp
    simp only [Act.put, List.setIfInBounds_toArray, List.set_cons_zero, List.set_cons_succ]
    refine wpAnyG_read (i := 25) (v := ?_) rfl (by kernel_rfl) (by kernel_rfl) (by kernel_rfl) (fun _ _ _ h => h) (by kernel_rfl) (by kernel_rfl) (by kernel_rfl) hS (by kernel_rfl) ?_ ?_
    rotate_left
    · intro wx hSw; go_split_ands; go_simp; try with_reducible rfl
    simp only [Act.put, List.setIfInBounds_toArray, List.set_cons_zero, List.set_cons_succ]
    refine wpAnyG_read (i := 27) (v := ?_) rfl (by kernel_rfl) (by kernel_rfl) (by kernel_rfl) (fun _ _ _ h => h) (by kernel_rfl) (by kernel_rfl) (by kernel_rfl) hS (by kernel_rfl) ?_ ?_
    rotate_left
    · intro wx hSw; go_split_ands; go_simp; try with_reducible rfl
    simp only [Act.put, List.setIfInBounds_toArray, List.set_cons_zero, List.set_cons_succ]
    refine wpAnyG_any (i := 28) (v := .bool true) rfl (by kernel_rfl) (by kernel_rfl) (by kernel_rfl) (fun _ _ _ h => h) (by kernel_rfl) (fun _ => hS) (by kernel_rfl) ?_ ?_
    · intro _; go_simp
    simp only [Act.put, List.setIfInBounds_toArray, List.set_cons_zero, List.set_cons_succ]
    refine wpAnyG_any (i := 29) (v := .bool true) rfl (by kernel_rfl) (by kernel_rfl) (by kernel_rfl) (fun _ _ _ h => h) (by kernel_rfl) (fun _ => hS) (by kernel_rfl) ?_ ?_
    · intro _; go_simp
    simp only [Act.put, List.setIfInBounds_toArray, List.set_cons_zero, List.set_cons_succ]
    refine wpAnyG_one (i := 30) rfl (by kernel_rfl) (by kernel_rfl) (fun K hK => ?_)
    go_simp
    refine hK.out _ _ (fun h => absurd (show true = false from h) (by decide)) ?_
    clear hK K
    refine wpAnyG_done (by kernel_rfl) ?_ _
    go_wp2
    go_ret
    exact ⟨rfl, hB4.trans (hB5.mono hB4.size)⟩
end Go.Proofs.YteolgonoodfniaaDoor
