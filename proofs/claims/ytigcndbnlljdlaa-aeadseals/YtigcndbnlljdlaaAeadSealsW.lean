/- The statement AeadSeals, walked. -/
import Derived.Test.YtigcndbnlljdlaaAo2b
import Derived.Test.YtigcndbnlljdlaaMAn6Aa
namespace Go.Proofs.Ytigcndbnlljdlaa
open Go.RowKit
set_option maxRecDepth 20000
set_option linter.unusedSimpArgs false

set_option maxHeartbeats 4000000 in
theorem seals_walk (k n : List Int) (x : Option Addr) (len cap : Nat) (o : List Int) (y : Option Addr) (lb cb : Nat) (z : List Int) (w : World) (hk : k.length = 32) (hn : n.length = 12) (hx : Bytes w x len cap o) (huo : ∀ v ∈ o, 0 ≤ v ∧ v ≤ 255) (hz : Bytes w y lb cb z) (huz : ∀ v ∈ z, 0 ≤ v ∧ v ≤ 255) :
    Calls Try.prog 3 #[.agg (ask5Row k n (.slice x len cap)), .slice y lb cb] w fun e w' => e = .returned (.bool true) ∧ Below w.heap.size w w' := by
  have uK := Try.underlying23
  have uN := Try.underlying25
  have iK := sizeKey5 k hk
  have iN := sizeNonce5 n hn
  have hf1 : ∀ wx, Below w.heap.size w wx → Calls Try.prog 4 #[.slice x len cap, .int .i64 200] wx fun e w' => e = .returned (.slice x (min len 200) cap) ∧ wx = w' := fun wx hb => few5_any x len cap 200 o wx (hx.below hb) (by omega) (by omega)
  have hf2 : ∀ wx, Below w.heap.size w wx → Calls Try.prog 4 #[.slice y lb cb, .int .i64 300] wx fun e w' => e = .returned (.slice y (min lb 300) cb) ∧ wx = w' := fun wx hb => few5_any y lb cb 300 z wx (hz.below hb) (by omega) (by omega)
  have hx2 := hx.few 200
  have hz2 := hz.few 300
  have huo2 : ∀ v ∈ o.take 200, isB v := fun v hv => huo v (List.mem_of_mem_take hv)
  have huz2 : ∀ v ∈ z.take 300, isB v := fun v hv => huz v (List.mem_of_mem_take hv)
  obtain ⟨m1, hm1⟩ : ∃ q, min len 200 = q := ⟨_, rfl⟩
  obtain ⟨m2, hm2⟩ : ∃ q, min lb 300 = q := ⟨_, rfl⟩
  have h1 : m1 ≤ 200 := by omega
  have h2 : m2 ≤ 300 := by omega
  rw [hm1] at hf1 hx2
  rw [hm2] at hf2 hz2
  obtain ⟨O, hO⟩ : ∃ q, o.take 200 = q := ⟨_, rfl⟩
  obtain ⟨Z, hZ⟩ : ∃ q, z.take 300 = q := ⟨_, rfl⟩
  rw [hO] at hx2 huo2
  rw [hZ] at hz2 huz2
  have hzl : Z.length = m2 := hz2.len_eq.symm
  have hseal : ∀ (v : Option Addr) (lv cv : Nat) wx, Below w.heap.size w wx → Bytes wx v lv cv Z → Calls Try.prog 6 #[.agg (List.map (Value.int .u8) k).toArray, .agg (List.map (Value.int .u8) n).toArray, .slice x m1 cap, .slice v lv cv] wx fun e w' => ∃ x' n' c', e = .returned (.slice x' n' c') ∧ Bytes w' x' n' c' (sealL k n O Z) ∧ Below wx.heap.size wx w' := fun v lv cv wx hb hv =>
    (seal_any k n x m1 cap O v lv cv Z wx hk hn (hx2.below hb) hv (by omega) (by rw [hv.len_eq]; omega)).mono fun e w' ⟨u, h1, h2, h3⟩ => by
      obtain ⟨x', n', c', rfl, _⟩ := h2.isSlice
      exact ⟨x', n', c', h1, h2.bytes.2, h3⟩
  have href : ∀ wx, Below w.heap.size w wx → Calls Try.prog 7 #[.agg (List.map (Value.int .u8) k).toArray, .agg (List.map (Value.int .u8) n).toArray, .slice x m1 cap, .slice y m2 cb] wx fun e w' => ∃ x' n' c', e = .returned (.slice x' n' c') ∧ Bytes w' x' n' c' (sealL k n O Z) ∧ Below wx.heap.size wx w' := fun wx hb =>
    (refSeal_any k n x m1 cap O y m2 cb Z wx hk hn (hx2.below hb) (hz2.below hb) (by omega) (by omega) huo2 huz2).mono fun e w' ⟨u, h1, h2, h3⟩ => by
      obtain ⟨x', n', c', rfl, _⟩ := h2.isSlice
      exact ⟨x', n', c', h1, h2.bytes.2, h3⟩
  have HZL : Veil (Z.length = m2) := ⟨hzl⟩
  have hA0 := Ask5At.new w k n (.slice x len cap)
  have hB0 : Below w.heap.size w (w.alloc (.cells (ask5Row k n (.slice x len cap)) 28)) := (Below.refl _ _).alloc (Nat.le_refl _) _
  clear hm1 hm2 hx hz huo huz hO hZ hzl huo2 huz2 hx2
  go_enter Try.func3, Try.ntmps3
  go_upto_region 1 with fail
  obtain ⟨W0, hW0⟩ : ∃ W, w.alloc (.cells (ask5Row k n (.slice x len cap)) 28) = W := ⟨_, rfl⟩
  rw [hW0] at hA0 hB0 ⊢
  clear hW0
  have c44 := hA0.open_ hk hn
  have f44 := hA0.frozen 44
  go_upto_region 2 with (first
    | (go_at_call 4; refine (hf1 _ hB0).mono ?_; rintro e w3 ⟨rfl, rfl⟩; clear hf1)
    | (go_at_call 4; refine (hf2 _ hB0).mono ?_; rintro e w3 ⟨rfl, rfl⟩))
  refine forget (p := fun y => Code.wp _ _ _ _ y) (fun W1 => Below w.heap.size w W1 ∧ Ask5At W1 w.heap.size k n (.slice x m1 cap)) ⟨hB0.setCell (by simp) _, hA0.set hk hn _⟩ ?_
  clear c44 f44 hA0 hB0 hf2
  rintro W1 ⟨hB1, hA1⟩
  have hz1 := hz2.below hB1
  have hE0 : OwnB (W1.alloc (.cells #[] 5)) W1.heap.size (.slice (some ⟨W1.heap.size, 0, none⟩) 0 0) [] := OwnB.ofHolds (Holds.new W1 .u8 5 []) (Nat.le_refl _) (by simp)
  have hz1' : Bytes (W1.alloc (.cells #[] 5)) y m2 cb Z := hz1.below ((Below.refl _ _).alloc (Nat.le_refl _) _)
  go_upto_region 3 with (at_builtin; refine wpList_app rfl _ _ rfl W1.heap.size _ [] rfl hE0 y m2 cb Z rfl hz1' (by simp; omega) (by simp) ?_; intro v1 w1 ho1 hg1)
  have hb1 : Below W1.heap.size W1 w1 := below_grown ((Below.refl _ _).alloc (Nat.le_refl _) _) hE0 hg1 (by simp)
  rw [List.nil_append] at ho1
  obtain ⟨x1, n1, c1, rfl, hn1⟩ := ho1.isSlice
  have hy1 : Bytes w1 x1 n1 c1 Z := ho1.bytes.2
  have hB2 : Below w.heap.size w w1 := hB1.trans (hb1.mono hB1.size)
  have hzy : Bytes w1 y m2 cb Z := hz1.below hb1
  have hA2 := hA1.below hb1 hA1.lt
  clear hn1 ho1 hg1 hE0 hz1 hz1' hA1 hz2
  obtain ⟨SY, hSY⟩ : ∃ s, strOfNums Z = s := ⟨_, rfl⟩
  obtain ⟨ZZ, hZZ⟩ : ∃ s, sealL k n O Z = s := ⟨_, rfl⟩
  rw [hZZ] at hseal href
  obtain ⟨SX, hSX⟩ : ∃ s, strOfNums ZZ = s := ⟨_, rfl⟩
  have keep : ∀ w', Below w1.heap.size w1 w' → w'.rangeAt w.heap.size 0 (k.map (Value.int .u8)) ∧ w'.rangeAt w.heap.size 32 (n.map (Value.int .u8)) ∧ w'.cell? ⟨w.heap.size, 44, none⟩ = some (.slice x m1 cap) ∧ (convert 26 9 (.slice x1 n1 c1)).run Try.prog w' = .ok (.string SY) w' ∧ (convert 26 9 (.slice y m2 cb)).run Try.prog w' = .ok (.string SY) w' := fun w' hb => by
    have hA' := hA2.below hb hA2.lt
    exact ⟨hA'.key, hA'.nonce hk, hA'.open_ hk hn, by rw [← hSY]; exact conv_bytes (hy1.below hb), by rw [← hSY]; exact conv_bytes (hzy.below hb)⟩
  have hx1 : ∀ wx, Below w1.heap.size w1 wx → Calls Try.prog 6 #[.agg (List.map (Value.int .u8) k).toArray, .agg (List.map (Value.int .u8) n).toArray, .slice x m1 cap, .slice x1 n1 c1] wx fun e w' => ∃ x' n' c', e = .returned (.slice x' n' c') ∧ Bytes w' x' n' c' ZZ ∧ Below wx.heap.size wx w' := fun wx hx => hseal x1 n1 c1 wx (hB2.trans (hx.mono hB2.size)) (hy1.below hx)
  have hx2 : ∀ wx, Below w1.heap.size w1 wx → Calls Try.prog 7 #[.agg (List.map (Value.int .u8) k).toArray, .agg (List.map (Value.int .u8) n).toArray, .slice x m1 cap, .slice y m2 cb] wx fun e w' => ∃ x' n' c', e = .returned (.slice x' n' c') ∧ Bytes w' x' n' c' ZZ ∧ Below wx.heap.size wx w' := fun wx hx => href wx (hB2.trans (hx.mono hB2.size))
  clear hZZ hseal href hA2 hy1 hzy hSY
  refine wp_region_gate (fun w' => w'.rangeAt w.heap.size 0 (k.map (Value.int .u8)) ∧ w'.rangeAt w.heap.size 32 (n.map (Value.int .u8)) ∧ w'.cell? ⟨w.heap.size, 44, none⟩ = some (.slice x m1 cap) ∧ (convert 26 9 (.slice x1 n1 c1)).run Try.prog w' = .ok (.string SY) w' ∧ (convert 26 9 (.slice y m2 cb)).run Try.prog w' = .ok (.string SY) w') 29 (by kernel_rfl) ?_
  refine wpAnyG_one (i := 0) rfl (by kernel_rfl) (by kernel_rfl) (fun K hK => ?_)
  go_wp2_with (go_at_call 5; refine (live5_any _).mono ?_; rintro e w3 ⟨rfl, hb3⟩)
  have hB3 : Below w1.heap.size w1 w3 := ((Below.refl _ _).drew).trans hb3
  have hS := keep _ hB3
  refine hK.out _ _ (fun _ => hS) ?_
  clear hK K
  refine wpAnyG_any (i := 1) (v := ?_) rfl (by kernel_rfl) (by kernel_rfl) (by kernel_rfl) (fun _ _ _ h => h) (by kernel_rfl) (fun _ => hS) (by kernel_rfl) ?_ ?_
  rotate_left
  · intro _; go_simp; try with_reducible rfl
  simp only [Act.put, List.setIfInBounds_toArray, List.set_cons_zero, List.set_cons_succ]
  refine wpAnyG_any (i := 2) (v := ?_) rfl (by kernel_rfl) (by kernel_rfl) (by kernel_rfl) (fun _ _ _ h => h) (by kernel_rfl) (fun _ => hS) (by kernel_rfl) ?_ ?_
  rotate_left
  · intro _; go_simp; try with_reducible rfl
  simp only [Act.put, List.setIfInBounds_toArray, List.set_cons_zero, List.set_cons_succ]
  refine wpAnyG_load (i := 3) (dst := some 18) (ty := 23) (x := .tmp 17) (b := w.heap.size) (o := (0)) (cs := (k.map (Value.int .u8))) (by kernel_rfl) (by kernel_rfl) (by kernel_rfl) (by kernel_rfl) (by kernel_rfl) (fun _ _ _ h => h) (by kernel_rfl) (by kernel_rfl) (by kernel_rfl) hS (by kernel_rfl) (fun _ h => h.1) uK rfl iK ?_
  simp only [Act.put, List.setIfInBounds_toArray, List.set_cons_zero, List.set_cons_succ]
  refine wpAnyG_any (i := 4) (v := ?_) rfl (by kernel_rfl) (by kernel_rfl) (by kernel_rfl) (fun _ _ _ h => h) (by kernel_rfl) (fun _ => hS) (by kernel_rfl) ?_ ?_
  rotate_left
  · intro _; go_simp; try with_reducible rfl
  simp only [Act.put, List.setIfInBounds_toArray, List.set_cons_zero, List.set_cons_succ]
  refine wpAnyG_load (i := 5) (dst := some 20) (ty := 25) (x := .tmp 19) (b := w.heap.size) (o := (32)) (cs := (n.map (Value.int .u8))) (by kernel_rfl) (by kernel_rfl) (by kernel_rfl) (by kernel_rfl) (by kernel_rfl) (fun _ _ _ h => h) (by kernel_rfl) (by kernel_rfl) (by kernel_rfl) hS (by kernel_rfl) (fun _ h => h.2.1) uN rfl iN ?_
  simp only [Act.put, List.setIfInBounds_toArray, List.set_cons_zero, List.set_cons_succ]
  refine wpAnyG_any (i := 6) (v := ?_) rfl (by kernel_rfl) (by kernel_rfl) (by kernel_rfl) (fun _ _ _ h => h) (by kernel_rfl) (fun _ => hS) (by kernel_rfl) ?_ ?_
  rotate_left
  · intro _; go_simp; try with_reducible rfl
  simp only [Act.put, List.setIfInBounds_toArray, List.set_cons_zero, List.set_cons_succ]
  refine wpAnyG_read (i := 7) (v := ?_) rfl (by kernel_rfl) (by kernel_rfl) (by kernel_rfl) (fun _ _ _ h => h) (by kernel_rfl) (by kernel_rfl) (by kernel_rfl) hS (by kernel_rfl) ?_ ?_
  rotate_left
  · intro wx hSw; go_split_ands; go_simp; try with_reducible rfl
  simp only [Act.put, List.setIfInBounds_toArray, List.set_cons_zero, List.set_cons_succ]
  refine wpAnyG_any (i := 8) (v := ?_) rfl (by kernel_rfl) (by kernel_rfl) (by kernel_rfl) (fun _ _ _ h => h) (by kernel_rfl) (fun _ => hS) (by kernel_rfl) ?_ ?_
  rotate_left
  · intro _; go_simp; try with_reducible rfl
  simp only [Act.put, List.setIfInBounds_toArray, List.set_cons_zero, List.set_cons_succ]
  refine wpAnyG_any (i := 11) (v := ?_) rfl (by kernel_rfl) (by kernel_rfl) (by kernel_rfl) (fun _ _ _ h => h) (by kernel_rfl) (fun _ => hS) (by kernel_rfl) ?_ ?_
  rotate_left
  · intro _; go_simp; try with_reducible rfl
  simp only [Act.put, List.setIfInBounds_toArray, List.set_cons_zero, List.set_cons_succ]
  refine wpAnyG_load (i := 12) (dst := some 27) (ty := 23) (x := .tmp 26) (b := w.heap.size) (o := (0)) (cs := (k.map (Value.int .u8))) (by kernel_rfl) (by kernel_rfl) (by kernel_rfl) (by kernel_rfl) (by kernel_rfl) (fun _ _ _ h => h) (by kernel_rfl) (by kernel_rfl) (by kernel_rfl) hS (by kernel_rfl) (fun _ h => h.1) uK rfl iK ?_
  simp only [Act.put, List.setIfInBounds_toArray, List.set_cons_zero, List.set_cons_succ]
  refine wpAnyG_any (i := 13) (v := ?_) rfl (by kernel_rfl) (by kernel_rfl) (by kernel_rfl) (fun _ _ _ h => h) (by kernel_rfl) (fun _ => hS) (by kernel_rfl) ?_ ?_
  rotate_left
  · intro _; go_simp; try with_reducible rfl
  simp only [Act.put, List.setIfInBounds_toArray, List.set_cons_zero, List.set_cons_succ]
  refine wpAnyG_load (i := 14) (dst := some 29) (ty := 25) (x := .tmp 28) (b := w.heap.size) (o := (32)) (cs := (n.map (Value.int .u8))) (by kernel_rfl) (by kernel_rfl) (by kernel_rfl) (by kernel_rfl) (by kernel_rfl) (fun _ _ _ h => h) (by kernel_rfl) (by kernel_rfl) (by kernel_rfl) hS (by kernel_rfl) (fun _ h => h.2.1) uN rfl iN ?_
  simp only [Act.put, List.setIfInBounds_toArray, List.set_cons_zero, List.set_cons_succ]
  refine wpAnyG_any (i := 15) (v := ?_) rfl (by kernel_rfl) (by kernel_rfl) (by kernel_rfl) (fun _ _ _ h => h) (by kernel_rfl) (fun _ => hS) (by kernel_rfl) ?_ ?_
  rotate_left
  · intro _; go_simp; try with_reducible rfl
  simp only [Act.put, List.setIfInBounds_toArray, List.set_cons_zero, List.set_cons_succ]
  refine wpAnyG_read (i := 16) (v := ?_) rfl (by kernel_rfl) (by kernel_rfl) (by kernel_rfl) (fun _ _ _ h => h) (by kernel_rfl) (by kernel_rfl) (by kernel_rfl) hS (by kernel_rfl) ?_ ?_
  rotate_left
  · intro wx hSw; go_split_ands; go_simp; try with_reducible rfl
  simp only [Act.put, List.setIfInBounds_toArray, List.set_cons_zero, List.set_cons_succ]
  refine wpAnyG_any (i := 17) (v := ?_) rfl (by kernel_rfl) (by kernel_rfl) (by kernel_rfl) (fun _ _ _ h => h) (by kernel_rfl) (fun _ => hS) (by kernel_rfl) ?_ ?_
  rotate_left
  · intro _; go_simp; try with_reducible rfl
  simp only [Act.put, List.setIfInBounds_toArray, List.set_cons_zero, List.set_cons_succ]
  refine wpAnyG_one (i := 9) rfl (by kernel_rfl) (by kernel_rfl) (fun K hK => ?_)
  go_wp2_with (go_at_call 6; refine (hx1 _ hB3).mono ?_; rintro e w4 ⟨x4, n4, c4, rfl, hY4, hb4⟩)
  have hB4 : Below w1.heap.size w1 w4 := hB3.trans (hb4.mono hB3.size)
  replace hS := keep _ hB4
  refine hK.out _ _ (fun _ => hS) ?_
  clear hK K
  refine wpAnyG_more (S' := fun w' => (w'.rangeAt w.heap.size 0 (k.map (Value.int .u8)) ∧ w'.rangeAt w.heap.size 32 (n.map (Value.int .u8)) ∧ w'.cell? ⟨w.heap.size, 44, none⟩ = some (.slice x m1 cap) ∧ (convert 26 9 (.slice x1 n1 c1)).run Try.prog w' = .ok (.string SY) w' ∧ (convert 26 9 (.slice y m2 cb)).run Try.prog w' = .ok (.string SY) w') ∧ (convert 26 9 (.slice x4 n4 c4)).run Try.prog w' = .ok (.string SX) w') (fun _ h => h.1) _ _ _ _ ?_
  have keep4 : ∀ w', Below w4.heap.size w4 w' → (w'.rangeAt w.heap.size 0 (k.map (Value.int .u8)) ∧ w'.rangeAt w.heap.size 32 (n.map (Value.int .u8)) ∧ w'.cell? ⟨w.heap.size, 44, none⟩ = some (.slice x m1 cap) ∧ (convert 26 9 (.slice x1 n1 c1)).run Try.prog w' = .ok (.string SY) w' ∧ (convert 26 9 (.slice y m2 cb)).run Try.prog w' = .ok (.string SY) w') ∧ (convert 26 9 (.slice x4 n4 c4)).run Try.prog w' = .ok (.string SX) w' := fun w' hb =>
    ⟨keep _ (hB4.trans (hb.mono hB4.size)), by rw [← hSX]; exact conv_bytes (hY4.below hb)⟩
  replace hS := keep4 _ (Below.refl _ _)
  refine wpAnyG_read (i := 10) (v := ?_) rfl (by kernel_rfl) (by kernel_rfl) (by kernel_rfl) (fun _ _ _ h => h) (by kernel_rfl) (by kernel_rfl) (by kernel_rfl) hS (by kernel_rfl) ?_ ?_
  rotate_left
  · intro wx hSw; go_split_ands; go_simp; try with_reducible rfl
  simp only [Act.put, List.setIfInBounds_toArray, List.set_cons_zero, List.set_cons_succ]
  refine wpAnyG_one (i := 18) rfl (by kernel_rfl) (by kernel_rfl) (fun K hK => ?_)
  go_wp2_with (go_at_call 7; refine (hx2 _ hB4).mono ?_; rintro e w5 ⟨x5, n5, c5, rfl, hY5, hB5⟩)
  replace hS := keep4 _ hB5
  have hcv : (convert 26 9 (.slice x5 n5 c5)).run Try.prog w5 = .ok (.string SX) w5 := by rw [← hSX]; exact conv_bytes hY5
  clear hSX
  refine hK.out _ _ (fun _ => hS) ?_
  clear hK K
  refine wpAnyG_one (i := 19) rfl (by kernel_rfl) (by kernel_rfl) (fun K hK => ?_)
  go_simp
  refine hK.out _ _ (fun _ => hS) ?_
  clear hK K
  refine wpAnyG_any (i := 20) (v := .bool true) rfl (by kernel_rfl) (by kernel_rfl) (by kernel_rfl) (fun _ _ _ h => h) (by kernel_rfl) (fun _ => hS) (by kernel_rfl) ?_ ?_
  · intro _; go_simp
  simp only [Act.put, List.setIfInBounds_toArray, List.set_cons_zero, List.set_cons_succ]
  refine wpAnyG_any (i := 21) (v := .bool true) rfl (by kernel_rfl) (by kernel_rfl) (by kernel_rfl) (fun _ _ _ h => h) (by kernel_rfl) (fun _ => hS) (by kernel_rfl) ?_ ?_
  · intro _; go_simp
  simp only [Act.put, List.setIfInBounds_toArray, List.set_cons_zero, List.set_cons_succ]
  refine wpAnyG_any (i := 22) (v := .bool true) rfl (by kernel_rfl) (by kernel_rfl) (by kernel_rfl) (fun _ _ _ h => h) (by kernel_rfl) (fun _ => hS) (by kernel_rfl) ?_ ?_
  · intro _; go_simp
  simp only [Act.put, List.setIfInBounds_toArray, List.set_cons_zero, List.set_cons_succ]
  refine wpAnyG_any (i := 23) (v := ?_) rfl (by kernel_rfl) (by kernel_rfl) (by kernel_rfl) (fun _ _ _ h => h) (by kernel_rfl) (fun _ => hS) (by kernel_rfl) ?_ ?_
  rotate_left
  · intro _; go_simp; try with_reducible rfl
  simp only [Act.put, List.setIfInBounds_toArray, List.set_cons_zero, List.set_cons_succ]
  refine wpAnyG_read (i := 24) (v := ?_) rfl (by kernel_rfl) (by kernel_rfl) (by kernel_rfl) (fun _ _ _ h => h) (by kernel_rfl) (by kernel_rfl) (by kernel_rfl) hS (by kernel_rfl) ?_ ?_
  rotate_left
  · intro wx hSw; go_split_ands; go_simp; try with_reducible rfl
  simp only [Act.put, List.setIfInBounds_toArray, List.set_cons_zero, List.set_cons_succ]
  refine wpAnyG_any (i := 25) (v := ?_) rfl (by kernel_rfl) (by kernel_rfl) (by kernel_rfl) (fun _ _ _ h => h) (by kernel_rfl) (fun _ => hS) (by kernel_rfl) ?_ ?_
  rotate_left
  · intro _; go_simp; try with_reducible rfl
  simp only [Act.put, List.setIfInBounds_toArray, List.set_cons_zero, List.set_cons_succ]
  refine wpAnyG_read (i := 26) (v := ?_) rfl (by kernel_rfl) (by kernel_rfl) (by kernel_rfl) (fun _ _ _ h => h) (by kernel_rfl) (by kernel_rfl) (by kernel_rfl) hS (by kernel_rfl) ?_ ?_
  rotate_left
  · intro wx hSw; go_split_ands; go_simp; try with_reducible rfl
  simp only [Act.put, List.setIfInBounds_toArray, List.set_cons_zero, List.set_cons_succ]
  refine wpAnyG_any (i := 27) (v := .bool true) rfl (by kernel_rfl) (by kernel_rfl) (by kernel_rfl) (fun _ _ _ h => h) (by kernel_rfl) (fun _ => hS) (by kernel_rfl) ?_ ?_
  · intro _; go_simp
  simp only [Act.put, List.setIfInBounds_toArray, List.set_cons_zero, List.set_cons_succ]
  refine wpAnyG_any (i := 28) (v := .bool true) rfl (by kernel_rfl) (by kernel_rfl) (by kernel_rfl) (fun _ _ _ h => h) (by kernel_rfl) (fun _ => hS) (by kernel_rfl) ?_ ?_
  · intro _; go_simp
  simp only [Act.put, List.setIfInBounds_toArray, List.set_cons_zero, List.set_cons_succ]
  refine wpAnyG_one (i := 29) rfl (by kernel_rfl) (by kernel_rfl) (fun K hK => ?_)
  go_simp
  refine hK.out _ _ (fun h => absurd (show true = false from h) (by decide)) ?_
  clear hK K
  refine wpAnyG_done (by kernel_rfl) ?_ _
  go_wp2
  go_ret
  have hB15 : Below w1.heap.size w1 w5 := hB4.trans (hB5.mono hB4.size)
  exact ⟨rfl, hB2.trans (hB15.mono hB2.size)⟩
end Go.Proofs.Ytigcndbnlljdlaa
