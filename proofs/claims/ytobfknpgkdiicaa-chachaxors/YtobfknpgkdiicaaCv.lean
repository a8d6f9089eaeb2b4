/- The statement ChachaXors, walked. -/
import Derived.Test.YtobfknpgkdiicaaCj
import Derived.Test.YtobfknpgkdiicaaCz
namespace Go.Proofs.Ytobfknpgkdiicaa
open Go.RowKit
set_option maxRecDepth 20000
set_option linter.unusedSimpArgs false

set_option maxHeartbeats 4000000 in
theorem xors_walk (k n : List Int) (c : Int) (x : Option Addr) (len cap : Nat) (z : List Int) (w : World) (hk : k.length = 32) (hn : n.length = 12) (hc : U32 c) (hz : Bytes w x len cap z) :
    Calls Try.prog 6 #[.agg (askRow k n c), .slice x len cap] w fun e w' => e = .returned (.bool true) ∧ Below w.heap.size w w' := by
  have hf := fun wx h => few_any x len cap 500 z wx h (by omega) (by omega)
  have hz5 := hz.few 500
  obtain ⟨m, hm⟩ : ∃ m, min len 500 = m := ⟨_, rfl⟩
  obtain ⟨y, hy⟩ : ∃ y, z.take 500 = y := ⟨_, rfl⟩
  have hm5 : m ≤ 500 := by omega
  rw [hm] at hf hz5
  rw [hy] at hz5
  clear hm hy
  have hzf : Bytes (w.alloc (.cells (askRow k n c) 37)) x len cap z := hz.below ((Below.refl _ _).alloc (Nat.le_refl _) _)
  have hf0 := hf _ hzf
  have uK := Try.underlying30
  have uN := Try.underlying32
  have iK := sizeKeyM k hk
  have iN := sizeNonceM n hn
  have hmy := hz5.len_eq
  have HMY : Veil (m = y.length) := ⟨hmy⟩
  have hxor : ∀ (x : Option Addr) (len cap : Nat) (wx : World), Bytes wx x len cap y → Calls Try.prog 16 #[.agg (List.map (Value.int .u8) k).toArray, .agg (List.map (Value.int .u8) n).toArray, .int .u32 c, .slice x len cap] wx fun e w' => ∃ g, e = .returned (.slice (some ⟨g, 0, none⟩) len len) ∧ Bytes w' (some ⟨g, 0, none⟩) len len (xorL k n c y) ∧ Below wx.heap.size wx w' := fun x len cap wx h =>
    (xor_any k n c x len cap y wx hk hn hc h (by have := h.len_eq; omega)).mono fun e w' ⟨g, h1, h2, h3, h4⟩ => ⟨g, h1, h3.bytes (by rw [xorL_length]; exact h.len_eq) (by rw [xorL_length, ← hmy]; omega), h4⟩
  have hrx : ∀ (x : Option Addr) (len cap : Nat) (wx : World), Bytes wx x len cap y → Calls Try.prog 17 #[.agg (List.map (Value.int .u8) k).toArray, .agg (List.map (Value.int .u8) n).toArray, .int .u32 c, .slice x len cap] wx fun e w' => ∃ x' n' c', e = .returned (.slice x' n' c') ∧ Bytes w' x' n' c' (xorL k n c y) ∧ Below wx.heap.size wx w' := fun x len cap wx h =>
    (refXor_any k n c x len cap y wx hk hn h (by have := h.len_eq; omega)).mono fun e w' ⟨v, h1, h2, h3⟩ => by
      obtain ⟨x', n', c', rfl, _⟩ := h2.isSlice
      exact ⟨x', n', c', h1, h2.bytes.2, h3⟩
  have hA0 := AskAt.new w k n c
  have hz0 : Bytes (w.alloc (.cells (askRow k n c) 37)) x m cap y := hz5.below ((Below.refl _ _).alloc (Nat.le_refl _) _)
  have hB0 : Below w.heap.size w (w.alloc (.cells (askRow k n c) 37)) := (Below.refl _ _).alloc (Nat.le_refl _) _
  clear hf hz hz5 hzf hmy
  go_enter Try.func6, Try.ntmps6
  go_upto_region 2 with (go_at_call 15; refine hf0.mono ?_; rintro e w' ⟨rfl, rfl⟩)
  obtain ⟨W0, hW0⟩ : ∃ W, w.alloc (.cells (askRow k n c) 37) = W := ⟨_, rfl⟩
  rw [hW0] at hA0 hz0 hB0 ⊢
  clear hW0 hf0
  have hE0 : OwnB (W0.alloc (.cells #[] 5)) W0.heap.size (.slice (some ⟨W0.heap.size, 0, none⟩) 0 0) [] := OwnB.ofHolds (Holds.new W0 .u8 5 []) (Nat.le_refl _) (by simp)
  have hz1 : Bytes (W0.alloc (.cells #[] 5)) x m cap y := hz0.below ((Below.refl _ _).alloc (Nat.le_refl _) _)
  go_upto_region 3 with (at_builtin; refine wpList_app rfl _ _ rfl W0.heap.size _ [] rfl hE0 x m cap y rfl hz1 (by simp; omega) (by simp) ?_; intro v1 w1 ho1 hg1)
  have hB1 : Below W0.heap.size W0 w1 := below_grown ((Below.refl _ _).alloc (Nat.le_refl _) _) hE0 hg1 (by simp)
  rw [List.nil_append] at ho1
  obtain ⟨x1, n1, c1, rfl, hn1⟩ := ho1.isSlice
  have hy1 : Bytes w1 x1 n1 c1 y := ho1.bytes.2
  clear hn1 ho1 hg1 hE0 hz1
  have hzy : Bytes w1 x m cap y := hz0.below hB1
  obtain ⟨SY, hSY⟩ : ∃ s, strOfNums y = s := ⟨_, rfl⟩
  obtain ⟨ZZ, hZZ⟩ : ∃ s, xorL k n c y = s := ⟨_, rfl⟩
  rw [hZZ] at hxor hrx
  obtain ⟨SX, hSX⟩ : ∃ s, strOfNums ZZ = s := ⟨_, rfl⟩
  have hA1 : AskAt w1 w.heap.size k n c := hA0.below hB1 hA0.lt
  have keep : ∀ w', Below w1.heap.size w1 w' → w'.rangeAt w.heap.size 0 (k.map (Value.int .u8)) ∧ w'.rangeAt w.heap.size 32 (n.map (Value.int .u8)) ∧ w'.cell? ⟨w.heap.size, 44, none⟩ = some (.int .u32 c) ∧ (convert 38 9 (.slice x1 n1 c1)).run Try.prog w' = .ok (.string SY) w' ∧ (convert 38 9 (.slice x m cap)).run Try.prog w' = .ok (.string SY) w' := fun w' hb => by
    have hA' := hA1.below hb hA1.lt
    exact ⟨hA'.key, hA'.nonce hk, hA'.count hk hn, by rw [← hSY]; exact conv_bytes (hy1.below hb), by rw [← hSY]; exact conv_bytes (hzy.below hb)⟩
  have hx1 : ∀ wx, Below w1.heap.size w1 wx → Calls Try.prog 16 #[.agg (List.map (Value.int .u8) k).toArray, .agg (List.map (Value.int .u8) n).toArray, .int .u32 c, .slice x1 n1 c1] wx fun e w' => ∃ g, e = .returned (.slice (some ⟨g, 0, none⟩) n1 n1) ∧ Bytes w' (some ⟨g, 0, none⟩) n1 n1 ZZ ∧ Below wx.heap.size wx w' := fun wx hx => hxor x1 n1 c1 wx (hy1.below hx)
  have hx2 : ∀ wx, Below w1.heap.size w1 wx → Calls Try.prog 17 #[.agg (List.map (Value.int .u8) k).toArray, .agg (List.map (Value.int .u8) n).toArray, .int .u32 c, .slice x m cap] wx fun e w' => ∃ x' n' c', e = .returned (.slice x' n' c') ∧ Bytes w' x' n' c' ZZ ∧ Below wx.heap.size wx w' := fun wx hx => hrx x m cap wx (hzy.below hx)
  clear hZZ hxor hrx hz0 hA0 hA1 hy1 hzy hSY
  refine wp_region_gate (fun w' => w'.rangeAt w.heap.size 0 (k.map (Value.int .u8)) ∧ w'.rangeAt w.heap.size 32 (n.map (Value.int .u8)) ∧ w'.cell? ⟨w.heap.size, 44, none⟩ = some (.int .u32 c) ∧ (convert 38 9 (.slice x1 n1 c1)).run Try.prog w' = .ok (.string SY) w' ∧ (convert 38 9 (.slice x m cap)).run Try.prog w' = .ok (.string SY) w') 29 (by kernel_rfl) ?_
  have hS := keep _ (Below.refl _ _).drew
  refine wpAnyG_one (i := 0) rfl (by kernel_rfl) (by kernel_rfl) (fun K hK => ?_)
  go_wp2_with (go_at_call 11; refine (live_any _).mono ?_; rintro e w3 ⟨rfl, rfl⟩)
  refine hK.out _ _ (fun _ => hS) ?_
  clear hK K
  refine wpAnyG_any (i := 1) (v := ?_) rfl (by kernel_rfl) (by kernel_rfl) (by kernel_rfl) (fun _ _ _ h => h) (by kernel_rfl) (fun _ => hS) (by kernel_rfl) ?_ ?_
  rotate_left
  · intro _; go_simp; try with_reducible rfl
  simp only [Act.put, List.setIfInBounds_toArray, List.set_cons_zero, List.set_cons_succ]
  refine wpAnyG_any (i := 2) (v := ?_) rfl (by kernel_rfl) (by kernel_rfl) (by kernel_rfl) (fun _ _ _ h => h) (by kernel_rfl) (fun _ => hS) (by kernel_rfl) ?_ ?_
  rotate_left
  · intro _; go_simp; try with_reducible rfl
  simp only [Act.put, List.setIfInBounds_toArray, List.set_cons_zero, List.set_cons_succ]
  refine wpAnyG_load (i := 3) (dst := some 14) (ty := 30) (x := .tmp 13) (b := w.heap.size) (o := 0) (cs := (k.map (Value.int .u8))) (by kernel_rfl) (by kernel_rfl) (by kernel_rfl) (by kernel_rfl) (by kernel_rfl) (fun _ _ _ h => h) (by kernel_rfl) (by kernel_rfl) (by kernel_rfl) hS (by kernel_rfl) (fun _ h => h.1) uK rfl iK ?_
  simp only [Act.put, List.setIfInBounds_toArray, List.set_cons_zero, List.set_cons_succ]
  refine wpAnyG_any (i := 4) (v := ?_) rfl (by kernel_rfl) (by kernel_rfl) (by kernel_rfl) (fun _ _ _ h => h) (by kernel_rfl) (fun _ => hS) (by kernel_rfl) ?_ ?_
  rotate_left
  · intro _; go_simp; try with_reducible rfl
  simp only [Act.put, List.setIfInBounds_toArray, List.set_cons_zero, List.set_cons_succ]
  refine wpAnyG_load (i := 5) (dst := some 16) (ty := 32) (x := .tmp 15) (b := w.heap.size) (o := 32) (cs := (n.map (Value.int .u8))) (by kernel_rfl) (by kernel_rfl) (by kernel_rfl) (by kernel_rfl) (by kernel_rfl) (fun _ _ _ h => h) (by kernel_rfl) (by kernel_rfl) (by kernel_rfl) hS (by kernel_rfl) (fun _ h => h.2.1) uN rfl iN ?_
  simp only [Act.put, List.setIfInBounds_toArray, List.set_cons_zero, List.set_cons_succ]
  refine wpAnyG_any (i := 6) (v := ?_) rfl (by kernel_rfl) (by kernel_rfl) (by kernel_rfl) (fun _ _ _ h => h) (by kernel_rfl) (fun _ => hS) (by kernel_rfl) ?_ ?_
  rotate_left
  · intro _; go_simp; try with_reducible rfl
  simp only [Act.put, List.setIfInBounds_toArray, List.set_cons_zero, List.set_cons_succ]
  refine wpAnyG_read (i := 7) (v := ?_) rfl (by kernel_rfl) (by kernel_rfl) (by kernel_rfl) (fun _ _ _ h => h) (by kernel_rfl) (by kernel_rfl) (by kernel_rfl) hS (by kernel_rfl) ?_ ?_
  rotate_left
  · intro wx hSw; go_split_ands; go_simp; try with_reducible rfl
  simp only [Act.put, List.setIfInBounds_toArray, List.set_cons_zero, List.set_cons_succ]
  refine wpAnyG_any (i := 8) (v := ?_) rfl (by kernel_rfl) (by kernel_rfl) (by kernel_rfl) (fun _ _ _ h => h) (by kernel_rfl) (fun _ => hS) (by kernel_rfl) ?_ ?_
  rotate_left
  · intro _; go_simp; try with_reducible rfl
  simp only [Act.put, List.setIfInBounds_toArray, List.set_cons_zero, List.set_cons_succ]
  refine wpAnyG_any (i := 11) (v := ?_) rfl (by kernel_rfl) (by kernel_rfl) (by kernel_rfl) (fun _ _ _ h => h) (by kernel_rfl) (fun _ => hS) (by kernel_rfl) ?_ ?_
  rotate_left
  · intro _; go_simp; try with_reducible rfl
  simp only [Act.put, List.setIfInBounds_toArray, List.set_cons_zero, List.set_cons_succ]
  refine wpAnyG_load (i := 12) (dst := some 23) (ty := 30) (x := .tmp 22) (b := w.heap.size) (o := 0) (cs := (k.map (Value.int .u8))) (by kernel_rfl) (by kernel_rfl) (by kernel_rfl) (by kernel_rfl) (by kernel_rfl) (fun _ _ _ h => h) (by kernel_rfl) (by kernel_rfl) (by kernel_rfl) hS (by kernel_rfl) (fun _ h => h.1) uK rfl iK ?_
  simp only [Act.put, List.setIfInBounds_toArray, List.set_cons_zero, List.set_cons_succ]
  refine wpAnyG_any (i := 13) (v := ?_) rfl (by kernel_rfl) (by kernel_rfl) (by kernel_rfl) (fun _ _ _ h => h) (by kernel_rfl) (fun _ => hS) (by kernel_rfl) ?_ ?_
  rotate_left
  · intro _; go_simp; try with_reducible rfl
  simp only [Act.put, List.setIfInBounds_toArray, List.set_cons_zero, List.set_cons_succ]
  refine wpAnyG_load (i := 14) (dst := some 25) (ty := 32) (x := .tmp 24) (b := w.heap.size) (o := 32) (cs := (n.map (Value.int .u8))) (by kernel_rfl) (by kernel_rfl) (by kernel_rfl) (by kernel_rfl) (by kernel_rfl) (fun _ _ _ h => h) (by kernel_rfl) (by kernel_rfl) (by kernel_rfl) hS (by kernel_rfl) (fun _ h => h.2.1) uN rfl iN ?_
  simp only [Act.put, List.setIfInBounds_toArray, List.set_cons_zero, List.set_cons_succ]
  refine wpAnyG_any (i := 15) (v := ?_) rfl (by kernel_rfl) (by kernel_rfl) (by kernel_rfl) (fun _ _ _ h => h) (by kernel_rfl) (fun _ => hS) (by kernel_rfl) ?_ ?_
  rotate_left
  · intro _; go_simp; try with_reducible rfl
  simp only [Act.put, List.setIfInBounds_toArray, List.set_cons_zero, List.set_cons_succ]
  refine wpAnyG_read (i := 16) (v := ?_) rfl (by kernel_rfl) (by kernel_rfl) (by kernel_rfl) (fun _ _ _ h => h) (by kernel_rfl) (by kernel_rfl) (by kernel_rfl) hS (by kernel_rfl) ?_ ?_
  rotate_left
  · intro wx hSw; go_split_ands; go_simp; try with_reducible rfl
  simp only [Act.put, List.setIfInBounds_toArray, List.set_cons_zero, List.set_cons_succ]
  refine wpAnyG_any (i := 17) (v := ?_) rfl (by kernel_rfl) (by kernel_rfl) (by kernel_rfl) (fun _ _ _ h => h) (by kernel_rfl) (fun _ => hS) (by kernel_rfl) ?_ ?_
  rotate_left
  · intro _; go_simp; try with_reducible rfl
  simp only [Act.put, List.setIfInBounds_toArray, List.set_cons_zero, List.set_cons_succ]
  refine wpAnyG_one (i := 9) rfl (by kernel_rfl) (by kernel_rfl) (fun K hK => ?_)
  go_wp2_with (go_at_call 16; refine (hx1 _ (Below.refl _ _).drew).mono ?_; rintro e w4 ⟨g4, rfl, hY4, hb4⟩)
  have hB4 : Below w1.heap.size w1 w4 := ((Below.refl _ _).drew).trans hb4
  replace hS := keep _ hB4
  refine hK.out _ _ (fun _ => hS) ?_
  clear hK K
  refine wpAnyG_more (S' := fun w' => (w'.rangeAt w.heap.size 0 (k.map (Value.int .u8)) ∧ w'.rangeAt w.heap.size 32 (n.map (Value.int .u8)) ∧ w'.cell? ⟨w.heap.size, 44, none⟩ = some (.int .u32 c) ∧ (convert 38 9 (.slice x1 n1 c1)).run Try.prog w' = .ok (.string SY) w' ∧ (convert 38 9 (.slice x m cap)).run Try.prog w' = .ok (.string SY) w') ∧ (convert 38 9 (.slice (some ⟨g4, 0, none⟩) n1 n1)).run Try.prog w' = .ok (.string SX) w') (fun _ h => h.1) _ _ _ _ ?_
  have keep4 : ∀ w', Below w4.heap.size w4 w' → (w'.rangeAt w.heap.size 0 (k.map (Value.int .u8)) ∧ w'.rangeAt w.heap.size 32 (n.map (Value.int .u8)) ∧ w'.cell? ⟨w.heap.size, 44, none⟩ = some (.int .u32 c) ∧ (convert 38 9 (.slice x1 n1 c1)).run Try.prog w' = .ok (.string SY) w' ∧ (convert 38 9 (.slice x m cap)).run Try.prog w' = .ok (.string SY) w') ∧ (convert 38 9 (.slice (some ⟨g4, 0, none⟩) n1 n1)).run Try.prog w' = .ok (.string SX) w' := fun w' hb =>
    ⟨keep _ (hB4.trans (hb.mono hB4.size)), by rw [← hSX]; exact conv_bytes (hY4.below hb)⟩
  replace hS := keep4 _ (Below.refl _ _)
  refine wpAnyG_read (i := 10) (v := ?_) rfl (by kernel_rfl) (by kernel_rfl) (by kernel_rfl) (fun _ _ _ h => h) (by kernel_rfl) (by kernel_rfl) (by kernel_rfl) hS (by kernel_rfl) ?_ ?_
  rotate_left
  · intro wx hSw; go_split_ands; go_simp; try with_reducible rfl
  simp only [Act.put, List.setIfInBounds_toArray, List.set_cons_zero, List.set_cons_succ]
  refine wpAnyG_one (i := 18) rfl (by kernel_rfl) (by kernel_rfl) (fun K hK => ?_)
  go_wp2_with (go_at_call 17; refine (hx2 _ hB4).mono ?_; rintro e w5 ⟨x5, n5, c5, rfl, hY5, hB5⟩)
  replace hS := keep4 _ hB5
  have hcv : (convert 38 9 (.slice x5 n5 c5)).run Try.prog w5 = .ok (.string SX) w5 := by rw [← hSX]; exact conv_bytes hY5
  clear hSX
  refine hK.out _ _ (fun _ => hS) ?_
  clear hK K
  refine wpAnyG_one (i := 19) rfl (by kernel_rfl) (by kernel_rfl) (fun K hK => ?_)
  go_simp
  refine hK.out _ _ (fun _ => hS) ?_
  clear hK K
  refine wpAnyG_any (i := 20) (v := .bool true) rfl (by kernel_rfl) (by kernel_rfl) (by kernel_rfl) (fun _ _ _ h => h) (by kernel_rfl) (fun _ => hS) (by kernel_rfl) ?_ ?_
  · intro _; go_simp
  simp only [Act.put, List.setIfInBounds_toArray, List.set_cons_zero, List.set_cons_succ]
  refine wpAnyG_any (i := 21) (v := .bool true) rfl (by kernel_rfl) (by kernel_rfl) (by kernel_rfl) (fun _ _ _ h => h) (by kernel_rfl) (fun _ => hS) (by kernel_rfl) ?_ ?_
  · intro _; go_simp
  simp only [Act.put, List.setIfInBounds_toArray, List.set_cons_zero, List.set_cons_succ]
  refine wpAnyG_any (i := 22) (v := .bool true) rfl (by kernel_rfl) (by kernel_rfl) (by kernel_rfl) (fun _ _ _ h => h) (by kernel_rfl) (fun _ => hS) (by kernel_rfl) ?_ ?_
  · intro _; go_simp
  simp only [Act.put, List.setIfInBounds_toArray, List.set_cons_zero, List.set_cons_succ]
  refine wpAnyG_any (i := 23) (v := ?_) rfl (by kernel_rfl) (by kernel_rfl) (by kernel_rfl) (fun _ _ _ h => h) (by kernel_rfl) (fun _ => hS) (by kernel_rfl) ?_ ?_
  rotate_left
  · intro _; go_simp; try with_reducible rfl
  simp only [Act.put, List.setIfInBounds_toArray, List.set_cons_zero, List.set_cons_succ]
  refine wpAnyG_read (i := 24) (v := ?_) rfl (by kernel_rfl) (by kernel_rfl) (by kernel_rfl) (fun _ _ _ h => h) (by kernel_rfl) (by kernel_rfl) (by kernel_rfl) hS (by kernel_rfl) ?_ ?_
  rotate_left
  · intro wx hSw; go_split_ands; go_simp; try with_reducible rfl
  simp only [Act.put, List.setIfInBounds_toArray, List.set_cons_zero, List.set_cons_succ]
  refine wpAnyG_any (i := 25) (v := ?_) rfl (by kernel_rfl) (by kernel_rfl) (by kernel_rfl) (fun _ _ _ h => h) (by kernel_rfl) (fun _ => hS) (by kernel_rfl) ?_ ?_
  rotate_left
  · intro _; go_simp; try with_reducible rfl
  simp only [Act.put, List.setIfInBounds_toArray, List.set_cons_zero, List.set_cons_succ]
  refine wpAnyG_read (i := 26) (v := ?_) rfl (by kernel_rfl) (by kernel_rfl) (by kernel_rfl) (fun _ _ _ h => h) (by kernel_rfl) (by kernel_rfl) (by kernel_rfl) hS (by kernel_rfl) ?_ ?_
  rotate_left
  · intro wx hSw; go_split_ands; go_simp; try with_reducible rfl
  simp only [Act.put, List.setIfInBounds_toArray, List.set_cons_zero, List.set_cons_succ]
  refine wpAnyG_any (i := 27) (v := .bool true) rfl (by kernel_rfl) (by kernel_rfl) (by kernel_rfl) (fun _ _ _ h => h) (by kernel_rfl) (fun _ => hS) (by kernel_rfl) ?_ ?_
  · intro _; go_simp
  simp only [Act.put, List.setIfInBounds_toArray, List.set_cons_zero, List.set_cons_succ]
  refine wpAnyG_any (i := 28) (v := .bool true) rfl (by kernel_rfl) (by kernel_rfl) (by kernel_rfl) (fun _ _ _ h => h) (by kernel_rfl) (fun _ => hS) (by kernel_rfl) ?_ ?_
  · intro _; go_simp
  simp only [Act.put, List.setIfInBounds_toArray, List.set_cons_zero, List.set_cons_succ]
  refine wpAnyG_one (i := 29) rfl (by kernel_rfl) (by kernel_rfl) (fun K hK => ?_)
  go_simp
  refine hK.out _ _ (fun h => absurd (show true = false from h) (by decide)) ?_
  clear hK K
  refine wpAnyG_done (by kernel_rfl) ?_ _
  go_wp2
  go_ret
  have hB15 : Below w1.heap.size w1 w5 := hB4.trans (hB5.mono hB4.size)
  exact ⟨rfl, hB0.trans ((hB1.trans (hB15.mono hB1.size)).mono hB0.size)⟩
end Go.Proofs.Ytobfknpgkdiicaa
