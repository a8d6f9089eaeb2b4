/- The statement ChachaZeros, walked. -/
import Derived.Test.YtobfknpgkdiicabCt
namespace Go.Proofs.Ytobfknpgkdiicab
open Go.RowKit
set_option maxRecDepth 20000
set_option linter.unusedSimpArgs false

theorem Holds.part {w : World} {g : Nat} {t : TypeId} {l : List Int} (h : Holds w g .u8 t l) (o m cap : Nat) (ho : o + m ≤ l.length) (hm : m ≤ cap) (hc : cap ≤ 1000000) : Bytes w (some ⟨g, o, none⟩) m cap ((l.drop o).take m) :=
  ⟨by rw [List.length_take, List.length_drop]; omega, hm, by omega, (fun h => by cases h), .inr ⟨g, o, rfl, fun j hj => by
    rw [List.getElem?_take_of_lt hj, List.getElem?_drop]
    exact h.cell (o + j) (by omega)⟩⟩
theorem zeros_take (k n : List Int) (c : Int) (hc : U32 c) : (xorL k n c (List.replicate 100 0)).take 64 = blockL k n c := by
  have hb := blockL_length k n c
  refine getD_ext (by rw [List.length_take, xorL_length, List.length_replicate, hb]; rfl) fun i hi => ?_
  rw [List.length_take, xorL_length, List.length_replicate] at hi
  have hi' : i < 64 := by omega
  rw [List.getElem?_take_of_lt hi', xorL_get _ _ _ _ _ (by rw [List.length_replicate]; omega), List.getElem?_replicate, if_pos (by omega)]
  show bits .xor .u8 0 _ = _
  rw [xor_zero8 (strm_u8 _ _ _ _)]
  unfold strm
  rw [show i / 64 = 0 by omega, show i % 64 = i by omega]
  have : (c + ((0 : Nat) : Int)) % 4294967296 = c := by have := hc.1; have := hc.2; omega
  rw [this]
theorem zeros_drop (k n : List Int) (c : Int) : (xorL k n c (List.replicate 100 0)).drop 64 = (blockL k n ((c + 1) % 4294967296)).take 36 := by
  have hb := blockL_length k n ((c + 1) % 4294967296)
  refine getD_ext (by rw [List.length_drop, xorL_length, List.length_replicate, List.length_take, hb]; rfl) fun i hi => ?_
  rw [List.length_drop, xorL_length, List.length_replicate] at hi
  have hi' : i < 36 := by omega
  rw [List.getElem?_drop, xorL_get _ _ _ _ _ (by rw [List.length_replicate]; omega), List.getElem?_replicate, if_pos (by omega), List.getElem?_take_of_lt hi']
  show bits .xor .u8 0 _ = _
  rw [xor_zero8 (strm_u8 _ _ _ _)]
  unfold strm
  rw [show (64 + i) / 64 = 1 by omega, show (64 + i) % 64 = i by omega]
  rfl

set_option maxHeartbeats 4000000 in
theorem zeros_walk (k n : List Int) (c : Int) (w : World) (hk : k.length = 32) (hn : n.length = 12) (hc : U32 c) :
    Calls Try.prog 3 #[.agg (askRow k n c)] w fun e w' => e = .returned (.bool true) ∧ Below w.heap.size w w' := by
  have hmk : ∀ wx : World, (Instr.makeSlice 29 (.int .i64 100) (.int .i64 100)).run Try.prog wx = .ok (.slice (some ⟨wx.heap.size, 0, none⟩) 100 100) (wx.alloc (.cells (row .u8 (List.replicate 100 0)) 5)) := fun wx => by
    have := run_make_row' (P := Try.prog) 29 5 (.int .u8 0) 1 Try.underlying29 infoU8 rfl .i64 .i64 100 (by omega) (by omega) wx
    rw [made_row] at this
    exact this
  have uK := Try.underlying23
  have uN := Try.underlying25
  have iK := sizeKeyM k hk
  have iN := sizeNonceM n hn
  have hxor : ∀ (x : Option Addr) (wx : World), Bytes wx x 100 100 (List.replicate 100 0) → Calls Try.prog 9 #[.agg (List.map (Value.int .u8) k).toArray, .agg (List.map (Value.int .u8) n).toArray, .int .u32 c, .slice x 100 100] wx fun e w' => ∃ g, e = .returned (.slice (some ⟨g, 0, none⟩) 100 100) ∧ wx.heap.size ≤ g ∧ Holds w' g .u8 5 (xorL k n c (List.replicate 100 0)) ∧ Below wx.heap.size wx w' := fun x wx h =>
    xor_any k n c x 100 100 (List.replicate 100 0) wx hk hn hc h (by omega)
  have hxl : (xorL k n c (List.replicate 100 0)).length = 100 := by rw [xorL_length, List.length_replicate]
  have hx1 := zeros_take k n c hc
  have hx2 := zeros_drop k n c
  have hb1 : ∀ wx, Calls Try.prog 10 #[.agg (List.map (Value.int .u8) k).toArray, .agg (List.map (Value.int .u8) n).toArray, .int .u32 c] wx fun e w' => e = .returned (.agg (row .u8 (blockL k n c))) ∧ Below wx.heap.size wx w' := fun wx => block_any k n c wx hk hn
  have hb2 : ∀ wx, Calls Try.prog 10 #[.agg (List.map (Value.int .u8) k).toArray, .agg (List.map (Value.int .u8) n).toArray, .int .u32 ((c + 1) % 4294967296)] wx fun e w' => e = .returned (.agg (row .u8 (blockL k n ((c + 1) % 4294967296)))) ∧ Below wx.heap.size wx w' := fun wx => block_any k n ((c + 1) % 4294967296) wx hk hn
  have hl1 := blockL_length k n c
  have hl2 := blockL_length k n ((c + 1) % 4294967296)
  obtain ⟨B1, hB1e⟩ : ∃ B, blockL k n c = B := ⟨_, rfl⟩
  obtain ⟨B2, hB2e⟩ : ∃ B, blockL k n ((c + 1) % 4294967296) = B := ⟨_, rfl⟩
  obtain ⟨XL, hXLe⟩ : ∃ B, xorL k n c (List.replicate 100 0) = B := ⟨_, rfl⟩
  rw [hB1e] at hb1 hl1 hx1
  rw [hB2e] at hb2 hl2 hx2
  rw [hXLe] at hxor hxl hx1 hx2
  have HX1 : Veil (XL.take 64 = B1) := ⟨hx1⟩
  have HX2 : Veil (XL.drop 64 = B2.take 36) := ⟨hx2⟩
  clear hB1e hB2e hXLe hx1 hx2
  have hA0 := AskAt.new w k n c
  have hB0 : Below w.heap.size w (w.alloc (.cells (askRow k n c) 28)) := (Below.refl _ _).alloc (Nat.le_refl _) _
  go_enter Try.func3, Try.ntmps3
  go_upto_region 1 with fail
  obtain ⟨W0, hW0⟩ : ∃ W, w.alloc (.cells (askRow k n c) 28) = W := ⟨_, rfl⟩
  rw [hW0] at hA0 hB0 ⊢
  clear hW0
  have keep0 : ∀ w', Below W0.heap.size W0 w' → w'.rangeAt w.heap.size 0 (k.map (Value.int .u8)) ∧ w'.rangeAt w.heap.size 32 (n.map (Value.int .u8)) ∧ w'.cell? ⟨w.heap.size, 44, none⟩ = some (.int .u32 c) := fun w' hb => by
    have hA' := hA0.below hb hA0.lt
    exact ⟨hA'.key, hA'.nonce hk, hA'.count hk hn⟩
  refine wp_region_gate (fun w' => w'.rangeAt w.heap.size 0 (k.map (Value.int .u8)) ∧ w'.rangeAt w.heap.size 32 (n.map (Value.int .u8)) ∧ w'.cell? ⟨w.heap.size, 44, none⟩ = some (.int .u32 c)) 8 (by kernel_rfl) ?_
  have hS := keep0 _ (Below.refl _ _).drew
  refine wpAnyG_any (i := 0) (v := ?_) rfl (by kernel_rfl) (by kernel_rfl) (by kernel_rfl) (fun _ _ _ h => h) (by kernel_rfl) (fun _ => hS) (by kernel_rfl) ?_ ?_
  rotate_left
  · intro _; go_simp; try with_reducible rfl
  simp only [Act.put, List.setIfInBounds_toArray, List.set_cons_zero, List.set_cons_succ]
  refine wpAnyG_load (i := 1) (dst := some 7) (ty := 23) (x := .tmp 6) (b := w.heap.size) (o := 0) (cs := (k.map (Value.int .u8))) (by kernel_rfl) (by kernel_rfl) (by kernel_rfl) (by kernel_rfl) (by kernel_rfl) (fun _ _ _ h => h) (by kernel_rfl) (by kernel_rfl) (by kernel_rfl) hS (by kernel_rfl) (fun _ h => h.1) uK rfl iK ?_
  simp only [Act.put, List.setIfInBounds_toArray, List.set_cons_zero, List.set_cons_succ]
  refine wpAnyG_any (i := 2) (v := ?_) rfl (by kernel_rfl) (by kernel_rfl) (by kernel_rfl) (fun _ _ _ h => h) (by kernel_rfl) (fun _ => hS) (by kernel_rfl) ?_ ?_
  rotate_left
  · intro _; go_simp; try with_reducible rfl
  simp only [Act.put, List.setIfInBounds_toArray, List.set_cons_zero, List.set_cons_succ]
  refine wpAnyG_load (i := 3) (dst := some 9) (ty := 25) (x := .tmp 8) (b := w.heap.size) (o := 32) (cs := (n.map (Value.int .u8))) (by kernel_rfl) (by kernel_rfl) (by kernel_rfl) (by kernel_rfl) (by kernel_rfl) (fun _ _ _ h => h) (by kernel_rfl) (by kernel_rfl) (by kernel_rfl) hS (by kernel_rfl) (fun _ h => h.2.1) uN rfl iN ?_
  simp only [Act.put, List.setIfInBounds_toArray, List.set_cons_zero, List.set_cons_succ]
  refine wpAnyG_any (i := 4) (v := ?_) rfl (by kernel_rfl) (by kernel_rfl) (by kernel_rfl) (fun _ _ _ h => h) (by kernel_rfl) (fun _ => hS) (by kernel_rfl) ?_ ?_
  rotate_left
  · intro _; go_simp; try with_reducible rfl
  simp only [Act.put, List.setIfInBounds_toArray, List.set_cons_zero, List.set_cons_succ]
  refine wpAnyG_read (i := 5) (v := ?_) rfl (by kernel_rfl) (by kernel_rfl) (by kernel_rfl) (fun _ _ _ h => h) (by kernel_rfl) (by kernel_rfl) (by kernel_rfl) hS (by kernel_rfl) ?_ ?_
  rotate_left
  · intro wx hSw; go_split_ands; go_simp; try with_reducible rfl
  simp only [Act.put, List.setIfInBounds_toArray, List.set_cons_zero, List.set_cons_succ]
  refine wpAnyG_one (i := 6) rfl (by kernel_rfl) (by kernel_rfl) (fun K hK => ?_)
  go_simp
  have hBm : Below W0.heap.size W0 (W0.drew.alloc (.cells (row .u8 (List.replicate 100 0)) 5)) := (Below.refl _ _).drew.alloc (by simp) _
  have hMz : Bytes (W0.drew.alloc (.cells (row .u8 (List.replicate 100 0)) 5)) (some ⟨W0.heap.size, 0, none⟩) 100 100 (List.replicate 100 0) := (Holds.new W0.drew .u8 5 (List.replicate 100 0)).bytes (by simp) (by simp)
  replace hS := keep0 _ hBm
  refine hK.out _ _ (fun _ => hS) ?_
  clear hK K
  refine wpAnyG_one (i := 7) rfl (by kernel_rfl) (by kernel_rfl) (fun K hK => ?_)
  go_wp2_with (go_at_call 9; refine (hxor _ _ hMz).mono ?_; rintro e w1 ⟨g, rfl, hg, hX1, hb1x⟩)
  have hBx : Below W0.heap.size W0 w1 := hBm.trans (hb1x.mono (by simp))
  replace hS := keep0 _ hBx
  refine hK.out _ _ (fun _ => hS) ?_
  clear hK K
  refine wpAnyG_one (i := 8) rfl (by kernel_rfl) (by kernel_rfl) (fun K hK => ?_)
  go_simp
  refine hK.out _ _ (fun h => absurd (show true = false from h) (by decide)) ?_
  clear hK K
  refine wpAnyG_done (by kernel_rfl) ?_ _
  clear hS hMz hBm hb1x hmk hxor
  have hg0 : W0.heap.size ≤ g := by simp at hg; omega
  have hgw := hX1.lt
  obtain ⟨ck, cn, cc⟩ := keep0 w1 hBx
  go_upto_region 3 with (first
    | (refine wpList_load_mid rfl 23 _ rfl _ _ rfl _ _ ck uK rfl iK ?_)
    | (refine wpList_load_mid rfl 25 _ rfl _ _ rfl _ _ cn uN rfl iN ?_)
    | (go_at_call 10; refine (hb1 _).mono ?_; rintro e w2 ⟨rfl, hb2x⟩; have hF0 := Holds.new w2 .u8 31 (List.replicate 64 0))
    | (refine wpList_st rfl 31 _ _ rfl _ rfl rfl hF0 (by rw [hl1]; exact size64) (by simp [hl1]) ?_))
  have hsz2 := hb2x.size
  refine forget (p := fun y => Code.wp _ _ _ _ y) (fun W3 => Below W0.heap.size W0 W3 ∧ W3.heap.size = w2.heap.size + 1 ∧ Holds W3 g .u8 5 XL ∧ Holds W3 w2.heap.size .u8 31 B1) ⟨below_setRow ((hBx.trans (hb2x.mono hBx.size)).alloc (by have := hBx.size; omega) _) (by have := hBx.size; omega) _, by simp, ((hX1.below hb2x hgw).alloc _).setRowOther _ (by omega), hF0.setRow _⟩ ?_
  clear hF0 ck cn cc hX1 hBx hb2x hb1 hg
  rintro W3 ⟨hB3, hs3, hX3, hF3⟩
  simp only [Act.put]
  obtain ⟨ck, cn, cc⟩ := keep0 W3 hB3
  have hwc : IntKind.u32.wrap (c + 1) = (c + 1) % 4294967296 := by simp [IntKind.wrap, IntKind.bits, IntKind.signed]
  obtain ⟨P1, hP1⟩ : ∃ p, w2.heap.size = p := ⟨_, rfl⟩
  rw [hP1] at hs3 hF3 ⊢
  have hgP : g < P1 := by omega
  clear hP1 hsz2 hgw
  go_upto_region 4 with (first
    | (refine wpList_load_mid rfl 23 _ rfl _ _ rfl _ _ ck uK rfl iK ?_)
    | (refine wpList_load_mid rfl 25 _ rfl _ _ rfl _ _ cn uN rfl iN ?_)
    | (go_at_call 10; refine (hb2 _).mono ?_; rintro e w4 ⟨rfl, hb4x⟩; have hG0 := Holds.new w4 .u8 31 (List.replicate 64 0))
    | (refine wpList_st rfl 31 _ _ rfl _ rfl rfl hG0 (by rw [hl2]; exact size64) (by simp [hl2]) ?_))
  have hsz4 := hb4x.size
  refine forget (p := fun y => Code.wp _ _ _ _ y) (fun W5 => Below W0.heap.size W0 W5 ∧ Holds W5 g .u8 5 XL ∧ Holds W5 P1 .u8 31 B1 ∧ Holds W5 w4.heap.size .u8 31 B2) ⟨below_setRow ((hB3.trans (hb4x.mono hB3.size)).alloc (by have := hB3.size; omega) _) (by have := hB3.size; omega) _, ((hX3.below hb4x hX3.lt).alloc _).setRowOther _ (by have := hX3.lt; omega), ((hF3.below hb4x hF3.lt).alloc _).setRowOther _ (by have := hF3.lt; omega), hG0.setRow _⟩ ?_
  clear hG0 ck cn cc hX3 hF3 hB3 hb4x hb2
  rintro W5 ⟨hB5, hX5, hF5, hG5⟩
  simp only [Act.put]
  obtain ⟨SA, hSA⟩ : ∃ s, strOfNums B1 = s := ⟨_, rfl⟩
  obtain ⟨SB, hSB⟩ : ∃ s, strOfNums (B2.take 36) = s := ⟨_, rfl⟩
  have y1 : Bytes W5.drew (some ⟨g, 0, none⟩) 64 100 B1 := by
    have := hX5.drew.part 0 64 100 (by omega) (by omega) (by omega)
    rw [List.drop_zero, HX1.out] at this
    exact this
  have y2 : Bytes W5.drew (some ⟨P1, 0, none⟩) 64 64 B1 := hF5.drew.bytes hl1.symm (by omega)
  have y3 : Bytes W5.drew (some ⟨g, 64, none⟩) 36 36 (B2.take 36) := by
    have := hX5.drew.part 64 36 36 (by omega) (by omega) (by omega)
    rw [HX2.out, List.take_of_length_le (by rw [List.length_take]; omega)] at this
    exact this
  have y4 : Bytes W5.drew (some ⟨w4.heap.size, 0, none⟩) 36 64 (B2.take 36) := by
    have := hG5.drew.part 0 36 64 (by omega) (by omega) (by omega)
    rw [List.drop_zero] at this
    exact this
  refine wp_region_gate (fun w' => (convert 29 9 (.slice (some ⟨g, 0, none⟩) 64 100)).run Try.prog w' = .ok (.string SA) w' ∧ (convert 29 9 (.slice (some ⟨P1, 0, none⟩) 64 64)).run Try.prog w' = .ok (.string SA) w' ∧ (convert 29 9 (.slice (some ⟨g, 64, none⟩) 36 36)).run Try.prog w' = .ok (.string SB) w' ∧ (convert 29 9 (.slice (some ⟨w4.heap.size, 0, none⟩) 36 64)).run Try.prog w' = .ok (.string SB) w') 22 (by kernel_rfl) ?_
  have hS : (fun w' : World => (convert 29 9 (.slice (some ⟨g, 0, none⟩) 64 100)).run Try.prog w' = .ok (.string SA) w' ∧ (convert 29 9 (.slice (some ⟨P1, 0, none⟩) 64 64)).run Try.prog w' = .ok (.string SA) w' ∧ (convert 29 9 (.slice (some ⟨g, 64, none⟩) 36 36)).run Try.prog w' = .ok (.string SB) w' ∧ (convert 29 9 (.slice (some ⟨w4.heap.size, 0, none⟩) 36 64)).run Try.prog w' = .ok (.string SB) w') W5.drew :=
    ⟨by rw [← hSA]; exact conv_bytes y1, by rw [← hSA]; exact conv_bytes y2, by rw [← hSB]; exact conv_bytes y3, by rw [← hSB]; exact conv_bytes y4⟩
  clear hSA hSB y1 y2 y3 y4
  refine wpAnyG_one (i := 0) rfl (by kernel_rfl) (by kernel_rfl) (fun K hK => ?_)
  go_wp2_with (go_at_call 11; refine (live_any _).mono ?_; rintro e w6 ⟨rfl, rfl⟩)
  refine hK.out _ _ (fun _ => hS) ?_
  clear hK K
  refine wpAnyG_any (i := 1) (v := ?_) rfl (by kernel_rfl) (by kernel_rfl) (by kernel_rfl) (fun _ _ _ h => h) (by kernel_rfl) (fun _ => hS) (by kernel_rfl) ?_ ?_
  rotate_left
  · intro _; go_simp; try with_reducible rfl
  simp only [Act.put, List.setIfInBounds_toArray, List.set_cons_zero, List.set_cons_succ]
  refine wpAnyG_any (i := 2) (v := ?_) rfl (by kernel_rfl) (by kernel_rfl) (by kernel_rfl) (fun _ _ _ h => h) (by kernel_rfl) (fun _ => hS) (by kernel_rfl) ?_ ?_
  rotate_left
  · intro _; go_simp; try with_reducible rfl
  simp only [Act.put, List.setIfInBounds_toArray, List.set_cons_zero, List.set_cons_succ]
  refine wpAnyG_any (i := 3) (v := ?_) rfl (by kernel_rfl) (by kernel_rfl) (by kernel_rfl) (fun _ _ _ h => h) (by kernel_rfl) (fun _ => hS) (by kernel_rfl) ?_ ?_
  rotate_left
  · intro _; go_simp; try with_reducible rfl
  simp only [Act.put, List.setIfInBounds_toArray, List.set_cons_zero, List.set_cons_succ]
  refine wpAnyG_any (i := 4) (v := .bool true) rfl (by kernel_rfl) (by kernel_rfl) (by kernel_rfl) (fun _ _ _ h => h) (by kernel_rfl) (fun _ => hS) (by kernel_rfl) ?_ ?_
  · intro _; go_simp
  simp only [Act.put, List.setIfInBounds_toArray, List.set_cons_zero, List.set_cons_succ]
  refine wpAnyG_any (i := 5) (v := .bool true) rfl (by kernel_rfl) (by kernel_rfl) (by kernel_rfl) (fun _ _ _ h => h) (by kernel_rfl) (fun _ => hS) (by kernel_rfl) ?_ ?_
  · intro _; go_simp
  simp only [Act.put, List.setIfInBounds_toArray, List.set_cons_zero, List.set_cons_succ]
  refine wpAnyG_any (i := 6) (v := .bool true) rfl (by kernel_rfl) (by kernel_rfl) (by kernel_rfl) (fun _ _ _ h => h) (by kernel_rfl) (fun _ => hS) (by kernel_rfl) ?_ ?_
  · intro _; go_simp
  simp only [Act.put, List.setIfInBounds_toArray, List.set_cons_zero, List.set_cons_succ]
  refine wpAnyG_any (i := 7) (v := ?_) rfl (by kernel_rfl) (by kernel_rfl) (by kernel_rfl) (fun _ _ _ h => h) (by kernel_rfl) (fun _ => hS) (by kernel_rfl) ?_ ?_
  rotate_left
  · intro _; go_simp; try with_reducible rfl
  simp only [Act.put, List.setIfInBounds_toArray, List.set_cons_zero, List.set_cons_succ]
  refine wpAnyG_any (i := 8) (v := ?_) rfl (by kernel_rfl) (by kernel_rfl) (by kernel_rfl) (fun _ _ _ h => h) (by kernel_rfl) (fun _ => hS) (by kernel_rfl) ?_ ?_
  rotate_left
  · intro _; go_simp; try with_reducible rfl
  simp only [Act.put, List.setIfInBounds_toArray, List.set_cons_zero, List.set_cons_succ]
  refine wpAnyG_read (i := 9) (v := ?_) rfl (by kernel_rfl) (by kernel_rfl) (by kernel_rfl) (fun _ _ _ h => h) (by kernel_rfl) (by kernel_rfl) (by kernel_rfl) hS (by kernel_rfl) ?_ ?_
  rotate_left
  · intro wx hSw; go_split_ands; go_simp; try with_reducible rfl
  simp only [Act.put, List.setIfInBounds_toArray, List.set_cons_zero, List.set_cons_succ]
  refine wpAnyG_any (i := 10) (v := ?_) rfl (by kernel_rfl) (by kernel_rfl) (by kernel_rfl) (fun _ _ _ h => h) (by kernel_rfl) (fun _ => hS) (by kernel_rfl) ?_ ?_
  rotate_left
  · intro _; go_simp; try with_reducible rfl
  simp only [Act.put, List.setIfInBounds_toArray, List.set_cons_zero, List.set_cons_succ]
  refine wpAnyG_read (i := 11) (v := ?_) rfl (by kernel_rfl) (by kernel_rfl) (by kernel_rfl) (fun _ _ _ h => h) (by kernel_rfl) (by kernel_rfl) (by kernel_rfl) hS (by kernel_rfl) ?_ ?_
  rotate_left
  · intro wx hSw; go_split_ands; go_simp; try with_reducible rfl
  simp only [Act.put, List.setIfInBounds_toArray, List.set_cons_zero, List.set_cons_succ]
  refine wpAnyG_any (i := 12) (v := .bool true) rfl (by kernel_rfl) (by kernel_rfl) (by kernel_rfl) (fun _ _ _ h => h) (by kernel_rfl) (fun _ => hS) (by kernel_rfl) ?_ ?_
  · intro _; go_simp
  simp only [Act.put, List.setIfInBounds_toArray, List.set_cons_zero, List.set_cons_succ]
  refine wpAnyG_any (i := 13) (v := .bool true) rfl (by kernel_rfl) (by kernel_rfl) (by kernel_rfl) (fun _ _ _ h => h) (by kernel_rfl) (fun _ => hS) (by kernel_rfl) ?_ ?_
  · intro _; go_simp
  simp only [Act.put, List.setIfInBounds_toArray, List.set_cons_zero, List.set_cons_succ]
  refine wpAnyG_any (i := 14) (v := .bool true) rfl (by kernel_rfl) (by kernel_rfl) (by kernel_rfl) (fun _ _ _ h => h) (by kernel_rfl) (fun _ => hS) (by kernel_rfl) ?_ ?_
  · intro _; go_simp
  simp only [Act.put, List.setIfInBounds_toArray, List.set_cons_zero, List.set_cons_succ]
  refine wpAnyG_any (i := 15) (v := ?_) rfl (by kernel_rfl) (by kernel_rfl) (by kernel_rfl) (fun _ _ _ h => h) (by kernel_rfl) (fun _ => hS) (by kernel_rfl) ?_ ?_
  rotate_left
  · intro _; go_simp; try with_reducible rfl
  simp only [Act.put, List.setIfInBounds_toArray, List.set_cons_zero, List.set_cons_succ]
  refine wpAnyG_any (i := 16) (v := ?_) rfl (by kernel_rfl) (by kernel_rfl) (by kernel_rfl) (fun _ _ _ h => h) (by kernel_rfl) (fun _ => hS) (by kernel_rfl) ?_ ?_
  rotate_left
  · intro _; go_simp; try with_reducible rfl
  simp only [Act.put, List.setIfInBounds_toArray, List.set_cons_zero, List.set_cons_succ]
  refine wpAnyG_read (i := 17) (v := ?_) rfl (by kernel_rfl) (by kernel_rfl) (by kernel_rfl) (fun _ _ _ h => h) (by kernel_rfl) (by kernel_rfl) (by kernel_rfl) hS (by kernel_rfl) ?_ ?_
  rotate_left
  · intro wx hSw; go_split_ands; go_simp; try with_reducible rfl
  simp only [Act.put, List.setIfInBounds_toArray, List.set_cons_zero, List.set_cons_succ]
  refine wpAnyG_any (i := 18) (v := ?_) rfl (by kernel_rfl) (by kernel_rfl) (by kernel_rfl) (fun _ _ _ h => h) (by kernel_rfl) (fun _ => hS) (by kernel_rfl) ?_ ?_
  rotate_left
  · intro _; go_simp; try with_reducible rfl
  simp only [Act.put, List.setIfInBounds_toArray, List.set_cons_zero, List.set_cons_succ]
  refine wpAnyG_read (i := 19) (v := ?_) rfl (by kernel_rfl) (by kernel_rfl) (by kernel_rfl) (fun _ _ _ h => h) (by kernel_rfl) (by kernel_rfl) (by kernel_rfl) hS (by kernel_rfl) ?_ ?_
  rotate_left
  · intro wx hSw; go_split_ands; go_simp; try with_reducible rfl
  simp only [Act.put, List.setIfInBounds_toArray, List.set_cons_zero, List.set_cons_succ]
  refine wpAnyG_any (i := 20) (v := .bool true) rfl (by kernel_rfl) (by kernel_rfl) (by kernel_rfl) (fun _ _ _ h => h) (by kernel_rfl) (fun _ => hS) (by kernel_rfl) ?_ ?_
  · intro _; go_simp
  simp only [Act.put, List.setIfInBounds_toArray, List.set_cons_zero, List.set_cons_succ]
  refine wpAnyG_any (i := 21) (v := .bool true) rfl (by kernel_rfl) (by kernel_rfl) (by kernel_rfl) (fun _ _ _ h => h) (by kernel_rfl) (fun _ => hS) (by kernel_rfl) ?_ ?_
  · intro _; go_simp
  simp only [Act.put, List.setIfInBounds_toArray, List.set_cons_zero, List.set_cons_succ]
  refine wpAnyG_one (i := 22) rfl (by kernel_rfl) (by kernel_rfl) (fun K hK => ?_)
  go_simp
  refine hK.out _ _ (fun h => absurd (show true = false from h) (by decide)) ?_
  clear hK K
  refine wpAnyG_done (by kernel_rfl) ?_ _
  go_wp2
  go_ret
  exact ⟨rfl, hB0.trans ((hB5.drew).mono hB0.size)⟩
end Go.Proofs.Ytobfknpgkdiicab
