/- The statement ChachaTwice, walked. -/
import Derived.Test.YtobfknpgkdiicaaCy
import Derived.Test.YtobfknpgkdiicaaCa
import Derived.Test.YtobfknpgkdiicaaFew3
import Derived.Test.YtobfknpgkdiicaaGate2
namespace Go.Proofs.Ytobfknpgkdiicaa
open Go.RowKit
set_option maxRecDepth 20000
set_option linter.unusedSimpArgs false

/-- Block g holds a key, a nonce and a number. -/
def AskAt (w : World) (g : Nat) (k n : List Int) (c : Int) : Prop := w.heap[g]? = some (.cells (askRow k n c) 37 (0, 0))
theorem AskAt.lt {w : World} {g : Nat} {k n : List Int} {c : Int} (h : AskAt w g k n c) : g < w.heap.size := (Array.getElem?_eq_some_iff.1 h).1
theorem AskAt.new (w : World) (k n : List Int) (c : Int) : AskAt (w.alloc (.cells (askRow k n c) 37)) w.heap.size k n c := heap_alloc_new w _
theorem AskAt.below {w w' : World} {B g : Nat} {k n : List Int} {c : Int} (h : AskAt w g k n c) (hb : Below B w w') (hg : g < B) : AskAt w' g k n c := by
  unfold AskAt at h ⊢; rw [hb.block g hg]; exact h
theorem AskAt.cell {w : World} {g : Nat} {k n : List Int} {c : Int} (h : AskAt w g k n c) (j : Nat) : w.cell? ⟨g, j, none⟩ = (askL k n c)[j]? := by
  rw [cell_of_row w g j _ _ _ h]; simp [askRow]
theorem AskAt.key {w : World} {g : Nat} {k n : List Int} {c : Int} (h : AskAt w g k n c) : w.rangeAt g 0 (k.map (Value.int .u8)) := fun j v hv => by
  rw [Nat.zero_add, h.cell j, ← hv]
  have hj := (List.getElem?_eq_some_iff.1 hv).1
  unfold askL
  rw [List.append_assoc, List.getElem?_append_left hj]
theorem AskAt.nonce {w : World} {g : Nat} {k n : List Int} {c : Int} (h : AskAt w g k n c) (hk : k.length = 32) : w.rangeAt g 32 (n.map (Value.int .u8)) := fun j v hv => by
  rw [h.cell (32 + j), ← hv]
  have hj := (List.getElem?_eq_some_iff.1 hv).1
  unfold askL
  rw [List.append_assoc, List.getElem?_append_right (by simp; omega), List.length_map, hk, Nat.add_sub_cancel_left, List.getElem?_append_left hj]
theorem AskAt.count {w : World} {g : Nat} {k n : List Int} {c : Int} (h : AskAt w g k n c) (hk : k.length = 32) (hn : n.length = 12) : w.cell? ⟨g, 44, none⟩ = some (.int .u32 c) := by
  rw [h.cell 44]
  unfold askL
  rw [List.getElem?_append_right (by simp; omega)]
  simp [hk, hn]
theorem sizeKeyM (k : List Int) (hk : k.length = 32) : (Try.prog.info? 30).map (·.size) = some (k.map (Value.int .u8)).length := by rw [List.length_map, hk]; exact sizeKey
theorem sizeNonceM (n : List Int) (hn : n.length = 12) : (Try.prog.info? 32).map (·.size) = some (n.map (Value.int .u8)).length := by rw [List.length_map, hn]; exact sizeNonce

set_option maxHeartbeats 4000000 in
theorem twice_walk (k n : List Int) (c : Int) (x : Option Addr) (len cap : Nat) (z : List Int) (w : World) (hk : k.length = 32) (hn : n.length = 12) (hc : U32 c) (hz : Bytes w x len cap z) (hu : ∀ v ∈ z, 0 ≤ v ∧ v ≤ 255) :
    Calls Try.prog 7 #[.agg (askRow k n c), .slice x len cap] w fun e w' => e = .returned (.bool true) ∧ Below w.heap.size w w' := by
  have hf := fun wx h => few_any x len cap 500 z wx h (by omega) (by omega)
  have hz5 := hz.few 500
  have hu5 : ∀ v ∈ z.take 500, U8 v := fun v hv => hu v (List.mem_of_mem_take hv)
  obtain ⟨m, hm⟩ : ∃ m, min len 500 = m := ⟨_, rfl⟩
  obtain ⟨y, hy⟩ : ∃ y, z.take 500 = y := ⟨_, rfl⟩
  have hm5 : m ≤ 500 := by omega
  rw [hm] at hf hz5
  rw [hy] at hz5 hu5
  clear hm hy hu
  have hxy : Veil (xorL k n c (xorL k n c y) = y) := ⟨xor_twice k n c y hu5⟩
  have uK := Try.underlying30
  have uN := Try.underlying32
  have iK := sizeKeyM k hk
  have iN := sizeNonceM n hn
  have hxor : ∀ (x : Option Addr) (len cap : Nat) (z : List Int) (wx : World), Bytes wx x len cap z → len ≤ 500 → Calls Try.prog 16 #[.agg (List.map (Value.int .u8) k).toArray, .agg (List.map (Value.int .u8) n).toArray, .int .u32 c, .slice x len cap] wx fun e w' => ∃ g, e = .returned (.slice (some ⟨g, 0, none⟩) len len) ∧ wx.heap.size ≤ g ∧ Bytes w' (some ⟨g, 0, none⟩) len len (xorL k n c z) ∧ Below wx.heap.size wx w' := fun x len cap z wx h hl =>
    (xor_any k n c x len cap z wx hk hn hc h (by omega)).mono fun e w' ⟨g, h1, h2, h3, h4⟩ => ⟨g, h1, h2, h3.bytes (by rw [xorL_length]; exact h.len_eq) (by rw [xorL_length, ← h.len_eq]; omega), h4⟩
  have hA0 := AskAt.new w k n c
  have hz0 : Bytes (w.alloc (.cells (askRow k n c) 37)) x m cap y := hz5.below ((Below.refl _ _).alloc (Nat.le_refl _) _)
  have hzf : Bytes (w.alloc (.cells (askRow k n c) 37)) x len cap z := hz.below ((Below.refl _ _).alloc (Nat.le_refl _) _)
  have hX1 := hxor x m cap y _ hz0 hm5
  have ck := hA0.key
  have cn := hA0.nonce hk
  have cc := hA0.count hk hn
  have hf0 := hf _ hzf
  clear hf hz hz5 hu5 hzf
  go_enter Try.func7, Try.ntmps7
  go_upto_region 3 with (first
    | (go_at_call 15; refine hf0.mono ?_; rintro e w' ⟨rfl, rfl⟩)
    | (refine wpList_load_mid rfl 30 _ rfl _ _ rfl _ _ ck uK rfl iK ?_)
    | (refine wpList_load_mid rfl 32 _ rfl _ _ rfl _ _ cn uN rfl iN ?_)
    | (go_at_call 16; refine hX1.mono ?_; rintro e w2 ⟨g, rfl, hg, hb2, hB2⟩))
  have hAsk2 : AskAt w2 w.heap.size k n c := hA0.below hB2 (by simp)
  have hy2 : Bytes w2 x m cap y := hz0.below hB2
  have hBw : Below w.heap.size w w2 := ((Below.refl _ _).alloc (Nat.le_refl _) _).trans (hB2.mono (by simp))
  obtain ⟨SY, hSY⟩ : ∃ s, strOfNums y = s := ⟨_, rfl⟩
  have keep : ∀ w', Below w2.heap.size w2 w' → w'.rangeAt w.heap.size 0 (k.map (Value.int .u8)) ∧ w'.rangeAt w.heap.size 32 (n.map (Value.int .u8)) ∧ w'.cell? ⟨w.heap.size, 44, none⟩ = some (.int .u32 c) ∧ (convert 38 9 (.slice x m cap)).run Try.prog w' = .ok (.string SY) w' := fun w' hb => by
    have hA' := hAsk2.below hb hAsk2.lt
    exact ⟨hA'.key, hA'.nonce hk, hA'.count hk hn, by rw [← hSY]; exact conv_bytes (hy2.below hb)⟩
  have hX2 : ∀ wx, Below w2.heap.size w2 wx → Calls Try.prog 16 #[.agg (List.map (Value.int .u8) k).toArray, .agg (List.map (Value.int .u8) n).toArray, .int .u32 c, .slice (some ⟨g, 0, none⟩) m m] wx fun e w' => ∃ g', e = .returned (.slice (some ⟨g', 0, none⟩) m m) ∧ (convert 38 9 (.slice (some ⟨g', 0, none⟩) m m)).run Try.prog w' = .ok (.string SY) w' ∧ Below w2.heap.size w2 w' := fun wx hx => by
    refine (hxor (some ⟨g, 0, none⟩) m m (xorL k n c y) wx (hb2.below hx) hm5).mono ?_
    rintro e w' ⟨g', h1, _, h3, h4⟩
    rw [hxy.out] at h3
    exact ⟨g', h1, by rw [← hSY]; exact conv_bytes h3, hx.trans (h4.mono hx.size)⟩
  clear hX1 hf0 hxor ck cn cc hA0 hz0 hAsk2 hy2 hb2 hB2 hg hSY hxy
  refine wp_region_gate (fun w' => w'.rangeAt w.heap.size 0 (k.map (Value.int .u8)) ∧ w'.rangeAt w.heap.size 32 (n.map (Value.int .u8)) ∧ w'.cell? ⟨w.heap.size, 44, none⟩ = some (.int .u32 c) ∧ (convert 38 9 (.slice x m cap)).run Try.prog w' = .ok (.string SY) w') 22 (by kernel_rfl) ?_
  have hS := keep _ (Below.refl _ _).drew
  refine wpAnyG_one (i := 0) rfl (by kernel_rfl) (by kernel_rfl) (fun K hK => ?_)
  go_wp2_with (go_at_call 11; refine (live_any _).mono ?_; rintro e w1 ⟨rfl, rfl⟩)
  refine hK.out _ _ (fun _ => hS) ?_
  clear hK K
  refine wpAnyG_any (i := 1) (v := ?_) rfl (by kernel_rfl) (by kernel_rfl) (by kernel_rfl) (fun _ _ _ h => h) (by kernel_rfl) (fun _ => hS) (by kernel_rfl) ?_ ?_
  rotate_left
  · intro _; go_simp; try with_reducible rfl
  simp only [Act.put, List.setIfInBounds_toArray, List.set_cons_zero, List.set_cons_succ]
  refine wpAnyG_any (i := 2) (v := ?_) rfl (by kernel_rfl) (by kernel_rfl) (by kernel_rfl) (fun _ _ _ h => h) (by kernel_rfl) (fun _ => hS) (by kernel_rfl) ?_ ?_
  rotate_left
  · intro _; go_simp; try with_reducible rfl
  simp only [Act.put, List.setIfInBounds_toArray, List.set_cons_zero, List.set_cons_succ]
  refine wpAnyG_any (i := 3) (v := ?_) rfl (by kernel_rfl) (by kernel_rfl) (by kernel_rfl) (fun _ _ _ h => h) (by kernel_rfl) (fun _ => hS) (by kernel_rfl) ?_ ?_
  rotate_left
  · intro _; go_simp; try with_reducible rfl
  simp only [Act.put, List.setIfInBounds_toArray, List.set_cons_zero, List.set_cons_succ]
  refine wpAnyG_any (i := 4) (v := ?_) rfl (by kernel_rfl) (by kernel_rfl) (by kernel_rfl) (fun _ _ _ h => h) (by kernel_rfl) (fun _ => hS) (by kernel_rfl) ?_ ?_
  rotate_left
  · intro _; go_simp; try with_reducible rfl
  simp only [Act.put, List.setIfInBounds_toArray, List.set_cons_zero, List.set_cons_succ]
  refine wpAnyG_any (i := 5) (v := ?_) rfl (by kernel_rfl) (by kernel_rfl) (by kernel_rfl) (fun _ _ _ h => h) (by kernel_rfl) (fun _ => hS) (by kernel_rfl) ?_ ?_
  rotate_left
  · intro _; go_simp; try with_reducible rfl
  simp only [Act.put, List.setIfInBounds_toArray, List.set_cons_zero, List.set_cons_succ]
  refine wpAnyG_any (i := 6) (v := .bool true) rfl (by kernel_rfl) (by kernel_rfl) (by kernel_rfl) (fun _ _ _ h => h) (by kernel_rfl) (fun _ => hS) (by kernel_rfl) ?_ ?_
  · intro _; go_simp
  simp only [Act.put, List.setIfInBounds_toArray, List.set_cons_zero, List.set_cons_succ]
  refine wpAnyG_any (i := 7) (v := .bool true) rfl (by kernel_rfl) (by kernel_rfl) (by kernel_rfl) (fun _ _ _ h => h) (by kernel_rfl) (fun _ => hS) (by kernel_rfl) ?_ ?_
  · intro _; go_simp
  simp only [Act.put, List.setIfInBounds_toArray, List.set_cons_zero, List.set_cons_succ]
  refine wpAnyG_any (i := 8) (v := .bool true) rfl (by kernel_rfl) (by kernel_rfl) (by kernel_rfl) (fun _ _ _ h => h) (by kernel_rfl) (fun _ => hS) (by kernel_rfl) ?_ ?_
  · intro _; go_simp
  simp only [Act.put, List.setIfInBounds_toArray, List.set_cons_zero, List.set_cons_succ]
  refine wpAnyG_any (i := 9) (v := ?_) rfl (by kernel_rfl) (by kernel_rfl) (by kernel_rfl) (fun _ _ _ h => h) (by kernel_rfl) (fun _ => hS) (by kernel_rfl) ?_ ?_
  rotate_left
  · intro _; go_simp; try with_reducible rfl
  simp only [Act.put, List.setIfInBounds_toArray, List.set_cons_zero, List.set_cons_succ]
  refine wpAnyG_load (i := 10) (dst := some 26) (ty := 30) (x := .tmp 25) (b := w.heap.size) (o := 0) (cs := (k.map (Value.int .u8))) (by kernel_rfl) (by kernel_rfl) (by kernel_rfl) (by kernel_rfl) (by kernel_rfl) (fun _ _ _ h => h) (by kernel_rfl) (by kernel_rfl) (by kernel_rfl) hS (by kernel_rfl) (fun _ h => h.1) uK rfl iK ?_
  simp only [Act.put, List.setIfInBounds_toArray, List.set_cons_zero, List.set_cons_succ]
  refine wpAnyG_any (i := 11) (v := ?_) rfl (by kernel_rfl) (by kernel_rfl) (by kernel_rfl) (fun _ _ _ h => h) (by kernel_rfl) (fun _ => hS) (by kernel_rfl) ?_ ?_
  rotate_left
  · intro _; go_simp; try with_reducible rfl
  simp only [Act.put, List.setIfInBounds_toArray, List.set_cons_zero, List.set_cons_succ]
  refine wpAnyG_load (i := 12) (dst := some 28) (ty := 32) (x := .tmp 27) (b := w.heap.size) (o := 32) (cs := (n.map (Value.int .u8))) (by kernel_rfl) (by kernel_rfl) (by kernel_rfl) (by kernel_rfl) (by kernel_rfl) (fun _ _ _ h => h) (by kernel_rfl) (by kernel_rfl) (by kernel_rfl) hS (by kernel_rfl) (fun _ h => h.2.1) uN rfl iN ?_
  simp only [Act.put, List.setIfInBounds_toArray, List.set_cons_zero, List.set_cons_succ]
  refine wpAnyG_any (i := 13) (v := ?_) rfl (by kernel_rfl) (by kernel_rfl) (by kernel_rfl) (fun _ _ _ h => h) (by kernel_rfl) (fun _ => hS) (by kernel_rfl) ?_ ?_
  rotate_left
  · intro _; go_simp; try with_reducible rfl
  simp only [Act.put, List.setIfInBounds_toArray, List.set_cons_zero, List.set_cons_succ]
  refine wpAnyG_read (i := 14) (v := ?_) rfl (by kernel_rfl) (by kernel_rfl) (by kernel_rfl) (fun _ _ _ h => h) (by kernel_rfl) (by kernel_rfl) (by kernel_rfl) hS (by kernel_rfl) ?_ ?_
  rotate_left
  · intro wx hSw; go_split_ands; go_simp; try with_reducible rfl
  simp only [Act.put, List.setIfInBounds_toArray, List.set_cons_zero, List.set_cons_succ]
  refine wpAnyG_any (i := 15) (v := ?_) rfl (by kernel_rfl) (by kernel_rfl) (by kernel_rfl) (fun _ _ _ h => h) (by kernel_rfl) (fun _ => hS) (by kernel_rfl) ?_ ?_
  rotate_left
  · intro _; go_simp; try with_reducible rfl
  simp only [Act.put, List.setIfInBounds_toArray, List.set_cons_zero, List.set_cons_succ]
  refine wpAnyG_any (i := 18) (v := ?_) rfl (by kernel_rfl) (by kernel_rfl) (by kernel_rfl) (fun _ _ _ h => h) (by kernel_rfl) (fun _ => hS) (by kernel_rfl) ?_ ?_
  rotate_left
  · intro _; go_simp; try with_reducible rfl
  simp only [Act.put, List.setIfInBounds_toArray, List.set_cons_zero, List.set_cons_succ]
  refine wpAnyG_read (i := 19) (v := ?_) rfl (by kernel_rfl) (by kernel_rfl) (by kernel_rfl) (fun _ _ _ h => h) (by kernel_rfl) (by kernel_rfl) (by kernel_rfl) hS (by kernel_rfl) ?_ ?_
  rotate_left
  · intro wx hSw; go_split_ands; go_simp; try with_reducible rfl
  simp only [Act.put, List.setIfInBounds_toArray, List.set_cons_zero, List.set_cons_succ]
  refine wpAnyG_one (i := 16) rfl (by kernel_rfl) (by kernel_rfl) (fun K hK => ?_)
  go_wp2_with (go_at_call 16; refine (hX2 _ (Below.refl _ _).drew).mono ?_; rintro e w3 ⟨g', rfl, hcv, hb3⟩)
  replace hS := keep _ hb3
  refine hK.out _ _ (fun _ => hS) ?_
  clear hK K
  refine wpAnyG_one (i := 17) rfl (by kernel_rfl) (by kernel_rfl) (fun K hK => ?_)
  go_simp
  refine hK.out _ _ (fun _ => hS) ?_
  clear hK K
  refine wpAnyG_any (i := 20) (v := ?_) rfl (by kernel_rfl) (by kernel_rfl) (by kernel_rfl) (fun _ _ _ h => h) (by kernel_rfl) (fun _ => hS) (by kernel_rfl) ?_ ?_
  rotate_left
  · intro _; go_simp; try with_reducible rfl
  simp only [Act.put, List.setIfInBounds_toArray, List.set_cons_zero, List.set_cons_succ]
  refine wpAnyG_any (i := 21) (v := ?_) rfl (by kernel_rfl) (by kernel_rfl) (by kernel_rfl) (fun _ _ _ h => h) (by kernel_rfl) (fun _ => hS) (by kernel_rfl) ?_ ?_
  rotate_left
  · intro _; go_simp; try with_reducible rfl
  simp only [Act.put, List.setIfInBounds_toArray, List.set_cons_zero, List.set_cons_succ]
  refine wpAnyG_one (i := 22) rfl (by kernel_rfl) (by kernel_rfl) (fun K hK => ?_)
  go_simp
  refine hK.out _ _ (fun h => absurd (show true = false from h) (by decide)) ?_
  clear hK K
  refine wpAnyG_done (by kernel_rfl) ?_ _
  go_wp2
  go_ret
  exact ⟨rfl, hBw.trans (hb3.mono hBw.size)⟩
end Go.Proofs.Ytobfknpgkdiicaa
