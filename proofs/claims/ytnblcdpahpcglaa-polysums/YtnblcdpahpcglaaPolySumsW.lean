/- The statement PolySums, walked. -/
import Derived.Test.YtnblcdpahpcglaaRf
import Derived.Test.YtnblcdpahpcglaaGc
import Derived.Test.YtnblcdpahpcglaaFew4
namespace Go.Proofs.Ytnblcdpahpcglaa
open Go.RowKit
set_option maxRecDepth 20000
set_option linter.unusedSimpArgs false

set_option maxHeartbeats 4000000 in
theorem sums4_walk (k : List Int) (x : Option Addr) (len cap : Nat) (z : List Int) (w : World) (hk : k.length = 32) (hu : ∀ v ∈ k, 0 ≤ v ∧ v ≤ 255) (hz : Bytes w x len cap z) (huz : ∀ v ∈ z, 0 ≤ v ∧ v ≤ 255) :
    Calls Try.prog 3 #[.agg (row .u8 k), .slice x len cap] w fun e w' => e = .returned (.bool true) ∧ Below w.heap.size w w' := by
  have hf := fun wx h => few4_any x len cap 300 z wx h (by omega) (by omega)
  have hz5 := hz.few 300
  have huz5 : ∀ v ∈ z.take 300, isB v := fun v hv => huz v (List.mem_of_mem_take hv)
  obtain ⟨m, hm⟩ : ∃ m, min len 300 = m := ⟨_, rfl⟩
  obtain ⟨y, hy⟩ : ∃ y, z.take 300 = y := ⟨_, rfl⟩
  have hm5 : m ≤ 300 := by omega
  rw [hm] at hf hz5
  rw [hy] at hz5 huz5
  clear hm hy huz
  have hzf : Bytes (w.alloc (.cells (row .u8 k) 23)) x len cap z := hz.below ((Below.refl _ _).alloc (Nat.le_refl _) _)
  have hf0 := hf _ hzf
  have uK := Try.underlying23
  have iK : (Try.prog.info? 23).map (·.size) = some (k.map (Value.int .u8)).length := by rw [List.length_map, hk]; exact sizeKeyP
  have hmy := hz5.len_eq
  have hsum : ∀ (x : Option Addr) (len cap : Nat) (wx : World), Bytes wx x len cap y → Calls Try.prog 11 #[.agg (List.map (Value.int .u8) k).toArray, .slice x len cap] wx fun e w' => e = .returned (.agg (row .u8 (polyL k y))) ∧ Below wx.heap.size wx w' := fun x len cap wx h =>
    psum_any k x len cap y wx hk h (by have := h.len_eq; omega)
  have hrs : ∀ (x : Option Addr) (len cap : Nat) (wx : World), Bytes wx x len cap y → Calls Try.prog 12 #[.agg (List.map (Value.int .u8) k).toArray, .slice x len cap] wx fun e w' => e = .returned (.agg (row .u8 (polyL k y))) ∧ Below wx.heap.size wx w' := fun x len cap wx h =>
    refSum_any k x len cap y wx hk hu h huz5 (by have := h.len_eq; omega)
  have hPl : (polyL k y).length = 16 := polyL_length k y
  obtain ⟨PL, hPe⟩ : ∃ q, polyL k y = q := ⟨_, rfl⟩
  rw [hPe] at hsum hrs hPl
  have hE : ∀ wx, (Op.equalIn 10000 28 (.agg (row .u8 PL)) (.agg (row .u8 PL))).run Try.prog wx = .ok true wx := fun wx => by
    have := eqTag PL PL hPl hPl wx
    rw [beq_self_eq_true] at this
    exact this
  have hgd := guardTag
  have hK0 := Holds.new w .u8 23 k
  have hz0 : Bytes (w.alloc (.cells (row .u8 k) 23)) x m cap y := hz5.below ((Below.refl _ _).alloc (Nat.le_refl _) _)
  have hB0 : Below w.heap.size w (w.alloc (.cells (row .u8 k) 23)) := (Below.refl _ _).alloc (Nat.le_refl _) _
  clear hf hz hz5 hzf hmy hPe huz5 hu
  go_enter Try.func3, Try.ntmps3
  go_upto_region 2 with (go_at_call 9; refine hf0.mono ?_; rintro e w' ⟨rfl, rfl⟩)
  obtain ⟨W0, hW0⟩ : ∃ W, w.alloc (.cells (row .u8 k) 23) = W := ⟨_, rfl⟩
  rw [hW0] at hK0 hz0 hB0 ⊢
  clear hW0 hf0
  have hE0 : OwnB (W0.alloc (.cells #[] 5)) W0.heap.size (.slice (some ⟨W0.heap.size, 0, none⟩) 0 0) [] := OwnB.ofHolds (Holds.new W0 .u8 5 []) (Nat.le_refl _) (by simp)
  have hz1 : Bytes (W0.alloc (.cells #[] 5)) x m cap y := hz0.below ((Below.refl _ _).alloc (Nat.le_refl _) _)
  go_upto_region 3 with (at_builtin; refine wpList_app rfl _ _ rfl W0.heap.size _ [] rfl hE0 x m cap y rfl hz1 (by simp; omega) (by simp) ?_; intro v1 w1 ho1 hg1)
  have hB1 : Below W0.heap.size W0 w1 := below_grown ((Below.refl _ _).alloc (Nat.le_refl _) _) hE0 hg1 (by simp)
  rw [List.nil_append] at ho1
  obtain ⟨x1, n1, c1, rfl, hn1⟩ := ho1.isSlice
  have hy1 : Bytes w1 x1 n1 c1 y := ho1.bytes.2
  clear hn1 ho1 hg1 hE0 hz1
  have hzy : Bytes w1 x m cap y := hz0.below hB1
  obtain ⟨SY, hSY⟩ : ∃ s, strOfNums y = s := ⟨_, rfl⟩
  have hK1 : Holds w1 w.heap.size .u8 23 k := hK0.below hB1 hK0.lt
  have keep : ∀ w', Below w1.heap.size w1 w' → w'.rangeAt w.heap.size 0 (k.map (Value.int .u8)) ∧ (convert 24 9 (.slice x1 n1 c1)).run Try.prog w' = .ok (.string SY) w' ∧ (convert 24 9 (.slice x m cap)).run Try.prog w' = .ok (.string SY) w' := fun w' hb =>
    ⟨(hK1.below hb hK1.lt).rangeAll, by rw [← hSY]; exact conv_bytes (hy1.below hb), by rw [← hSY]; exact conv_bytes (hzy.below hb)⟩
  have hx1 : ∀ wx, Below w1.heap.size w1 wx → Calls Try.prog 11 #[.agg (List.map (Value.int .u8) k).toArray, .slice x1 n1 c1] wx fun e w' => e = .returned (.agg (row .u8 PL)) ∧ Below wx.heap.size wx w' := fun wx hx => hsum x1 n1 c1 wx (hy1.below hx)
  have hx2 : ∀ wx, Below w1.heap.size w1 wx → Calls Try.prog 12 #[.agg (List.map (Value.int .u8) k).toArray, .slice x m cap] wx fun e w' => e = .returned (.agg (row .u8 PL)) ∧ Below wx.heap.size wx w' := fun wx hx => hrs x m cap wx (hzy.below hx)
  clear hsum hrs hz0 hK0 hK1 hy1 hzy hSY
  refine wp_region_gate (fun w' => w'.rangeAt w.heap.size 0 (k.map (Value.int .u8)) ∧ (convert 24 9 (.slice x1 n1 c1)).run Try.prog w' = .ok (.string SY) w' ∧ (convert 24 9 (.slice x m cap)).run Try.prog w' = .ok (.string SY) w') 17 (by kernel_rfl) ?_
  refine wpAnyG_one (i := 0) rfl (by kernel_rfl) (by kernel_rfl) (fun K hK => ?_)
  go_wp2_with (go_at_call 10; refine (live4_any _).mono ?_; rintro e w3 ⟨rfl, hb3⟩)
  have hB3 : Below w1.heap.size w1 w3 := ((Below.refl _ _).drew).trans hb3
  have hS := keep _ hB3
  refine hK.out _ _ (fun _ => hS) ?_
  clear hK K
  refine wpAnyG_any (i := 1) (v := ?_) rfl (by kernel_rfl) (by kernel_rfl) (by kernel_rfl) (fun _ _ _ h => h) (by kernel_rfl) (fun _ => hS) (by kernel_rfl) ?_ ?_
  rotate_left
  · intro _; go_simp; try with_reducible rfl
  simp only [Act.put, List.setIfInBounds_toArray, List.set_cons_zero, List.set_cons_succ]
  refine wpAnyG_load (i := 2) (dst := some 13) (ty := 23) (x := .tmp 2) (b := w.heap.size) (o := 0) (cs := (k.map (Value.int .u8))) (by kernel_rfl) (by kernel_rfl) (by kernel_rfl) (by kernel_rfl) (by kernel_rfl) (fun _ _ _ h => h) (by kernel_rfl) (by kernel_rfl) (by kernel_rfl) hS (by kernel_rfl) (fun _ h => h.1) uK rfl iK ?_
  simp only [Act.put, List.setIfInBounds_toArray, List.set_cons_zero, List.set_cons_succ]
  refine wpAnyG_any (i := 3) (v := ?_) rfl (by kernel_rfl) (by kernel_rfl) (by kernel_rfl) (fun _ _ _ h => h) (by kernel_rfl) (fun _ => hS) (by kernel_rfl) ?_ ?_
  rotate_left
  · intro _; go_simp; try with_reducible rfl
  simp only [Act.put, List.setIfInBounds_toArray, List.set_cons_zero, List.set_cons_succ]
  refine wpAnyG_load (i := 5) (dst := some 16) (ty := 23) (x := .tmp 2) (b := w.heap.size) (o := 0) (cs := (k.map (Value.int .u8))) (by kernel_rfl) (by kernel_rfl) (by kernel_rfl) (by kernel_rfl) (by kernel_rfl) (fun _ _ _ h => h) (by kernel_rfl) (by kernel_rfl) (by kernel_rfl) hS (by kernel_rfl) (fun _ h => h.1) uK rfl iK ?_
  simp only [Act.put, List.setIfInBounds_toArray, List.set_cons_zero, List.set_cons_succ]
  refine wpAnyG_any (i := 6) (v := ?_) rfl (by kernel_rfl) (by kernel_rfl) (by kernel_rfl) (fun _ _ _ h => h) (by kernel_rfl) (fun _ => hS) (by kernel_rfl) ?_ ?_
  rotate_left
  · intro _; go_simp; try with_reducible rfl
  simp only [Act.put, List.setIfInBounds_toArray, List.set_cons_zero, List.set_cons_succ]
  refine wpAnyG_one (i := 4) rfl (by kernel_rfl) (by kernel_rfl) (fun K hK => ?_)
  go_wp2_with (go_at_call 11; refine (hx1 _ hB3).mono ?_; rintro e w4 ⟨rfl, hb4⟩)
  have hB4 : Below w1.heap.size w1 w4 := hB3.trans (hb4.mono hB3.size)
  replace hS := keep _ hB4
  refine hK.out _ _ (fun _ => hS) ?_
  clear hK K
  refine wpAnyG_one (i := 7) rfl (by kernel_rfl) (by kernel_rfl) (fun K hK => ?_)
  go_wp2_with (go_at_call 12; refine (hx2 _ hB4).mono ?_; rintro e w5 ⟨rfl, hb5⟩)
  have hB5 : Below w1.heap.size w1 w5 := hB4.trans (hb5.mono hB4.size)
  replace hS := keep _ hB5
  refine hK.out _ _ (fun _ => hS) ?_
  clear hK K
  refine wpAnyG_any (i := 8) (v := .bool true) rfl (by kernel_rfl) (by kernel_rfl) (by kernel_rfl) (fun _ _ _ h => h) (by kernel_rfl) (fun _ => hS) (by kernel_rfl) ?_ ?_
  · intro _; go_simp
  simp only [Act.put, List.setIfInBounds_toArray, List.set_cons_zero, List.set_cons_succ]
  refine wpAnyG_any (i := 9) (v := .bool true) rfl (by kernel_rfl) (by kernel_rfl) (by kernel_rfl) (fun _ _ _ h => h) (by kernel_rfl) (fun _ => hS) (by kernel_rfl) ?_ ?_
  · intro _; go_simp
  simp only [Act.put, List.setIfInBounds_toArray, List.set_cons_zero, List.set_cons_succ]
  refine wpAnyG_any (i := 10) (v := ?_) rfl (by kernel_rfl) (by kernel_rfl) (by kernel_rfl) (fun _ _ _ h => h) (by kernel_rfl) (fun _ => hS) (by kernel_rfl) ?_ ?_
  rotate_left
  · intro _; go_simp; try with_reducible rfl
  simp only [Act.put, List.setIfInBounds_toArray, List.set_cons_zero, List.set_cons_succ]
  refine wpAnyG_any (i := 11) (v := ?_) rfl (by kernel_rfl) (by kernel_rfl) (by kernel_rfl) (fun _ _ _ h => h) (by kernel_rfl) (fun _ => hS) (by kernel_rfl) ?_ ?_
  rotate_left
  · intro _; go_simp; try with_reducible rfl
  simp only [Act.put, List.setIfInBounds_toArray, List.set_cons_zero, List.set_cons_succ]
  refine wpAnyG_read (i := 12) (v := ?_) rfl (by kernel_rfl) (by kernel_rfl) (by kernel_rfl) (fun _ _ _ h => h) (by kernel_rfl) (by kernel_rfl) (by kernel_rfl) hS (by kernel_rfl) ?_ ?_
  rotate_left
  · intro wx hSw; go_split_ands; go_simp; try with_reducible rfl
  simp only [Act.put, List.setIfInBounds_toArray, List.set_cons_zero, List.set_cons_succ]
  refine wpAnyG_any (i := 13) (v := ?_) rfl (by kernel_rfl) (by kernel_rfl) (by kernel_rfl) (fun _ _ _ h => h) (by kernel_rfl) (fun _ => hS) (by kernel_rfl) ?_ ?_
  rotate_left
  · intro _; go_simp; try with_reducible rfl
  simp only [Act.put, List.setIfInBounds_toArray, List.set_cons_zero, List.set_cons_succ]
  refine wpAnyG_read (i := 14) (v := ?_) rfl (by kernel_rfl) (by kernel_rfl) (by kernel_rfl) (fun _ _ _ h => h) (by kernel_rfl) (by kernel_rfl) (by kernel_rfl) hS (by kernel_rfl) ?_ ?_
  rotate_left
  · intro wx hSw; go_split_ands; go_simp; try with_reducible rfl
  simp only [Act.put, List.setIfInBounds_toArray, List.set_cons_zero, List.set_cons_succ]
  refine wpAnyG_any (i := 15) (v := .bool true) rfl (by kernel_rfl) (by kernel_rfl) (by kernel_rfl) (fun _ _ _ h => h) (by kernel_rfl) (fun _ => hS) (by kernel_rfl) ?_ ?_
  · intro _; go_simp
  simp only [Act.put, List.setIfInBounds_toArray, List.set_cons_zero, List.set_cons_succ]
  refine wpAnyG_any (i := 16) (v := .bool true) rfl (by kernel_rfl) (by kernel_rfl) (by kernel_rfl) (fun _ _ _ h => h) (by kernel_rfl) (fun _ => hS) (by kernel_rfl) ?_ ?_
  · intro _; go_simp
  simp only [Act.put, List.setIfInBounds_toArray, List.set_cons_zero, List.set_cons_succ]
  refine wpAnyG_one (i := 17) rfl (by kernel_rfl) (by kernel_rfl) (fun K hK => ?_)
  go_simp
  refine hK.out _ _ (fun h => absurd (show true = false from h) (by decide)) ?_
  clear hK K
  refine wpAnyG_done (by kernel_rfl) ?_ _
  go_wp2
  go_ret
  exact ⟨rfl, hB0.trans ((hB1.trans (hB5.mono hB1.size)).mono hB0.size)⟩
end Go.Proofs.Ytnblcdpahpcglaa
