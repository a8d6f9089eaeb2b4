/- The statement ChachaBlocks, walked. -/
import Derived.Test.YtobfknpgkdiicaaCr
import Derived.Test.YtobfknpgkdiicaaGate2
namespace Go.Proofs.Ytobfknpgkdiicaa
open Go.RowKit
set_option maxRecDepth 20000
set_option linter.unusedSimpArgs false

theorem eq64 (l m : List Int) (hl : l.length = 64) (hm : m.length = 64) (w : World) : (Op.equalIn 10000 33 (.agg (row .u8 l)) (.agg (row .u8 m))).run Try.prog w = .ok (l == m) w :=
  run_equalIn_rows w 9998 .u8 l m Try.underlying33 Try.underlying5 (by kernel_rfl) (by kernel_rfl) hl hm
theorem guard64 : Try.prog.eqGuardType Try.prog.depth 33 = false := by kernel_rfl

theorem Holds.range {w : World} {g : Nat} {k : IntKind} {t : TypeId} {l : List Int} (h : Holds w g k t l) : w.rangeAt g 0 (l.map (Value.int k)) := fun j v hv => by
  have hj : j < l.length := by have := (List.getElem?_eq_some_iff.1 hv).1; simpa using this
  rw [Nat.zero_add, h.cell j hj, ← hv, List.getElem?_map, List.getElem?_eq_getElem hj]; rfl
theorem sizeKeyM' (k : List Int) (hk : k.length = 32) : (Try.prog.info? 30).map (·.size) = some (k.map (Value.int .u8)).length := by rw [List.length_map, hk]; exact sizeKey
theorem sizeNonceM' (n : List Int) (hn : n.length = 12) : (Try.prog.info? 32).map (·.size) = some (n.map (Value.int .u8)).length := by rw [List.length_map, hn]; exact sizeNonce

set_option maxHeartbeats 4000000 in
theorem blocks_walk (k n : List Int) (c : Int) (w : World) (hk : k.length = 32) (hn : n.length = 12) :
    Calls Try.prog 5 #[.agg (row .u8 k), .agg (row .u8 n), .int .u32 c] w fun e w' => e = .returned (.bool true) ∧ Below w.heap.size w w' := by
  have h1 : ∀ wx, Calls Try.prog 13 #[.agg (List.map (Value.int .u8) k).toArray, .agg (List.map (Value.int .u8) n).toArray, .int .u32 c] wx fun e w' => e = .returned (.agg (row .u8 (blockL k n c))) ∧ Below wx.heap.size wx w' := fun wx => block_any k n c wx hk hn
  have h2 : ∀ wx, Calls Try.prog 14 #[.agg (List.map (Value.int .u8) k).toArray, .agg (List.map (Value.int .u8) n).toArray, .int .u32 c] wx fun e w' => e = .returned (.agg (row .u8 (blockL k n c))) ∧ Below wx.heap.size wx w' := fun wx => refBlock_any k n c wx hk hn
  have hE := fun wx => eq64 (blockL k n c) (blockL k n c) (blockL_length k n c) (blockL_length k n c) wx
  have hgd := guard64
  obtain ⟨Z, hZ⟩ : ∃ Z, blockL k n c = Z := ⟨_, rfl⟩
  rw [hZ] at h1 h2 hE
  rw [beq_self_eq_true] at hE
  clear hZ
  have uK := Try.underlying30
  have uN := Try.underlying32
  have iK := sizeKeyM' k hk
  have iN := sizeNonceM' n hn
  go_enter Try.func5, Try.ntmps5
  go_upto_region 1 with fail
  refine forget (p := fun y => Code.wp _ _ _ _ y) (fun W0 => Below w.heap.size w W0 ∧ Holds W0 w.heap.size .u8 30 k ∧ Holds W0 (w.heap.size + 1) .u8 32 n) ⟨?_, ?_, ?_⟩ ?_
  · exact ((Below.refl _ _).alloc (Nat.le_refl _) _).alloc (by simp) _
  · exact (Holds.new w .u8 30 k).alloc _
  · have := (Holds.new (w.alloc (.cells (row .u8 k) 30)) .u8 32 n)
    rw [World.size_alloc] at this
    exact this
  rintro W0 ⟨hB0, hK0, hN0⟩
  have keep : ∀ w', Below W0.heap.size W0 w' → w'.rangeAt w.heap.size 0 (k.map (Value.int .u8)) ∧ w'.rangeAt (w.heap.size + 1) 0 (n.map (Value.int .u8)) := fun w' hb =>
    ⟨(hK0.below hb hK0.lt).range, (hN0.below hb hN0.lt).range⟩
  refine wp_region_gate (fun w' => w'.rangeAt w.heap.size 0 (k.map (Value.int .u8)) ∧ w'.rangeAt (w.heap.size + 1) 0 (n.map (Value.int .u8))) 12 (by kernel_rfl) ?_
  have hS := keep _ (Below.refl _ _).drew
  refine wpAnyG_one (i := 0) rfl (by kernel_rfl) (by kernel_rfl) (fun K hK => ?_)
  go_wp2_with (go_at_call 11; refine (live_any _).mono ?_; rintro e w1 ⟨rfl, rfl⟩)
  refine hK.out _ _ (fun _ => hS) ?_
  clear hK K
  refine wpAnyG_any (i := 1) (v := ?_) rfl (by kernel_rfl) (by kernel_rfl) (by kernel_rfl) (fun _ _ _ h => h) (by kernel_rfl) (fun _ => hS) (by kernel_rfl) ?_ ?_
  rotate_left
  · intro _; go_simp; try with_reducible rfl
  simp only [Act.put, List.setIfInBounds_toArray, List.set_cons_zero, List.set_cons_succ]
  refine wpAnyG_load (i := 2) (dst := some 9) (ty := 30) (x := .tmp 3) (b := w.heap.size) (o := 0) (cs := (k.map (Value.int .u8))) (by kernel_rfl) (by kernel_rfl) (by kernel_rfl) (by kernel_rfl) (by kernel_rfl) (fun _ _ _ h => h) (by kernel_rfl) (by kernel_rfl) (by kernel_rfl) hS (by kernel_rfl) (fun _ h => h.1) uK rfl iK ?_
  simp only [Act.put, List.setIfInBounds_toArray, List.set_cons_zero, List.set_cons_succ]
  refine wpAnyG_load (i := 3) (dst := some 10) (ty := 32) (x := .tmp 4) (b := (w.heap.size + 1)) (o := 0) (cs := (n.map (Value.int .u8))) (by kernel_rfl) (by kernel_rfl) (by kernel_rfl) (by kernel_rfl) (by kernel_rfl) (fun _ _ _ h => h) (by kernel_rfl) (by kernel_rfl) (by kernel_rfl) hS (by kernel_rfl) (fun _ h => h.2) uN rfl iN ?_
  simp only [Act.put, List.setIfInBounds_toArray, List.set_cons_zero, List.set_cons_succ]
  refine wpAnyG_any (i := 4) (v := ?_) rfl (by kernel_rfl) (by kernel_rfl) (by kernel_rfl) (fun _ _ _ h => h) (by kernel_rfl) (fun _ => hS) (by kernel_rfl) ?_ ?_
  rotate_left
  · intro _; go_simp; try with_reducible rfl
  simp only [Act.put, List.setIfInBounds_toArray, List.set_cons_zero, List.set_cons_succ]
  refine wpAnyG_load (i := 6) (dst := some 13) (ty := 30) (x := .tmp 3) (b := w.heap.size) (o := 0) (cs := (k.map (Value.int .u8))) (by kernel_rfl) (by kernel_rfl) (by kernel_rfl) (by kernel_rfl) (by kernel_rfl) (fun _ _ _ h => h) (by kernel_rfl) (by kernel_rfl) (by kernel_rfl) hS (by kernel_rfl) (fun _ h => h.1) uK rfl iK ?_
  simp only [Act.put, List.setIfInBounds_toArray, List.set_cons_zero, List.set_cons_succ]
  refine wpAnyG_load (i := 7) (dst := some 14) (ty := 32) (x := .tmp 4) (b := (w.heap.size + 1)) (o := 0) (cs := (n.map (Value.int .u8))) (by kernel_rfl) (by kernel_rfl) (by kernel_rfl) (by kernel_rfl) (by kernel_rfl) (fun _ _ _ h => h) (by kernel_rfl) (by kernel_rfl) (by kernel_rfl) hS (by kernel_rfl) (fun _ h => h.2) uN rfl iN ?_
  simp only [Act.put, List.setIfInBounds_toArray, List.set_cons_zero, List.set_cons_succ]
  refine wpAnyG_any (i := 8) (v := ?_) rfl (by kernel_rfl) (by kernel_rfl) (by kernel_rfl) (fun _ _ _ h => h) (by kernel_rfl) (fun _ => hS) (by kernel_rfl) ?_ ?_
  rotate_left
  · intro _; go_simp; try with_reducible rfl
  simp only [Act.put, List.setIfInBounds_toArray, List.set_cons_zero, List.set_cons_succ]
  refine wpAnyG_one (i := 5) rfl (by kernel_rfl) (by kernel_rfl) (fun K hK => ?_)
  go_wp2_with (go_at_call 13; refine (h1 _).mono ?_; rintro e w2 ⟨rfl, hb2⟩)
  have hB2 : Below W0.heap.size W0 w2 := ((Below.refl _ _).drew).trans hb2
  replace hS := keep _ hB2
  refine hK.out _ _ (fun _ => hS) ?_
  clear hK K
  refine wpAnyG_one (i := 9) rfl (by kernel_rfl) (by kernel_rfl) (fun K hK => ?_)
  go_wp2_with (go_at_call 14; refine (h2 _).mono ?_; rintro e w3 ⟨rfl, hb3⟩)
  have hB3 : Below W0.heap.size W0 w3 := hB2.trans (hb3.mono hB2.size)
  replace hS := keep _ hB3
  refine hK.out _ _ (fun _ => hS) ?_
  clear hK K
  refine wpAnyG_any (i := 10) (v := .bool true) rfl (by kernel_rfl) (by kernel_rfl) (by kernel_rfl) (fun _ _ _ h => h) (by kernel_rfl) (fun _ => hS) (by kernel_rfl) ?_ ?_
  · intro _; go_simp
  simp only [Act.put, List.setIfInBounds_toArray, List.set_cons_zero, List.set_cons_succ]
  refine wpAnyG_any (i := 11) (v := .bool true) rfl (by kernel_rfl) (by kernel_rfl) (by kernel_rfl) (fun _ _ _ h => h) (by kernel_rfl) (fun _ => hS) (by kernel_rfl) ?_ ?_
  · intro _; go_simp
  simp only [Act.put, List.setIfInBounds_toArray, List.set_cons_zero, List.set_cons_succ]
  refine wpAnyG_one (i := 12) rfl (by kernel_rfl) (by kernel_rfl) (fun K hK => ?_)
  go_simp
  refine hK.out _ _ (fun h => absurd (show true = false from h) (by decide)) ?_
  clear hK K
  refine wpAnyG_done (by kernel_rfl) ?_ _
  go_wp2
  go_ret
  exact ⟨rfl, hB0.trans (hB3.mono hB0.size)⟩
end Go.Proofs.Ytobfknpgkdiicaa
