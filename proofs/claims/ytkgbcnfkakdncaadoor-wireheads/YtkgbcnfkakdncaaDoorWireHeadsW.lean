/- The statement WireHeads, walked. -/
import Derived.Test.YtkgbcnfkakdncaaDoorWh3
import Derived.Test.YtkgbcnfkakdncaaDoorWl
import Derived.Test.YtkgbcnfkakdncaaDoorWh4
import Derived.Test.YtkgbcnfkakdncaaDoorGskip
namespace Go.Proofs.YtkgbcnfkakdncaaDoor
open Go.RowKit
set_option maxRecDepth 20000
set_option linter.unusedSimpArgs false

set_option maxHeartbeats 4000000 in
theorem heads_walk (l : List (Int × List Int)) (w : World) (hT : BTab w) (hl : ∀ h ∈ l, hdIn h) (h8 : l.length = 8) :
    Calls Tryd.prog 3 #[.agg (hdsC l).toArray] w fun e w' => e = .returned (.bool true) ∧ Below w.heap.size w w' := by
  have hok : hdOk l := fun h hh => (hl h hh).2.2.1
  have hln : (headsL l).length = 288 := by rw [headsL_len l hok, h8]
  have hin := headsL_in l hl
  have hhd := fun wx => Heads_any l wx hok h8
  have hrh := fun wx => refHeads_any l wx hok h8
  have hrd := fun (y : Option Addr) (m d : Nat) wx (h : Bytes wx y m d (headsL l)) => ReadHeads_any y m d (headsL l) wx h hin
  have hb : rhB (headsL l) = l := by unfold rhB; rw [if_pos hln, heads_back l hl h8]
  have he : rhE (headsL l) = 0 := by unfold rhE; rw [if_pos hln]
  rw [hb, he] at hrd
  have heq := fun wx => heads_same l hok h8 wx
  have hlv := fun wx (h : Below w.heap.size w wx) => live6_any wx (hT.below h)
  have hiC := sizeHeadsL l hok h8
  have h1C := hdsC_one l
  obtain ⟨Z, hzv, hz1, hZ⟩ := zeroHeads_has
  have hlC : Z.length = (hdsC l).length := by rw [hZ, hdsC_len hdZ (hdOk_rep 8), hdsC_len l hok, h8]; rfl
  obtain ⟨C, hC⟩ : ∃ q, hdsC l = q := ⟨_, rfl⟩
  rw [hC] at hhd hrh hrd heq hiC h1C hlC
  rw [hC]
  obtain ⟨B, hB⟩ : ∃ q, headsL l = q := ⟨_, rfl⟩
  rw [hB] at hhd hrh hrd hln
  have uC := Tryd.underlying27
  obtain ⟨SB, hSB⟩ : ∃ q, strOfNums B = q := ⟨_, rfl⟩
  have HC : Veil (∀ wx (y : Option Addr) (m d : Nat), Bytes wx y m d B → (convert 28 9 (.slice y m d)).run Tryd.prog wx = .ok (.string SB) wx) := ⟨fun wx y m d h => by rw [← hSB]; exact conv_bytes h⟩
  have HLN : Veil (B.length = 288) := ⟨hln⟩
  have hD0 := CellsAt.new w 27 C
  have hB0 : Below w.heap.size w (w.alloc (.cells C.toArray 27)) := (Below.refl _ _).alloc (Nat.le_refl _) _
  clear hT hl h8 hok hin hb he hZ hC hB hSB hln
  go_enter Tryd.func3, Tryd.ntmps3
  go_upto_region 1 with fail
  refine forget (p := fun y => Code.wp _ _ _ _ y) (fun W => Below w.heap.size w W ∧ CellsAt W w.heap.size 27 C) ⟨hB0, hD0⟩ ?_
  clear hB0 hD0
  rintro W0 ⟨hB0, hD0⟩
  have rE := hD0.whole2
  go_upto_region 2 with (first
    | (refine wpList_ldv rfl 27 _ rfl _ _ rfl C rE uC rfl hiC ?_)
    | (go_at_call 4; refine (hhd _).mono ?_; rintro e w1 ⟨v1, rfl, ho1, hb1⟩))
  obtain ⟨x1, n1, c1, rfl, hn1⟩ := ho1.isSlice
  rw [HLN.out] at hn1
  subst hn1
  have hy1 := ho1.bytes.2
  have hB1 := hB0.trans (hb1.mono hB0.size)
  have hD1 := hD0.far4 hb1
  clear ho1 hb1 hB0 hD0 rE
  have hr11 := hrd x1 288 c1 w1 hy1
  go_upto_region 3 with (first
    | (go_at_call 5; refine hr11.mono ?_; rintro e w2 ⟨rfl, hb2⟩; have hN2 := CellsAt.new w2 27 Z)
    | (refine wpList_stv rfl 27 _ _ rfl _ rfl rfl hN2 hiC hlC h1C ?_))
  have hB2 := hB1.trans (hb2.mono hB1.size)
  have hD2 := hD1.far4 hb2
  have hy2 := hy1.below hb2
  have hlt2 := hD2.lt
  have hD3 := (hD2.alloc (.cells Z.toArray 27)).setRowOther2 (g' := w2.heap.size) C.toArray (by omega)
  have hy3 : Bytes ((w2.alloc (.cells Z.toArray 27)).setRow w2.heap.size C.toArray) x1 288 c1 B := hy2.below (below_setRow ((Below.refl _ _).alloc (Nat.le_refl _) _) (Nat.le_refl _) _)
  refine forget (p := fun y => Code.wp _ _ _ _ y) (fun W => Below w.heap.size w W ∧ CellsAt W w.heap.size 27 C ∧ CellsAt W w2.heap.size 27 C ∧ Bytes W x1 288 c1 B) ⟨below_setRow (hB2.alloc hB2.size _) hB2.size _, hD3, hN2.setRow _, hy3⟩ ?_
  obtain ⟨G5, hG5⟩ : ∃ q, w2.heap.size = q := ⟨_, rfl⟩
  rw [hG5]
  clear hG5 hB2 hD2 hD3 hN2 hb2 hr11 hy1 hy2 hy3 hB1 hD1 hrd hlt2 hhd
  rintro W3 ⟨hB3, hD3, hF3, hy3⟩
  have keep : ∀ w', Below W3.heap.size W3 w' → w'.rangeAt w.heap.size 0 C ∧ w'.rangeAt G5 0 C ∧ (convert 28 9 (.slice x1 288 c1)).run Tryd.prog w' = .ok (.string SB) w' := fun w' hb => ⟨(hD3.far4 hb).whole2, (hF3.far4 hb).whole2, HC.out w' x1 288 c1 (hy3.below hb)⟩
  clear hD3 hF3 hy3
  refine wp_region_gate (fun w' => w'.rangeAt w.heap.size 0 C ∧ w'.rangeAt G5 0 C ∧ (convert 28 9 (.slice x1 288 c1)).run Tryd.prog w' = .ok (.string SB) w') 23 (by kernel_rfl) ?_
  refine wpAnyG_one (i := 0) rfl (by kernel_rfl) (by kernel_rfl) (fun K hK => ?_)
  go_wp2_with (go_at_call 6; refine (hlv _ hB3.drew).mono ?_; rintro e w4 ⟨rfl, hb4⟩)
  have hb34 : Below W3.heap.size W3 w4 := ((Below.refl _ _).drew).trans hb4
  have hB4 := hB3.trans (hb34.mono hB3.size)
  have hS := keep _ hb34
  clear hb4 hlv
  refine hK.out _ _ (fun _ => hS) ?_
  clear hK K
  refine wpAnyG_any (i := 1) (v := ?_) rfl (by kernel_rfl) (by kernel_rfl) (by kernel_rfl) (fun _ _ _ h => h) (by kernel_rfl) (fun _ => hS) (by kernel_rfl) ?_ ?_
  rotate_left
  · intro _; go_simp; try with_reducible rfl
  simp only [Act.put, List.setIfInBounds_toArray, List.set_cons_zero, List.set_cons_succ]
  refine wpAnyG_any (i := 2) (v := ?_) rfl (by kernel_rfl) (by kernel_rfl) (by kernel_rfl) (fun _ _ _ h => h) (by kernel_rfl) (fun _ => hS) (by kernel_rfl) ?_ ?_
  rotate_left
  · intro _; go_simp; try with_reducible rfl
  simp only [Act.put, List.setIfInBounds_toArray, List.set_cons_zero, List.set_cons_succ]
  refine wpAnyG_read (i := 3) (v := ?_) rfl (by kernel_rfl) (by kernel_rfl) (by kernel_rfl) (fun _ _ _ h => h) (by kernel_rfl) (by kernel_rfl) (by kernel_rfl) hS (by kernel_rfl) ?_ ?_
  rotate_left
  · intro wx hSw; go_split_ands; go_simp; try with_reducible rfl
  simp only [Act.put, List.setIfInBounds_toArray, List.set_cons_zero, List.set_cons_succ]
  refine wpAnyG_load (i := 4) (dst := some 17) (ty := 27) (x := .tmp 1) (b := w.heap.size) (o := (0)) (cs := (C)) (by kernel_rfl) (by kernel_rfl) (by kernel_rfl) (by kernel_rfl) (by kernel_rfl) (fun _ _ _ h => h) (by kernel_rfl) (by kernel_rfl) (by kernel_rfl) hS (by kernel_rfl) (fun _ h => h.1) uC rfl hiC ?_
  simp only [Act.put, List.setIfInBounds_toArray, List.set_cons_zero, List.set_cons_succ]
  refine wpAnyG_one (i := 5) rfl (by kernel_rfl) (by kernel_rfl) (fun K hK => ?_)
  go_wp2_with (go_at_call 7; refine (hrh _).mono ?_; rintro e w5 ⟨v5, rfl, ho5, hb5⟩; obtain ⟨x5, n5, c5, rfl, hn5⟩ := ho5.isSlice; clear hn5)
  have hb35 := hb34.trans (hb5.mono hb34.size)
  have hB5 := hB4.trans (hb5.mono hB4.size)
  have hcv := HC.out w5 x5 n5 c5 ho5.bytes.2
  replace hS := keep _ hb35
  clear ho5
  refine hK.out _ _ (fun _ => hS) ?_
  clear hK K
  refine wpAnyG_one (i := 6) rfl (by kernel_rfl) (by kernel_rfl) (fun K hK => ?_)
  go_simp
  refine hK.out _ _ (fun _ => hS) ?_
  clear hK K
  refine wpAnyG_any (i := 7) (v := .bool true) rfl (by kernel_rfl) (by kernel_rfl) (by kernel_rfl) (fun _ _ _ h => h) (by kernel_rfl) (fun _ => hS) (by kernel_rfl) ?_ ?_
  · intro _; go_simp
  simp only [Act.put, List.setIfInBounds_toArray, List.set_cons_zero, List.set_cons_succ]
  refine wpAnyG_any (i := 8) (v := .bool true) rfl (by kernel_rfl) (by kernel_rfl) (by kernel_rfl) (fun _ _ _ h => h) (by kernel_rfl) (fun _ => hS) (by kernel_rfl) ?_ ?_
  · intro _; go_simp
  simp only [Act.put, List.setIfInBounds_toArray, List.set_cons_zero, List.set_cons_succ]
  refine wpAnyG_any (i := 9) (v := .bool true) rfl (by kernel_rfl) (by kernel_rfl) (by kernel_rfl) (fun _ _ _ h => h) (by kernel_rfl) (fun _ => hS) (by kernel_rfl) ?_ ?_
  · intro _; go_simp
  simp only [Act.put, List.setIfInBounds_toArray, List.set_cons_zero, List.set_cons_succ]
  refine wpAnyG_any (i := 10) (v := ?_) rfl (by kernel_rfl) (by kernel_rfl) (by kernel_rfl) (fun _ _ _ h => h) (by kernel_rfl) (fun _ => hS) (by kernel_rfl) ?_ ?_
  rotate_left
  · intro _; go_simp; try with_reducible rfl
  simp only [Act.put, List.setIfInBounds_toArray, List.set_cons_zero, List.set_cons_succ]
  refine wpAnyG_any (i := 11) (v := .bool true) rfl (by kernel_rfl) (by kernel_rfl) (by kernel_rfl) (fun _ _ _ h => h) (by kernel_rfl) (fun _ => hS) (by kernel_rfl) ?_ ?_
  · intro _; go_simp
  simp only [Act.put, List.setIfInBounds_toArray, List.set_cons_zero, List.set_cons_succ]
  refine wpAnyG_any (i := 12) (v := .bool true) rfl (by kernel_rfl) (by kernel_rfl) (by kernel_rfl) (fun _ _ _ h => h) (by kernel_rfl) (fun _ => hS) (by kernel_rfl) ?_ ?_
  · intro _; go_simp
  simp only [Act.put, List.setIfInBounds_toArray, List.set_cons_zero, List.set_cons_succ]
  refine wpAnyG_any (i := 13) (v := .bool true) rfl (by kernel_rfl) (by kernel_rfl) (by kernel_rfl) (fun _ _ _ h => h) (by kernel_rfl) (fun _ => hS) (by kernel_rfl) ?_ ?_
  · intro _; go_simp
  simp only [Act.put, List.setIfInBounds_toArray, List.set_cons_zero, List.set_cons_succ]
  refine wpAnyG_load (i := 14) (dst := some 27) (ty := 27) (x := .tmp 4) (b := G5) (o := (0)) (cs := (C)) (by kernel_rfl) (by kernel_rfl) (by kernel_rfl) (by kernel_rfl) (by kernel_rfl) (fun _ _ _ h => h) (by kernel_rfl) (by kernel_rfl) (by kernel_rfl) hS (by kernel_rfl) (fun _ h => h.2.1) uC rfl hiC ?_
  simp only [Act.put, List.setIfInBounds_toArray, List.set_cons_zero, List.set_cons_succ]
  refine wpAnyG_load (i := 15) (dst := some 28) (ty := 27) (x := .tmp 1) (b := w.heap.size) (o := (0)) (cs := (C)) (by kernel_rfl) (by kernel_rfl) (by kernel_rfl) (by kernel_rfl) (by kernel_rfl) (fun _ _ _ h => h) (by kernel_rfl) (by kernel_rfl) (by kernel_rfl) hS (by kernel_rfl) (fun _ h => h.1) uC rfl hiC ?_
  simp only [Act.put, List.setIfInBounds_toArray, List.set_cons_zero, List.set_cons_succ]
  refine wpAnyG_any (i := 16) (v := .bool true) rfl (by kernel_rfl) (by kernel_rfl) (by kernel_rfl) (fun _ _ _ h => h) (by kernel_rfl) (fun _ => hS) (by kernel_rfl) ?_ ?_
  · intro _; go_simp
  simp only [Act.put, List.setIfInBounds_toArray, List.set_cons_zero, List.set_cons_succ]
  refine wpAnyG_any (i := 17) (v := .bool true) rfl (by kernel_rfl) (by kernel_rfl) (by kernel_rfl) (fun _ _ _ h => h) (by kernel_rfl) (fun _ => hS) (by kernel_rfl) ?_ ?_
  · intro _; go_simp
  simp only [Act.put, List.setIfInBounds_toArray, List.set_cons_zero, List.set_cons_succ]
  refine wpAnyG_any (i := 18) (v := .bool true) rfl (by kernel_rfl) (by kernel_rfl) (by kernel_rfl) (fun _ _ _ h => h) (by kernel_rfl) (fun _ => hS) (by kernel_rfl) ?_ ?_
  · intro _; go_simp
  simp only [Act.put, List.setIfInBounds_toArray, List.set_cons_zero, List.set_cons_succ]
  refine wpAnyG_any (i := 19) (v := ?_) rfl (by kernel_rfl) (by kernel_rfl) (by kernel_rfl) (fun _ _ _ h => h) (by kernel_rfl) (fun _ => hS) (by kernel_rfl) ?_ ?_
  rotate_left
  · intro _; go_simp; try with_reducible rfl
  simp only [Act.put, List.setIfInBounds_toArray, List.set_cons_zero, List.set_cons_succ]
  refine wpAnyG_any (i := 20) (v := ?_) rfl (by kernel_rfl) (by kernel_rfl) (by kernel_rfl) (fun _ _ _ h => h) (by kernel_rfl) (fun _ => hS) (by kernel_rfl) ?_ ?_
  rotate_left
  · intro _; go_simp; try with_reducible rfl
  simp only [Act.put, List.setIfInBounds_toArray, List.set_cons_zero, List.set_cons_succ]
  refine wpAnyG_any (i := 21) (v := .bool true) rfl (by kernel_rfl) (by kernel_rfl) (by kernel_rfl) (fun _ _ _ h => h) (by kernel_rfl) (fun _ => hS) (by kernel_rfl) ?_ ?_
  · intro _; go_simp
  simp only [Act.put, List.setIfInBounds_toArray, List.set_cons_zero, List.set_cons_succ]
  refine wpAnyG_any (i := 22) (v := .bool true) rfl (by kernel_rfl) (by kernel_rfl) (by kernel_rfl) (fun _ _ _ h => h) (by kernel_rfl) (fun _ => hS) (by kernel_rfl) ?_ ?_
  · intro _; go_simp
  simp only [Act.put, List.setIfInBounds_toArray, List.set_cons_zero, List.set_cons_succ]
  refine wpAnyG_one (i := 23) rfl (by kernel_rfl) (by kernel_rfl) (fun K hK => ?_)
  go_simp
  refine hK.out _ _ (fun h => absurd (show true = false from h) (by decide)) ?_
  clear hK K
  refine wpAnyG_done (by kernel_rfl) ?_ _
  go_wp2
  go_ret
  exact ⟨rfl, hB5⟩
end Go.Proofs.YtkgbcnfkakdncaaDoor
