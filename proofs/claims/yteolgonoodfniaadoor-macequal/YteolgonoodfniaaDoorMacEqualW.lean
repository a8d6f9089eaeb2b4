/- The statement MacEqual, walked. -/
import Derived.Test.YteolgonoodfniaaDoorLive2
import Derived.Test.YteolgonoodfniaaDoorStrB
namespace Go.Proofs.YteolgonoodfniaaDoor
open Go.RowKit
set_option maxRecDepth 20000
set_option linter.unusedSimpArgs false

set_option maxHeartbeats 4000000 in
theorem equal_walk (x : Option Addr) (len cap : Nat) (z : List Int) (y : Option Addr) (lb cb : Nat) (b : List Int) (w : World) (hKT : KTab w) (hx : Bytes w x len cap z) (hz : ∀ v ∈ z, 0 ≤ v ∧ v ≤ 255) (hy : Bytes w y lb cb b) (hb : ∀ v ∈ b, 0 ≤ v ∧ v ≤ 255) :
    Calls Tryd.prog 7 #[.slice x len cap, .slice y lb cb] w fun e w' => e = .returned (.bool true) ∧ Below w.heap.size w w' := by
  have hE : ∀ (x : Option Addr) (len cap : Nat) (z : List Int) (y : Option Addr) (lb cb : Nat) (b : List Int), Bytes w x len cap z → Bytes w y lb cb b → (∀ v ∈ z, 0 ≤ v ∧ v ≤ 255) → (∀ v ∈ b, 0 ≤ v ∧ v ≤ 255) → ∀ wx, Below w.heap.size w wx → Calls Tryd.prog 18 #[.slice x len cap, .slice y lb cb] wx fun e w' => e = .returned (.bool (z == b)) ∧ Below wx.heap.size wx w' := fun x len cap z y lb cb b h1 h2 h3 h4 wx hb =>
    (equal_any x len cap z y lb cb b wx (h1.below hb) (h2.below hb) h3 h4).mono fun e w' ⟨he, n, hn⟩ => by
      subst hn
      exact ⟨he, below_drewN (Below.refl _ _) n⟩
  have hE1 := hE x len cap z y lb cb b hx hy hz hb
  have hE2 := hE y lb cb b x len cap z hy hx hb hz
  have hE3 := hE x len cap z x len cap z hx hx hz hz
  have hbz : (b == z) = (z == b) := Bool.beq_comm
  rw [hbz] at hE2
  rw [beq_self_eq_true] at hE3
  have hstr : ((strOfNums z).toList == (strOfNums b).toList) = (z == b) := strEq z b hz hb
  have cx := fun wx (h : Below w.heap.size w wx) => conv_bytes (hx.below h)
  have cy := fun wx (h : Below w.heap.size w wx) => conv_bytes (hy.below h)
  obtain ⟨T, hT⟩ : ∃ q, (z == b) = q := ⟨_, rfl⟩
  rw [hT] at hE1 hE2 hstr
  obtain ⟨SA, hSA⟩ : ∃ s, strOfNums z = s := ⟨_, rfl⟩
  obtain ⟨SB, hSB⟩ : ∃ s, strOfNums b = s := ⟨_, rfl⟩
  rw [hSA] at cx hstr
  rw [hSB] at cy hstr
  clear hE hbz hT hSA hSB hx hy hz hb
  go_enter Tryd.func7, Tryd.ntmps7
  go_upto_region 1 with fail
  refine wp_region_gate (fun w' => (convert 22 9 (.slice x len cap)).run Tryd.prog w' = .ok (.string SA) w' ∧ (convert 22 9 (.slice y lb cb)).run Tryd.prog w' = .ok (.string SB) w') 26 (by kernel_rfl) ?_
  refine wpAnyG_one (i := 0) rfl (by kernel_rfl) (by kernel_rfl) (fun K hK => ?_)
  have hB0 : Below w.heap.size w w.drew := (Below.refl _ _).drew
  go_wp2_with (go_at_call 10; refine (live2_any _ (hKT.below hB0)).mono ?_; rintro e w1 ⟨rfl, hb1⟩)
  have hB1 : Below w.heap.size w w1 := hB0.trans hb1
  have hS := And.intro (cx _ hB1) (cy _ hB1)
  refine hK.out _ _ (fun _ => hS) ?_
  clear hK K
  refine wpAnyG_any (i := 1) (v := ?_) rfl (by kernel_rfl) (by kernel_rfl) (by kernel_rfl) (fun _ _ _ h => h) (by kernel_rfl) (fun _ => hS) (by kernel_rfl) ?_ ?_
  rotate_left
  · intro _; go_simp; try with_reducible rfl
  simp only [Act.put, List.setIfInBounds_toArray, List.set_cons_zero, List.set_cons_succ]
  refine wpAnyG_any (i := 2) (v := ?_) rfl (by kernel_rfl) (by kernel_rfl) (by kernel_rfl) (fun _ _ _ h => h) (by kernel_rfl) (fun _ => hS) (by kernel_rfl) ?_ ?_
  rotate_left
  · intro _; go_simp; try with_reducible rfl
  simp only [Act.put, List.setIfInBounds_toArray, List.set_cons_zero, List.set_cons_succ]
  refine wpAnyG_any (i := 3) (v := ?_) rfl (by kernel_rfl) (by kernel_rfl) (by kernel_rfl) (fun _ _ _ h => h) (by kernel_rfl) (fun _ => hS) (by kernel_rfl) ?_ ?_
  rotate_left
  · intro _; go_simp; try with_reducible rfl
  simp only [Act.put, List.setIfInBounds_toArray, List.set_cons_zero, List.set_cons_succ]
  refine wpAnyG_any (i := 5) (v := ?_) rfl (by kernel_rfl) (by kernel_rfl) (by kernel_rfl) (fun _ _ _ h => h) (by kernel_rfl) (fun _ => hS) (by kernel_rfl) ?_ ?_
  rotate_left
  · intro _; go_simp; try with_reducible rfl
  simp only [Act.put, List.setIfInBounds_toArray, List.set_cons_zero, List.set_cons_succ]
  refine wpAnyG_any (i := 7) (v := ?_) rfl (by kernel_rfl) (by kernel_rfl) (by kernel_rfl) (fun _ _ _ h => h) (by kernel_rfl) (fun _ => hS) (by kernel_rfl) ?_ ?_
  rotate_left
  · intro _; go_simp; try with_reducible rfl
  simp only [Act.put, List.setIfInBounds_toArray, List.set_cons_zero, List.set_cons_succ]
  refine wpAnyG_read (i := 6) (v := ?_) rfl (by kernel_rfl) (by kernel_rfl) (by kernel_rfl) (fun _ _ _ h => h) (by kernel_rfl) (by kernel_rfl) (by kernel_rfl) hS (by kernel_rfl) ?_ ?_
  rotate_left
  · intro wx hSw; go_split_ands; go_simp; try with_reducible rfl
  simp only [Act.put, List.setIfInBounds_toArray, List.set_cons_zero, List.set_cons_succ]
  refine wpAnyG_read (i := 8) (v := ?_) rfl (by kernel_rfl) (by kernel_rfl) (by kernel_rfl) (fun _ _ _ h => h) (by kernel_rfl) (by kernel_rfl) (by kernel_rfl) hS (by kernel_rfl) ?_ ?_
  rotate_left
  · intro wx hSw; go_split_ands; go_simp; try with_reducible rfl
  simp only [Act.put, List.setIfInBounds_toArray, List.set_cons_zero, List.set_cons_succ]
  refine wpAnyG_any (i := 9) (v := .bool T) rfl (by kernel_rfl) (by kernel_rfl) (by kernel_rfl) (fun _ _ _ h => h) (by kernel_rfl) (fun _ => hS) (by kernel_rfl) ?_ ?_
  · intro _; go_simp
  simp only [Act.put, List.setIfInBounds_toArray, List.set_cons_zero, List.set_cons_succ]
  refine wpAnyG_one (i := 4) rfl (by kernel_rfl) (by kernel_rfl) (fun K hK => ?_)
  go_wp2_with (go_at_call 18; refine (hE1 _ hB1).mono ?_; rintro e w2 ⟨rfl, hb2⟩)
  have hB2 : Below w.heap.size w w2 := hB1.trans (hb2.mono hB1.size)
  replace hS := And.intro (cx _ hB2) (cy _ hB2)
  refine hK.out _ _ (fun _ => hS) ?_
  clear hK K
  refine wpAnyG_any (i := 10) (v := .bool true) rfl (by kernel_rfl) (by kernel_rfl) (by kernel_rfl) (fun _ _ _ h => h) (by kernel_rfl) (fun _ => hS) (by kernel_rfl) ?_ ?_
  · intro _; go_simp
  simp only [Act.put, List.setIfInBounds_toArray, List.set_cons_zero, List.set_cons_succ]
  refine wpAnyG_any (i := 11) (v := .bool true) rfl (by kernel_rfl) (by kernel_rfl) (by kernel_rfl) (fun _ _ _ h => h) (by kernel_rfl) (fun _ => hS) (by kernel_rfl) ?_ ?_
  · intro _; go_simp
  simp only [Act.put, List.setIfInBounds_toArray, List.set_cons_zero, List.set_cons_succ]
  refine wpAnyG_any (i := 12) (v := ?_) rfl (by kernel_rfl) (by kernel_rfl) (by kernel_rfl) (fun _ _ _ h => h) (by kernel_rfl) (fun _ => hS) (by kernel_rfl) ?_ ?_
  rotate_left
  · intro _; go_simp; try with_reducible rfl
  simp only [Act.put, List.setIfInBounds_toArray, List.set_cons_zero, List.set_cons_succ]
  refine wpAnyG_any (i := 13) (v := ?_) rfl (by kernel_rfl) (by kernel_rfl) (by kernel_rfl) (fun _ _ _ h => h) (by kernel_rfl) (fun _ => hS) (by kernel_rfl) ?_ ?_
  rotate_left
  · intro _; go_simp; try with_reducible rfl
  simp only [Act.put, List.setIfInBounds_toArray, List.set_cons_zero, List.set_cons_succ]
  refine wpAnyG_any (i := 14) (v := ?_) rfl (by kernel_rfl) (by kernel_rfl) (by kernel_rfl) (fun _ _ _ h => h) (by kernel_rfl) (fun _ => hS) (by kernel_rfl) ?_ ?_
  rotate_left
  · intro _; go_simp; try with_reducible rfl
  simp only [Act.put, List.setIfInBounds_toArray, List.set_cons_zero, List.set_cons_succ]
  refine wpAnyG_any (i := 16) (v := ?_) rfl (by kernel_rfl) (by kernel_rfl) (by kernel_rfl) (fun _ _ _ h => h) (by kernel_rfl) (fun _ => hS) (by kernel_rfl) ?_ ?_
  rotate_left
  · intro _; go_simp; try with_reducible rfl
  simp only [Act.put, List.setIfInBounds_toArray, List.set_cons_zero, List.set_cons_succ]
  refine wpAnyG_any (i := 17) (v := ?_) rfl (by kernel_rfl) (by kernel_rfl) (by kernel_rfl) (fun _ _ _ h => h) (by kernel_rfl) (fun _ => hS) (by kernel_rfl) ?_ ?_
  rotate_left
  · intro _; go_simp; try with_reducible rfl
  simp only [Act.put, List.setIfInBounds_toArray, List.set_cons_zero, List.set_cons_succ]
  refine wpAnyG_one (i := 15) rfl (by kernel_rfl) (by kernel_rfl) (fun K hK => ?_)
  go_wp2_with (go_at_call 18; refine (hE1 _ hB2).mono ?_; rintro e w3 ⟨rfl, hb3⟩)
  have hB3 : Below w.heap.size w w3 := hB2.trans (hb3.mono hB2.size)
  replace hS := And.intro (cx _ hB3) (cy _ hB3)
  refine hK.out _ _ (fun _ => hS) ?_
  clear hK K
  refine wpAnyG_one (i := 18) rfl (by kernel_rfl) (by kernel_rfl) (fun K hK => ?_)
  go_wp2_with (go_at_call 18; refine (hE2 _ hB3).mono ?_; rintro e w4 ⟨rfl, hb4⟩)
  have hB4 : Below w.heap.size w w4 := hB3.trans (hb4.mono hB3.size)
  replace hS := And.intro (cx _ hB4) (cy _ hB4)
  refine hK.out _ _ (fun _ => hS) ?_
  clear hK K
  refine wpAnyG_any (i := 19) (v := .bool true) rfl (by kernel_rfl) (by kernel_rfl) (by kernel_rfl) (fun _ _ _ h => h) (by kernel_rfl) (fun _ => hS) (by kernel_rfl) ?_ ?_
  · intro _; go_simp
  simp only [Act.put, List.setIfInBounds_toArray, List.set_cons_zero, List.set_cons_succ]
  refine wpAnyG_any (i := 20) (v := .bool true) rfl (by kernel_rfl) (by kernel_rfl) (by kernel_rfl) (fun _ _ _ h => h) (by kernel_rfl) (fun _ => hS) (by kernel_rfl) ?_ ?_
  · intro _; go_simp
  simp only [Act.put, List.setIfInBounds_toArray, List.set_cons_zero, List.set_cons_succ]
  refine wpAnyG_any (i := 21) (v := ?_) rfl (by kernel_rfl) (by kernel_rfl) (by kernel_rfl) (fun _ _ _ h => h) (by kernel_rfl) (fun _ => hS) (by kernel_rfl) ?_ ?_
  rotate_left
  · intro _; go_simp; try with_reducible rfl
  simp only [Act.put, List.setIfInBounds_toArray, List.set_cons_zero, List.set_cons_succ]
  refine wpAnyG_any (i := 22) (v := ?_) rfl (by kernel_rfl) (by kernel_rfl) (by kernel_rfl) (fun _ _ _ h => h) (by kernel_rfl) (fun _ => hS) (by kernel_rfl) ?_ ?_
  rotate_left
  · intro _; go_simp; try with_reducible rfl
  simp only [Act.put, List.setIfInBounds_toArray, List.set_cons_zero, List.set_cons_succ]
  refine wpAnyG_any (i := 23) (v := ?_) rfl (by kernel_rfl) (by kernel_rfl) (by kernel_rfl) (fun _ _ _ h => h) (by kernel_rfl) (fun _ => hS) (by kernel_rfl) ?_ ?_
  rotate_left
  · intro _; go_simp; try with_reducible rfl
  simp only [Act.put, List.setIfInBounds_toArray, List.set_cons_zero, List.set_cons_succ]
  refine wpAnyG_one (i := 24) rfl (by kernel_rfl) (by kernel_rfl) (fun K hK => ?_)
  go_wp2_with (go_at_call 18; refine (hE3 _ hB4).mono ?_; rintro e w5 ⟨rfl, hb5⟩)
  have hB5 : Below w.heap.size w w5 := hB4.trans (hb5.mono hB4.size)
  replace hS := And.intro (cx _ hB5) (cy _ hB5)
  refine hK.out _ _ (fun _ => hS) ?_
  clear hK K
  refine wpAnyG_any (i := 25) (v := .bool true) rfl (by kernel_rfl) (by kernel_rfl) (by kernel_rfl) (fun _ _ _ h => h) (by kernel_rfl) (fun _ => hS) (by kernel_rfl) ?_ ?_
  · intro _; go_simp
  simp only [Act.put, List.setIfInBounds_toArray, List.set_cons_zero, List.set_cons_succ]
  refine wpAnyG_one (i := 26) rfl (by kernel_rfl) (by kernel_rfl) (fun K hK => ?_)
  go_simp
  refine hK.out _ _ (fun h => absurd (show true = false from h) (by decide)) ?_
  clear hK K
  refine wpAnyG_done (by kernel_rfl) ?_ _
  go_wp2
  go_ret
  exact ⟨rfl, hB5⟩
end Go.Proofs.YteolgonoodfniaaDoor
