/- disk: 'Fork'; the calls on no disk; 'live'. -/
import Derived.Test.YtknomnnbebhijabDoorDk8
namespace Go.Proofs.YtknomnnbebhijabDoor
open Go.RowKit Go.Shelf
set_option maxRecDepth 20000
set_option linter.unusedSimpArgs false

section
variable (base D : Nat) (v : Value) (z : List Int) (s : Nat) (w : World)
set_option maxHeartbeats 4000000 in
theorem dFork_any (hD : DiskAt w base D v z s) :
    Calls Tryd.prog 7 #[.pointer (some ⟨D, 0, none⟩)] w fun e w' => ∃ F v', e = .returned (.pointer (some ⟨F, 0, none⟩)) ∧ DiskAt w' w.heap.size F v' z s ∧ Below w.heap.size w w' := by
  obtain ⟨x, c, rfl, hb, hx⟩ := hD.buf.bytes
  have hcl := sclone_any x z.length c z w.drew (hb.below (Below.refl _ _).drew) (by have := hD.len; omega)
  have c0 : w.drew.cell? ⟨D, 0, none⟩ = some (.slice x z.length c) := hD.box.cell 0
  have c1 : w.drew.cell? ⟨D, 1, none⟩ = some (.int .i64 s) := hD.box.cell 1
  have hlt := hD.box.lt
  have HD : Veil (isB z ∧ z.length ≤ 65536 ∧ s ≤ z.length) := ⟨hD.isb, hD.len, hD.syn⟩
  obtain ⟨zl, hzl⟩ : ∃ q, z.length = q := ⟨_, rfl⟩
  rw [hzl] at hcl c0
  clear hb hx hD hzl
  go_enter Tryd.func7, Tryd.ntmps7
  go_upto_region 3 with fail
  refine wp_region_gate (fun w' => w'.cell? ⟨D, 0, none⟩ = some (.slice x zl c) ∧ w'.cell? ⟨D, 1, none⟩ = some (.int .i64 s)) 11 (by kernel_rfl) ?_
  have hS : (fun w' : World => w'.cell? ⟨D, 0, none⟩ = some (.slice x zl c) ∧ w'.cell? ⟨D, 1, none⟩ = some (.int .i64 s)) w.drew := ⟨c0, c1⟩
  refine wpAnyG_any (i := 0) (v := ?_) rfl (by kernel_rfl) (by kernel_rfl) (by kernel_rfl) (fun _ _ _ h => h) (by kernel_rfl) (fun _ => hS) (by kernel_rfl) ?_ ?_
  rotate_left
  · intro _; go_simp; try with_reducible rfl
  simp only [Act.put, List.getElem_toArray, List.getElem_cons_succ, List.getElem_cons_zero, List.setIfInBounds_toArray, List.set_cons_zero, List.set_cons_succ]
  refine wpAnyG_any (i := 1) (v := ?_) rfl (by kernel_rfl) (by kernel_rfl) (by kernel_rfl) (fun _ _ _ h => h) (by kernel_rfl) (fun _ => hS) (by kernel_rfl) ?_ ?_
  rotate_left
  · intro _; go_simp; try with_reducible rfl
  simp only [Act.put, List.getElem_toArray, List.getElem_cons_succ, List.getElem_cons_zero, List.setIfInBounds_toArray, List.set_cons_zero, List.set_cons_succ]
  refine wpAnyG_any (i := 2) (v := ?_) rfl (by kernel_rfl) (by kernel_rfl) (by kernel_rfl) (fun _ _ _ h => h) (by kernel_rfl) (fun _ => hS) (by kernel_rfl) ?_ ?_
  rotate_left
  · intro _; go_simp; try with_reducible rfl
  simp only [Act.put, List.getElem_toArray, List.getElem_cons_succ, List.getElem_cons_zero, List.setIfInBounds_toArray, List.set_cons_zero, List.set_cons_succ]
  refine wpAnyG_any (i := 5) (v := ?_) rfl (by kernel_rfl) (by kernel_rfl) (by kernel_rfl) (fun _ _ _ h => h) (by kernel_rfl) (fun _ => hS) (by kernel_rfl) ?_ ?_
  rotate_left
  · intro _; go_simp; try with_reducible rfl
  simp only [Act.put, List.getElem_toArray, List.getElem_cons_succ, List.getElem_cons_zero, List.setIfInBounds_toArray, List.set_cons_zero, List.set_cons_succ]
  refine wpAnyG_any (i := 6) (v := ?_) rfl (by kernel_rfl) (by kernel_rfl) (by kernel_rfl) (fun _ _ _ h => h) (by kernel_rfl) (fun _ => hS) (by kernel_rfl) ?_ ?_
  rotate_left
  · intro _; go_simp; try with_reducible rfl
  simp only [Act.put, List.getElem_toArray, List.getElem_cons_succ, List.getElem_cons_zero, List.setIfInBounds_toArray, List.set_cons_zero, List.set_cons_succ]
  refine wpAnyG_any (i := 7) (v := ?_) rfl (by kernel_rfl) (by kernel_rfl) (by kernel_rfl) (fun _ _ _ h => h) (by kernel_rfl) (fun _ => hS) (by kernel_rfl) ?_ ?_
  rotate_left
  · intro _; go_simp; try with_reducible rfl
  simp only [Act.put, List.getElem_toArray, List.getElem_cons_succ, List.getElem_cons_zero, List.setIfInBounds_toArray, List.set_cons_zero, List.set_cons_succ]
  refine wpAnyG_read (i := 3) (v := ?_) rfl (by kernel_rfl) (by kernel_rfl) (by kernel_rfl) (fun _ _ _ h => h) (by kernel_rfl) (by kernel_rfl) (by kernel_rfl) hS (by kernel_rfl) ?_ ?_
  rotate_left
  · intro wx hSw; go_split_ands; go_simp; try with_reducible rfl
  simp only [Act.put, List.getElem_toArray, List.getElem_cons_succ, List.getElem_cons_zero, List.setIfInBounds_toArray, List.set_cons_zero, List.set_cons_succ]
  refine wpAnyG_read (i := 8) (v := ?_) rfl (by kernel_rfl) (by kernel_rfl) (by kernel_rfl) (fun _ _ _ h => h) (by kernel_rfl) (by kernel_rfl) (by kernel_rfl) hS (by kernel_rfl) ?_ ?_
  rotate_left
  · intro wx hSw; go_split_ands; go_simp; try with_reducible rfl
  simp only [Act.put, List.getElem_toArray, List.getElem_cons_succ, List.getElem_cons_zero, List.setIfInBounds_toArray, List.set_cons_zero, List.set_cons_succ]
  refine wpAnyG_one (i := 4) rfl (by kernel_rfl) (by kernel_rfl) (fun K hK => ?_)
  refine wpx_call _ _ (by kernel_rfl) (hcl.mono ?_)
  rintro e W2 ⟨u2, rfl, ho2, hb2⟩
  refine ⟨_, rfl, ?_⟩
  replace hS : (fun w' : World => w'.cell? ⟨D, 0, none⟩ = some (.slice x zl c) ∧ w'.cell? ⟨D, 1, none⟩ = some (.int .i64 s)) W2 := ⟨(hb2.cell (p := ⟨D, 0, none⟩) hlt).trans c0, (hb2.cell (p := ⟨D, 1, none⟩) hlt).trans c1⟩
  have HO := Veil.mk ho2
  obtain ⟨x2, n2, c2, rfl, hn2⟩ := ho2.isSlice
  clear ho2 hn2
  refine hK.out _ _ (fun _ => hS) ?_
  clear hK K
  try simp only [Act.put, List.getElem_toArray, List.getElem_cons_succ, List.getElem_cons_zero, List.setIfInBounds_toArray, List.set_cons_zero, List.set_cons_succ]
  refine wpAnyG_any (i := 9) (v := ?_) rfl (by kernel_rfl) (by kernel_rfl) (by kernel_rfl) (fun _ _ _ h => h) (by kernel_rfl) (fun _ => hS) (by kernel_rfl) ?_ ?_
  rotate_left
  · intro _; go_simp; try with_reducible rfl
  simp only [Act.put, List.getElem_toArray, List.getElem_cons_succ, List.getElem_cons_zero, List.setIfInBounds_toArray, List.set_cons_zero, List.set_cons_succ]
  refine wpAnyG_one (i := 10) rfl (by kernel_rfl) (by kernel_rfl) (fun K hK => ?_)
  go_simp
  have hb3 : Below W2.heap.size W2 (W2.alloc (.cells #[.slice x2 n2 c2, .int .i64 s] 47)) := (Below.refl _ _).alloc (Nat.le_refl _) _
  have hW2 : w.heap.size ≤ W2.heap.size := hb2.size
  replace hS : (fun w' : World => w'.cell? ⟨D, 0, none⟩ = some (.slice x zl c) ∧ w'.cell? ⟨D, 1, none⟩ = some (.int .i64 s)) (W2.alloc (.cells #[.slice x2 n2 c2, .int .i64 s] 47)) := ⟨(hb3.cell (p := ⟨D, 0, none⟩) (by show D < _; omega)).trans hS.1, (hb3.cell (p := ⟨D, 1, none⟩) (by show D < _; omega)).trans hS.2⟩
  refine hK.out _ _ (fun _ => hS) ?_
  clear hK K
  try simp only [Act.put, List.getElem_toArray, List.getElem_cons_succ, List.getElem_cons_zero, List.setIfInBounds_toArray, List.set_cons_zero, List.set_cons_succ]
  refine wpAnyG_one (i := 11) rfl (by kernel_rfl) (by kernel_rfl) (fun K hK => ?_)
  go_simp
  refine hK.out _ _ (fun h => absurd (show true = false from h) (by decide)) ?_
  clear hK K
  try simp only [Act.put, List.getElem_toArray, List.getElem_cons_succ, List.getElem_cons_zero, List.setIfInBounds_toArray, List.set_cons_zero, List.set_cons_succ]
  refine wpAnyG_done (by kernel_rfl) ?_ _
  clear hcl
  go_wp2
  go_ret
  refine ⟨_, rfl, ⟨.slice x2 n2 c2, ⟨CellsD.new W2 47 [.slice x2 n2 c2, .int .i64 s], (BufAt.ofOwn HO.out).congr fun g hg => hb3.block g ((BufAt.ofOwn HO.out).own g hg).2.1, HD.out.1, HD.out.2.1, HD.out.2.2, hW2⟩⟩, ?_⟩
  exact ((Below.refl _ _).drew.trans (hb2.mono (Nat.le_refl _))).trans (hb3.mono hW2)
end
section
variable (w : World)
theorem nWrite (x : Option Addr) (len cap : Nat) : Calls Tryd.prog 12 #[.pointer none, .slice x len cap] w fun e w' => e = .returned (.int .i64 1) ∧ w' = w := by
  go_enter Tryd.func12, Tryd.ntmps12
  go_wp2
  go_ret
  exact ⟨rfl, rfl⟩
theorem nSync : Calls Tryd.prog 13 #[.pointer none] w fun e w' => e = .returned (.int .i64 1) ∧ w' = w := by
  go_enter Tryd.func13, Tryd.ntmps13
  go_wp2
  go_ret
  exact ⟨rfl, rfl⟩
theorem nPower (k : Int) : Calls Tryd.prog 14 #[.pointer none, .int .i64 k] w fun e w' => e = .returned (.int .i64 1) ∧ w' = w := by
  go_enter Tryd.func14, Tryd.ntmps14
  go_wp2
  go_ret
  exact ⟨rfl, rfl⟩
theorem nTrim : Calls Tryd.prog 15 #[.pointer none] w fun e w' => e = .returned (.int .i64 1) ∧ w' = w := by
  go_enter Tryd.func15, Tryd.ntmps15
  go_wp2
  go_ret
  exact ⟨rfl, rfl⟩
theorem nRecords : Calls Tryd.prog 16 #[.pointer none] w fun e w' => e = .returned (.slice none 0 0) ∧ w' = w := by
  go_enter Tryd.func16, Tryd.ntmps16
  go_wp2
  go_ret
  exact ⟨rfl, rfl⟩
theorem nBytes : Calls Tryd.prog 10 #[.pointer none] w fun e w' => e = .returned (.slice none 0 0) ∧ w' = w := by
  go_enter Tryd.func10, Tryd.ntmps10
  go_wp2
  go_ret
  exact ⟨rfl, rfl⟩
theorem nSynced : Calls Tryd.prog 17 #[.pointer none] w fun e w' => e = .returned (.int .i64 0) ∧ w' = w := by
  go_enter Tryd.func17, Tryd.ntmps17
  go_wp2
  go_ret
  exact ⟨rfl, rfl⟩
theorem nFork : Calls Tryd.prog 7 #[.pointer none] w fun e w' => e = .returned (.pointer none) ∧ w' = w := by
  go_enter Tryd.func7, Tryd.ntmps7
  go_wp2
  go_ret
  exact ⟨rfl, rfl⟩
end
end Go.Proofs.YtknomnnbebhijabDoor
