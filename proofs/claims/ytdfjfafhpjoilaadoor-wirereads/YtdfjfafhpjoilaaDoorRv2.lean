/- The reference of wire: 'Four', 'Dot'. -/
import Derived.Test.YtdfjfafhpjoilaaDoorRe2
namespace Go.Proofs.YtdfjfafhpjoilaaDoor
open Go.RowKit
set_option maxRecDepth 20000
set_option linter.unusedSimpArgs false

theorem bytes_cells {w : World} {x : Option Addr} {n c : Nat} {z : List Int} (h : Bytes w x n c z) (h0 : 0 < n) : ∃ b off, x = some ⟨b, off, none⟩ ∧ ∀ j, j < n → w.cell? ⟨b, off + j, none⟩ = some (.int .u8 (z[j]?.getD 0)) := by
  rcases h.at_ with h1 | h
  · omega
  · exact h
set_option maxHeartbeats 4000000 in
theorem refNum_any (x : Option Addr) (c : Nat) (z : List Int) (w : World) (hb0 : Bytes w x 4 c z) (hz : ∀ v ∈ z, b8 v) :
    Calls Tryd.prog 12 #[.slice x 4 c] w fun e w' => e = .returned (.int .u32 (at4 z 0)) ∧ Below w.heap.size w w' := by
  have ha := b8_get hz 0
  have hb := b8_get hz 1
  have hc := b8_get hz 2
  have hd := b8_get hz 3
  have HV : Veil (bits .or .u32 (bits .or .u32 (bits .or .u32 (z[0]?.getD 0 * 16777216) (z[1]?.getD 0 * 65536)) (z[2]?.getD 0 * 256)) (z[3]?.getD 0) = at4 z 0) := ⟨val4_or _ _ _ _ ha hb hc hd⟩
  obtain ⟨b, off, rfl, hcl⟩ := bytes_cells hb0 (by omega)
  have c0 : w.cell? ⟨b, off, none⟩ = some (.int .u8 (z[0]?.getD 0)) := hcl 0 (by omega)
  have c1 := hcl 1 (by omega)
  have c2 := hcl 2 (by omega)
  have c3 := hcl 3 (by omega)
  obtain ⟨V, hV⟩ : ∃ q, at4 z 0 = q := ⟨_, rfl⟩
  rw [hV] at HV ⊢
  obtain ⟨A, hA⟩ : ∃ q, z[0]?.getD 0 = q := ⟨_, rfl⟩
  obtain ⟨B, hB⟩ : ∃ q, z[1]?.getD 0 = q := ⟨_, rfl⟩
  obtain ⟨C, hC⟩ : ∃ q, z[2]?.getD 0 = q := ⟨_, rfl⟩
  obtain ⟨D, hD⟩ : ∃ q, z[3]?.getD 0 = q := ⟨_, rfl⟩
  rw [hA, hB, hC, hD] at HV
  rw [hA] at ha c0
  rw [hB] at hb c1
  rw [hC] at hc c2
  rw [hD] at hd c3
  have e1 : IntKind.u32.wrap A = A := by rw [IntKind.wrap_u32]; omega
  have e2 : IntKind.u32.wrap B = B := by rw [IntKind.wrap_u32]; omega
  have e3 : IntKind.u32.wrap C = C := by rw [IntKind.wrap_u32]; omega
  have e4 : IntKind.u32.wrap D = D := by rw [IntKind.wrap_u32]; omega
  have e5 : IntKind.u32.wrap (A * 16777216) = A * 16777216 := by rw [IntKind.wrap_u32]; omega
  have e6 : IntKind.u32.wrap (B * 65536) = B * 65536 := by rw [IntKind.wrap_u32]; omega
  have e7 : IntKind.u32.wrap (C * 256) = C * 256 := by rw [IntKind.wrap_u32]; omega
  clear hA hB hC hD hV hz hb0 hcl
  go_enter Tryd.func12, Tryd.ntmps12
  go_upto_region 1 with fail
  refine wp_region_gate (fun w' => w'.cell? ⟨b, off, none⟩ = some (.int .u8 A) ∧ w'.cell? ⟨b, off + 1, none⟩ = some (.int .u8 B) ∧ w'.cell? ⟨b, off + 2, none⟩ = some (.int .u8 C) ∧ w'.cell? ⟨b, off + 3, none⟩ = some (.int .u8 D)) 22 (by kernel_rfl) ?_
  have hS : w.drew.cell? ⟨b, off, none⟩ = some (.int .u8 A) ∧ w.drew.cell? ⟨b, off + 1, none⟩ = some (.int .u8 B) ∧ w.drew.cell? ⟨b, off + 2, none⟩ = some (.int .u8 C) ∧ w.drew.cell? ⟨b, off + 3, none⟩ = some (.int .u8 D) := ⟨c0, c1, c2, c3⟩
  refine wpAnyG_any (i := 0) (v := ?_) rfl (by kernel_rfl) (by kernel_rfl) (by kernel_rfl) (fun _ _ _ h => h) (by kernel_rfl) (fun _ => hS) (by kernel_rfl) ?_ ?_
  rotate_left
  · intro _; go_simp; try with_reducible rfl
  simp only [Act.put, List.setIfInBounds_toArray, List.set_cons_zero, List.set_cons_succ]
  refine wpAnyG_any (i := 1) (v := ?_) rfl (by kernel_rfl) (by kernel_rfl) (by kernel_rfl) (fun _ _ _ h => h) (by kernel_rfl) (fun _ => hS) (by kernel_rfl) ?_ ?_
  rotate_left
  · intro _; go_simp; try with_reducible rfl
  simp only [Act.put, List.setIfInBounds_toArray, List.set_cons_zero, List.set_cons_succ]
  refine wpAnyG_read (i := 2) (v := ?_) rfl (by kernel_rfl) (by kernel_rfl) (by kernel_rfl) (fun _ _ _ h => h) (by kernel_rfl) (by kernel_rfl) (by kernel_rfl) hS (by kernel_rfl) ?_ ?_
  rotate_left
  · intro wx hSw; go_split_ands; go_simp; try with_reducible rfl
  simp only [Act.put, List.setIfInBounds_toArray, List.set_cons_zero, List.set_cons_succ]
  refine wpAnyG_any (i := 3) (v := ?_) rfl (by kernel_rfl) (by kernel_rfl) (by kernel_rfl) (fun _ _ _ h => h) (by kernel_rfl) (fun _ => hS) (by kernel_rfl) ?_ ?_
  rotate_left
  · intro _; go_simp; try with_reducible rfl
  simp only [Act.put, List.setIfInBounds_toArray, List.set_cons_zero, List.set_cons_succ]
  refine wpAnyG_any (i := 4) (v := ?_) rfl (by kernel_rfl) (by kernel_rfl) (by kernel_rfl) (fun _ _ _ h => h) (by kernel_rfl) (fun _ => hS) (by kernel_rfl) ?_ ?_
  rotate_left
  · intro _; go_simp; try with_reducible rfl
  simp only [Act.put, List.setIfInBounds_toArray, List.set_cons_zero, List.set_cons_succ]
  refine wpAnyG_any (i := 5) (v := ?_) rfl (by kernel_rfl) (by kernel_rfl) (by kernel_rfl) (fun _ _ _ h => h) (by kernel_rfl) (fun _ => hS) (by kernel_rfl) ?_ ?_
  rotate_left
  · intro _; go_simp; try with_reducible rfl
  simp only [Act.put, List.setIfInBounds_toArray, List.set_cons_zero, List.set_cons_succ]
  refine wpAnyG_any (i := 6) (v := ?_) rfl (by kernel_rfl) (by kernel_rfl) (by kernel_rfl) (fun _ _ _ h => h) (by kernel_rfl) (fun _ => hS) (by kernel_rfl) ?_ ?_
  rotate_left
  · intro _; go_simp; try with_reducible rfl
  simp only [Act.put, List.setIfInBounds_toArray, List.set_cons_zero, List.set_cons_succ]
  refine wpAnyG_read (i := 7) (v := ?_) rfl (by kernel_rfl) (by kernel_rfl) (by kernel_rfl) (fun _ _ _ h => h) (by kernel_rfl) (by kernel_rfl) (by kernel_rfl) hS (by kernel_rfl) ?_ ?_
  rotate_left
  · intro wx hSw; go_split_ands; go_simp; try with_reducible rfl
  simp only [Act.put, List.setIfInBounds_toArray, List.set_cons_zero, List.set_cons_succ]
  refine wpAnyG_any (i := 8) (v := ?_) rfl (by kernel_rfl) (by kernel_rfl) (by kernel_rfl) (fun _ _ _ h => h) (by kernel_rfl) (fun _ => hS) (by kernel_rfl) ?_ ?_
  rotate_left
  · intro _; go_simp; try with_reducible rfl
  simp only [Act.put, List.setIfInBounds_toArray, List.set_cons_zero, List.set_cons_succ]
  refine wpAnyG_any (i := 9) (v := ?_) rfl (by kernel_rfl) (by kernel_rfl) (by kernel_rfl) (fun _ _ _ h => h) (by kernel_rfl) (fun _ => hS) (by kernel_rfl) ?_ ?_
  rotate_left
  · intro _; go_simp; try with_reducible rfl
  simp only [Act.put, List.setIfInBounds_toArray, List.set_cons_zero, List.set_cons_succ]
  refine wpAnyG_any (i := 10) (v := ?_) rfl (by kernel_rfl) (by kernel_rfl) (by kernel_rfl) (fun _ _ _ h => h) (by kernel_rfl) (fun _ => hS) (by kernel_rfl) ?_ ?_
  rotate_left
  · intro _; go_simp; try with_reducible rfl
  simp only [Act.put, List.setIfInBounds_toArray, List.set_cons_zero, List.set_cons_succ]
  refine wpAnyG_any (i := 11) (v := ?_) rfl (by kernel_rfl) (by kernel_rfl) (by kernel_rfl) (fun _ _ _ h => h) (by kernel_rfl) (fun _ => hS) (by kernel_rfl) ?_ ?_
  rotate_left
  · intro _; go_simp; try with_reducible rfl
  simp only [Act.put, List.setIfInBounds_toArray, List.set_cons_zero, List.set_cons_succ]
  refine wpAnyG_any (i := 12) (v := ?_) rfl (by kernel_rfl) (by kernel_rfl) (by kernel_rfl) (fun _ _ _ h => h) (by kernel_rfl) (fun _ => hS) (by kernel_rfl) ?_ ?_
  rotate_left
  · intro _; go_simp; try with_reducible rfl
  simp only [Act.put, List.setIfInBounds_toArray, List.set_cons_zero, List.set_cons_succ]
  refine wpAnyG_read (i := 13) (v := ?_) rfl (by kernel_rfl) (by kernel_rfl) (by kernel_rfl) (fun _ _ _ h => h) (by kernel_rfl) (by kernel_rfl) (by kernel_rfl) hS (by kernel_rfl) ?_ ?_
  rotate_left
  · intro wx hSw; go_split_ands; go_simp; try with_reducible rfl
  simp only [Act.put, List.setIfInBounds_toArray, List.set_cons_zero, List.set_cons_succ]
  refine wpAnyG_any (i := 14) (v := ?_) rfl (by kernel_rfl) (by kernel_rfl) (by kernel_rfl) (fun _ _ _ h => h) (by kernel_rfl) (fun _ => hS) (by kernel_rfl) ?_ ?_
  rotate_left
  · intro _; go_simp; try with_reducible rfl
  simp only [Act.put, List.setIfInBounds_toArray, List.set_cons_zero, List.set_cons_succ]
  refine wpAnyG_any (i := 15) (v := ?_) rfl (by kernel_rfl) (by kernel_rfl) (by kernel_rfl) (fun _ _ _ h => h) (by kernel_rfl) (fun _ => hS) (by kernel_rfl) ?_ ?_
  rotate_left
  · intro _; go_simp; try with_reducible rfl
  simp only [Act.put, List.setIfInBounds_toArray, List.set_cons_zero, List.set_cons_succ]
  refine wpAnyG_any (i := 16) (v := ?_) rfl (by kernel_rfl) (by kernel_rfl) (by kernel_rfl) (fun _ _ _ h => h) (by kernel_rfl) (fun _ => hS) (by kernel_rfl) ?_ ?_
  rotate_left
  · intro _; go_simp; try with_reducible rfl
  simp only [Act.put, List.setIfInBounds_toArray, List.set_cons_zero, List.set_cons_succ]
  refine wpAnyG_any (i := 17) (v := ?_) rfl (by kernel_rfl) (by kernel_rfl) (by kernel_rfl) (fun _ _ _ h => h) (by kernel_rfl) (fun _ => hS) (by kernel_rfl) ?_ ?_
  rotate_left
  · intro _; go_simp; try with_reducible rfl
  simp only [Act.put, List.setIfInBounds_toArray, List.set_cons_zero, List.set_cons_succ]
  refine wpAnyG_any (i := 18) (v := ?_) rfl (by kernel_rfl) (by kernel_rfl) (by kernel_rfl) (fun _ _ _ h => h) (by kernel_rfl) (fun _ => hS) (by kernel_rfl) ?_ ?_
  rotate_left
  · intro _; go_simp; try with_reducible rfl
  simp only [Act.put, List.setIfInBounds_toArray, List.set_cons_zero, List.set_cons_succ]
  refine wpAnyG_read (i := 19) (v := ?_) rfl (by kernel_rfl) (by kernel_rfl) (by kernel_rfl) (fun _ _ _ h => h) (by kernel_rfl) (by kernel_rfl) (by kernel_rfl) hS (by kernel_rfl) ?_ ?_
  rotate_left
  · intro wx hSw; go_split_ands; go_simp; try with_reducible rfl
  simp only [Act.put, List.setIfInBounds_toArray, List.set_cons_zero, List.set_cons_succ]
  refine wpAnyG_any (i := 20) (v := ?_) rfl (by kernel_rfl) (by kernel_rfl) (by kernel_rfl) (fun _ _ _ h => h) (by kernel_rfl) (fun _ => hS) (by kernel_rfl) ?_ ?_
  rotate_left
  · intro _; go_simp; try with_reducible rfl
  simp only [Act.put, List.setIfInBounds_toArray, List.set_cons_zero, List.set_cons_succ]
  refine wpAnyG_any (i := 21) (v := ?_) rfl (by kernel_rfl) (by kernel_rfl) (by kernel_rfl) (fun _ _ _ h => h) (by kernel_rfl) (fun _ => hS) (by kernel_rfl) ?_ ?_
  rotate_left
  · intro _; go_simp; try with_reducible rfl
  simp only [Act.put, List.setIfInBounds_toArray, List.set_cons_zero, List.set_cons_succ]
  refine wpAnyG_one (i := 22) rfl (by kernel_rfl) (by kernel_rfl) (fun K hK => ?_)
  go_simp
  refine hK.out _ _ (fun h => absurd (show true = false from h) (by decide)) ?_
  clear hK K
  refine wpAnyG_done (by kernel_rfl) ?_ _
  go_wp2
  go_ret
  refine ⟨?_, (Below.refl _ _).drew⟩
  rw [← HV.out]
  rfl
theorem wp_stvG2 {P : Program} {o : Oper} {a : Act} {w : World} {K : Act → World → Prop} {Q : Exit → Act → World → Prop} (ty : TypeId) (x y : Operand) (ho : o.op = .store ty x y)
    (g : Nat) (hx : a.eval x = .pointer (some ⟨g, 0, none⟩)) {t : TypeId} {old cs : List Value} (hy : a.eval y = .agg cs.toArray) (hg : CellsAt w g t old)
    (hi : (P.info? ty).map (·.size) = some cs.length) (hl : old.length = cs.length) (h1 : ∀ v ∈ cs, v.oneCell' = true)
    (h : K (a.put o.dst undef) (w.setRow g cs.toArray)) : o.wp P a w K Q := by
  unfold Oper.wp execOp
  simp only [ho, hx, hy, Instr.storeAt, Instr.sureAddr, Sem.run_bind, Sem.run_pure, Result.andThen_ok, run_storeVar_cells w g ty t old cs hg hl hi h1]
  exact h
theorem run_cut15 (w : World) (x : Option Addr) (cap : Nat) (hh : 5 ≤ cap) : (Instr.slice 22 (.slice x 5 cap) (some (.int .i64 1)) (some (.int .i64 5)) none).run Tryd.prog w = .ok (.slice (subA x cap 1) 4 (cap - 1)) w := by
  rw [run_slice_lh w 22 x 5 cap elemB .i64 .i64 1 5 (by omega) (by omega) (by omega), sizeU8]
  simp [sliced, subA, Result.andThen]
set_option maxHeartbeats 4000000 in
theorem refDotR_any (x : Option Addr) (c : Nat) (z : List Int) (w : World) (hb0 : Bytes w x 5 c z) (hz : ∀ v ∈ z, b8 v) :
    Calls Tryd.prog 13 #[.slice x 5 c] w fun e w' => e = .returned (.agg (dotC (at1 z 0) (at4 z 1)).toArray) ∧ Below w.heap.size w w' := by
  have hle := hb0.le
  have hct := fun wx => run_cut15 wx x c (by omega)
  have hcb := hb0.cut 1 5 (by omega) (by omega)
  have hzd : ∀ v ∈ (z.drop 1).take 4, b8 v := fun v hv => hz v (List.mem_of_mem_drop (List.mem_of_mem_take hv))
  have e4 : at4 ((z.drop 1).take 4) 0 = at4 z 1 := by
    have q : ∀ j, j < 4 → at1 ((z.drop 1).take 4) j = at1 z (1 + j) := fun j hj => by unfold at1; rw [List.getElem?_take_of_lt hj, List.getElem?_drop]
    unfold at4
    rw [q 0 (by omega), q (0 + 1) (by omega), q (0 + 2) (by omega), q (0 + 3) (by omega)]
  have hnm := fun wx (h : Below w.heap.size w wx) => refNum_any (subA x c 1) (c - 1) ((z.drop 1).take 4) wx (hcb.below h) hzd
  rw [e4] at hnm
  obtain ⟨S, hS4⟩ : ∃ q, at4 z 1 = q := ⟨_, rfl⟩
  rw [hS4] at hnm ⊢
  obtain ⟨b, off, rfl, hcl⟩ := bytes_cells hb0 (by omega)
  have c0 : w.cell? ⟨b, off, none⟩ = some (.int .u8 (at1 z 0)) := hcl 0 (by omega)
  obtain ⟨A, hA⟩ : ∃ q, at1 z 0 = q := ⟨_, rfl⟩
  rw [hA] at c0 ⊢
  have hlb : b < w.heap.size := block_lt_of_cell c0
  have hG0 := CellsAt.new w 25 (dotC 0 0)
  have hB0 : Below w.heap.size w (w.alloc (.cells (dotC 0 0).toArray 25)) := (Below.refl _ _).alloc (Nat.le_refl _) _
  have keep : ∀ w', Below w.heap.size w w' → w'.cell? ⟨b, off, none⟩ = some (.int .u8 A) := fun w' h => by rw [(bcell h).1 _ _ hlb]; exact c0
  have HKEEP := Veil.mk keep
  obtain ⟨y, hy⟩ : ∃ q, subA (some ⟨b, off, none⟩) c 1 = q := ⟨_, rfl⟩
  rw [hy] at hct hnm
  clear hb0 hcb hz hzd e4 hS4 hcl hA hy keep c0
  go_enter Tryd.func13, Tryd.ntmps13
  go_upto_region 1 with fail
  refine forget (p := fun y => Code.wp _ _ _ _ y) (fun W => Below w.heap.size w W ∧ CellsAt W w.heap.size 25 (dotC 0 0)) ⟨hB0, hG0⟩ ?_
  clear hB0 hG0
  rintro W ⟨hB0, hG0⟩
  refine wp_region_gate (fun w' => w'.cell? ⟨b, off, none⟩ = some (.int .u8 A)) 7 (by kernel_rfl) ?_
  obtain ⟨D0, hD0⟩ : ∃ q, W.drew = q := ⟨_, rfl⟩
  have hb0 : Below W.heap.size W D0 := by rw [← hD0]; exact (Below.refl _ _).drew
  rw [hD0]
  have hB1 := hB0.trans (hb0.mono hB0.size)
  have hG1 : CellsAt D0 w.heap.size 25 (dotC 0 0) := by
    have hl := hG0.lt
    unfold CellsAt at hG0 ⊢; rw [hb0.block _ hl]; exact hG0
  clear hD0 hb0 hB0 hG0
  have hS := HKEEP.out _ hB1
  refine wpAnyG_any (i := 0) (v := ?_) rfl (by kernel_rfl) (by kernel_rfl) (by kernel_rfl) (fun _ _ _ h => h) (by kernel_rfl) (fun _ => hS) (by kernel_rfl) ?_ ?_
  rotate_left
  · intro _; go_simp; try with_reducible rfl
  simp only [Act.put, List.setIfInBounds_toArray, List.set_cons_zero, List.set_cons_succ]
  refine wpAnyG_any (i := 1) (v := ?_) rfl (by kernel_rfl) (by kernel_rfl) (by kernel_rfl) (fun _ _ _ h => h) (by kernel_rfl) (fun _ => hS) (by kernel_rfl) ?_ ?_
  rotate_left
  · intro _; go_simp; try with_reducible rfl
  simp only [Act.put, List.setIfInBounds_toArray, List.set_cons_zero, List.set_cons_succ]
  refine wpAnyG_read (i := 2) (v := ?_) rfl (by kernel_rfl) (by kernel_rfl) (by kernel_rfl) (fun _ _ _ h => h) (by kernel_rfl) (by kernel_rfl) (by kernel_rfl) hS (by kernel_rfl) ?_ ?_
  rotate_left
  · intro wx hSw; go_split_ands; go_simp; try with_reducible rfl
  simp only [Act.put, List.setIfInBounds_toArray, List.set_cons_zero, List.set_cons_succ]
  refine wpAnyG_any (i := 3) (v := ?_) rfl (by kernel_rfl) (by kernel_rfl) (by kernel_rfl) (fun _ _ _ h => h) (by kernel_rfl) (fun _ => hS) (by kernel_rfl) ?_ ?_
  rotate_left
  · intro _; go_simp; try with_reducible rfl
  simp only [Act.put, List.setIfInBounds_toArray, List.set_cons_zero, List.set_cons_succ]
  refine wpAnyG_any (i := 4) (v := ?_) rfl (by kernel_rfl) (by kernel_rfl) (by kernel_rfl) (fun _ _ _ h => h) (by kernel_rfl) (fun _ => hS) (by kernel_rfl) ?_ ?_
  rotate_left
  · intro _; go_simp; try with_reducible rfl
  simp only [Act.put, List.setIfInBounds_toArray, List.set_cons_zero, List.set_cons_succ]
  refine wpAnyG_one (i := 5) rfl (by kernel_rfl) (by kernel_rfl) (fun K hK => ?_)
  go_wp2_with (go_at_call 12; refine (hnm _ hB1).mono ?_; rintro e w2 ⟨rfl, hb2⟩)
  have hB2 := hB1.trans (hb2.mono hB1.size)
  have hG2 : CellsAt w2 w.heap.size 25 (dotC 0 0) := by
    have hl := hG1.lt
    unfold CellsAt at hG1 ⊢; rw [hb2.block _ hl]; exact hG1
  replace hS := HKEEP.out _ hB2
  refine hK.out _ _ (fun _ => hS) ?_
  clear hK K
  refine wpAnyG_any (i := 6) (v := .agg #[.int .u8 A, .int .u32 S]) rfl (by kernel_rfl) (by kernel_rfl) (by kernel_rfl) (fun _ _ _ h => h) (by kernel_rfl) (fun _ => hS) (by kernel_rfl) ?_ ?_
  · intro _; go_simp
  simp only [Act.put, List.setIfInBounds_toArray, List.set_cons_zero, List.set_cons_succ]
  refine wpAnyG_one (i := 7) rfl (by kernel_rfl) (by kernel_rfl) (fun K hK => ?_)
  refine wp_stvG2 25 _ _ rfl _ rfl (cs := dotC A S) rfl hG2 sizeDot rfl (dot_one A S) ?_
  refine hK.out _ _ (fun h => absurd (show true = false from h) (by decide)) ?_
  clear hK K
  refine wpAnyG_done (by kernel_rfl) ?_ _
  simp only [Act.put, List.getElem_toArray, List.getElem_cons_succ, List.getElem_cons_zero, List.setIfInBounds_toArray, List.set_cons_zero, List.set_cons_succ]
  go_wp2_with fail
  refine bodyPost_ret (results_cell_row (Tryd.results13) _ _ _ _ _ (0, 0) _ rfl (hG2.setRow (dotC A S)) Tryd.underlying25 rfl sizeDot) rfl ⟨rfl, ?_⟩
  exact below_setRow hB2 (Nat.le_refl _) _
end Go.Proofs.YtdfjfafhpjoilaaDoor
