/- acl: which count. -/
import Derived.Test.YthodlbkgggaibaaAb8
namespace Go.Proofs.Ythodlbkgggaibaa
open Go.RowKit Go.Shelf
set_option maxRecDepth 20000
set_option linter.unusedSimpArgs false
theorem exec_fdA {P : Program} {ρ : Operand → Value} {o : Oper} {w : World} {t : TypeId} {m : Operand} {k : Nat} (ho : o.op = .field t m k) {mv v : Value} (hm : ρ m = mv) (hrun : (Instr.field t mv k).run P w = .ok v w) : (execOp ρ o).run P w = .ok (.value v) w := by
  unfold execOp
  simp only [ho, hm, Sem.run_bind, hrun, Result.andThen_ok, Sem.run_pure]
set_option maxHeartbeats 2000000 in
theorem bcounts_any (H b : Nat) (L : List Ent) (da ds : Int) (w : World) (hC : BookC w H b L) (hd : okD da ds) :
    Calls Try.prog 23 #[.pointer (some ⟨H, 0, none⟩), .agg (dotC da ds).toArray] w fun r w' => r = .returned (.bool (match lookB L (da, ds) with | some x => x.2 | none => false)) ∧ Below w.heap.size w w' := by
  have hB0 : Below w.heap.size w (w.alloc (.cells (dotC da ds).toArray 38)) := (Below.refl _ _).alloc (Nat.le_refl _) _
  have hx0 := CellsAt.new w 38 (dotC da ds)
  have hC0 := hC.far hB0
  have iD : (Try.prog.info? 38).map (·.size) = some (dotC da ds).length := sizeDot
  have uD := Try.underlying38
  obtain ⟨KV, hlk, h17⟩ : ∃ KV : List Value, (∀ W, BookAt W b L → (Instr.lookup 69 (.map (some b)) (.agg (dotC da ds).toArray) false).run Try.prog W = .ok (.agg KV.toArray) W) ∧ (∃ pre : List Value, KV = pre ++ [.bool (match lookB L (da, ds) with | some x => x.2 | none => false)] ∧ pre.length = 17) := by
    have hg : ∀ W, BookAt W b L → (Instr.lookup 69 (.map (some b)) (.agg (dotC da ds).toArray) false).run Try.prog W = .ok (((lookB L (da, ds)).map fun e => Value.agg (entC e).toArray).getD (.agg entZ.toArray)) W := fun W hW => hW.mapAt.get Try.underlying69 (z := .agg entZ.toArray) (by kernel_rfl) da ds hd
    cases hk : lookB L (da, ds) with
    | none =>
      rw [hk] at hg
      exact ⟨entZ, hg, [.int .u8 0, .int .u32 0, .int .u32 0, .int .u32 0, .int .u32 0, .int .u32 0, .int .u32 0, .int .u32 0, .int .u32 0, .int .u32 0, .int .u8 0, .int .u8 0, .int .u32 0, .bool false, .int .u8 0, .int .u8 0, .int .u8 0], rfl, rfl⟩
    | some k =>
      rw [hk] at hg
      exact ⟨entC k, hg, k.1.cells, rfl, aev_len _ (hC.map.ok k (lookB_mem hk).1).past⟩
  obtain ⟨pre, hKV, hpre⟩ := h17
  obtain ⟨CB, hCB⟩ : ∃ q, (match lookB L (da, ds) with | some x => x.2 | none => false) = q := ⟨_, rfl⟩
  rw [hCB] at hKV ⊢
  match pre, hpre with
  | [p0, p1, p2, p3, p4, p5, p6, p7, p8, p9, p10, p11, p12, p13, p14, p15, p16], _ =>
  simp only [List.cons_append, List.nil_append] at hKV
  subst hKV
  clear hCB hC
  have HLK := Veil.mk hlk
  clear hlk
  have hfd : ∀ wx, (Instr.field 68 (.agg #[p0, p1, p2, p3, p4, p5, p6, p7, p8, p9, p10, p11, p12, p13, p14, p15, p16, .bool CB]) 1).run Try.prog wx = .ok (.bool CB) wx := fun wx => by kernel_rfl
  go_enter Try.func23, Try.ntmps23
  go_upto_region 3 with fail
  refine wp_region_gateT (fun w' => w'.cell? ⟨H, 0, none⟩ = some (.map (some b)) ∧ w'.rangeAt w.heap.size 0 (dotC da ds) ∧ BookAt w' b L) (fun _ => True) 99 (by kernel_rfl) ?_
  have hT : (fun w' : World => w'.cell? ⟨H, 0, none⟩ = some (.map (some b)) ∧ w'.rangeAt w.heap.size 0 (dotC da ds) ∧ BookAt w' b L) (w.alloc (.cells (dotC da ds).toArray 38)).drew := ⟨hC0.mapCell, hx0.wholeM, hC0.map.congr rfl⟩
  have hS : (fun _ : World => True) (w.alloc (.cells (dotC da ds).toArray 38)).drew := trivial
  refine wpAnyT_held (i := 0) (v := ?_) rfl (by kernel_rfl) (by kernel_rfl) (by kernel_rfl) (fun _ _ _ h => h) (by kernel_rfl) hT (fun _ => hS) (by kernel_rfl) ?_ ?_
  rotate_left
  · intro wx hSw; go_split_ands; go_simp; try with_reducible rfl
  simp only [Act.put, List.getElem_toArray, List.getElem_cons_succ, List.getElem_cons_zero, List.setIfInBounds_toArray, List.set_cons_zero, List.set_cons_succ]
  refine wpAnyT_held (i := 1) (v := ?_) rfl (by kernel_rfl) (by kernel_rfl) (by kernel_rfl) (fun _ _ _ h => h) (by kernel_rfl) hT (fun _ => hS) (by kernel_rfl) ?_ ?_
  rotate_left
  · intro wx hSw; go_split_ands; go_simp; try with_reducible rfl
  simp only [Act.put, List.getElem_toArray, List.getElem_cons_succ, List.getElem_cons_zero, List.setIfInBounds_toArray, List.set_cons_zero, List.set_cons_succ]
  refine wpAnyT_held (i := 2) (v := ?_) rfl (by kernel_rfl) (by kernel_rfl) (by kernel_rfl) (fun _ _ _ h => h) (by kernel_rfl) hT (fun _ => hS) (by kernel_rfl) ?_ ?_
  rotate_left
  · intro wx hSw; go_split_ands; go_simp; try with_reducible rfl
  simp only [Act.put, List.getElem_toArray, List.getElem_cons_succ, List.getElem_cons_zero, List.setIfInBounds_toArray, List.set_cons_zero, List.set_cons_succ]
  refine wpAnyT_held (i := 3) (v := ?_) rfl (by kernel_rfl) (by kernel_rfl) (by kernel_rfl) (fun _ _ _ h => h) (by kernel_rfl) hT (fun _ => hS) (by kernel_rfl) ?_ ?_
  rotate_left
  · intro wx hSw; go_split_ands; go_simp; try with_reducible rfl
  simp only [Act.put, List.getElem_toArray, List.getElem_cons_succ, List.getElem_cons_zero, List.setIfInBounds_toArray, List.set_cons_zero, List.set_cons_succ]
  refine wpAnyT_load (i := 4) (dst := some 11) (ty := 38) (x := .tmp 3) (b := w.heap.size) (o := (0)) (cs := (dotC da ds)) (by kernel_rfl) (by kernel_rfl) (by kernel_rfl) (by kernel_rfl) (by kernel_rfl) (fun _ _ _ h => h) (by kernel_rfl) hT (fun _ => hS) (by kernel_rfl) (fun _ h => h.2.1) uD rfl iD ?_
  simp only [Act.put, List.getElem_toArray, List.getElem_cons_succ, List.getElem_cons_zero, List.setIfInBounds_toArray, List.set_cons_zero, List.set_cons_succ]
  refine wpAnyT_held (i := 5) (v := .agg #[p0, p1, p2, p3, p4, p5, p6, p7, p8, p9, p10, p11, p12, p13, p14, p15, p16, .bool CB]) rfl (by kernel_rfl) (by kernel_rfl) (by kernel_rfl) (fun _ _ _ h => h) (by kernel_rfl) hT (fun _ => hS) (by kernel_rfl) (fun wx h => exec_lookA _ _ _ _ rfl _ _ _ rfl rfl (HLK.out wx h.2.2)) ?_
  simp only [Act.put, List.getElem_toArray, List.getElem_cons_succ, List.getElem_cons_zero, List.setIfInBounds_toArray, List.set_cons_zero, List.set_cons_succ]
  refine wpAnyT_held (i := 6) (v := .bool CB) rfl (by kernel_rfl) (by kernel_rfl) (by kernel_rfl) (fun _ _ _ h => h) (by kernel_rfl) hT (fun _ => hS) (by kernel_rfl) (fun wx h => exec_fdA rfl rfl (hfd wx)) ?_
  simp only [Act.put, List.getElem_toArray, List.getElem_cons_succ, List.getElem_cons_zero, List.setIfInBounds_toArray, List.set_cons_zero, List.set_cons_succ]
  refine wpAnyT_held (i := 7) (v := ?_) rfl (by kernel_rfl) (by kernel_rfl) (by kernel_rfl) (fun _ _ _ h => h) (by kernel_rfl) hT (fun _ => hS) (by kernel_rfl) ?_ ?_
  rotate_left
  · intro wx hSw; go_split_ands; go_simp; try with_reducible rfl
  simp only [Act.put, List.getElem_toArray, List.getElem_cons_succ, List.getElem_cons_zero, List.setIfInBounds_toArray, List.set_cons_zero, List.set_cons_succ]
  refine wpAnyT_done (by kernel_rfl) ?_ _
  clear hT hS
  go_wp2
  go_ret
  exact ⟨rfl, hB0.drew⟩
theorem bcounts_nil (da ds : Int) (w : World) :
    Calls Try.prog 23 #[.pointer none, .agg (dotC da ds).toArray] w fun r w' => r = .returned (.bool false) ∧ Below w.heap.size w w' := by
  generalize dotC da ds = E
  have hB0 : Veil (Below w.heap.size w (w.alloc (.cells E.toArray 38))) := ⟨(Below.refl _ _).alloc (Nat.le_refl _) _⟩
  go_enter Try.func23, Try.ntmps23
  go_wp2
  go_ret
  exact ⟨rfl, hB0.out⟩
end Go.Proofs.Ythodlbkgggaibaa

