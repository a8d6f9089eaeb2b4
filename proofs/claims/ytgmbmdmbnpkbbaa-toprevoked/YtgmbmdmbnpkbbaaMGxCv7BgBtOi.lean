/- Operations within a region, each by what its run comes to. Which events may be taken, and which was seen by which: 'Ready', 'Before' of causal and of its reference. (Written by mkcv7.py.) Structs that are built of parts, where a part is a row of letters: nothing of one program. Structs all of whose fields are given: what is built is the parts, one behind the other; nothing of one program. Rows of the call's own whose items take k cells each: read, appended to; nothing of one program. -/
import Derived.Test.YtgmbmdmbnpkbbaaGate5
import Derived.Great.BuildSlice
import Derived.Test.YtgmbmdmbnpkbbaaMCv4EvmCv5Cv6
import Derived.Laws.Tables
import Derived.Test.YtgmbmdmbnpkbbaaGk
import Derived.Test.YtgmbmdmbnpkbbaaEv0
import Derived.Maps.AppendAt
import Derived.Laws.AppendOwnNone
namespace Go.Proofs.Ytgmbmdmbnpkbbaa
open Go.RowKit
set_option linter.unusedSimpArgs false
section
variable {P : Program} {o : Oper} {a : Act} {w : World} {K : Act → World → Prop} {Q : Exit → Act → World → Prop}
/-- A call, by its contract: that the operation comes to it is a closed fact for the kernel. -/
theorem wpx_call (f : FuncId) (args : Array Value) (hrun : (execOp a.eval o).run P w = .ok (.enter f args) w)
    (hc : Calls P f args w fun e w' => ∃ v, e = .returned v ∧ K (a.put o.dst v) w') : o.wp P a w K Q := by
  unfold Oper.wp
  rw [hrun, Oper.upon_enter]
  refine hc.mono fun e w'' hh => ?_
  obtain ⟨v, rfl, hk⟩ := hh
  exact hk
theorem wpx_conv (src dst : TypeId) (x : Operand) (ho : o.op = .convert src dst x) (xv v : Value) (w' : World) (hx : a.eval x = xv) (hrun : (convert src dst xv).run P w = .ok v w') (h : K (a.put o.dst v) w') : o.wp P a w K Q := by
  unfold Oper.wp execOp
  simp only [ho, hx, Sem.run_bind, hrun, Result.andThen_ok, Sem.run_pure]
  exact h
theorem wpx_arr (t : TypeId) (x : Operand) (ho : o.op = .sliceToArrayPointer t x) (xv v : Value) (w' : World) (hx : a.eval x = xv) (hrun : (Instr.arrayAt t xv).run P w = .ok v w') (h : K (a.put o.dst v) w') : o.wp P a w K Q := by
  unfold Oper.wp execOp
  simp only [ho, hx, Sem.run_bind, hrun, Result.andThen_ok, Sem.run_pure]
  exact h
theorem wpx_look (t : TypeId) (m x : Operand) (b : Bool) (ho : o.op = .lookup t m x b) (mv xv v : Value) (w' : World) (hm : a.eval m = mv) (hx : a.eval x = xv) (hrun : (Instr.lookup t mv xv b).run P w = .ok v w') (h : K (a.put o.dst v) w') : o.wp P a w K Q := by
  unfold Oper.wp execOp
  simp only [ho, hm, hx, Sem.run_bind, hrun, Result.andThen_ok, Sem.run_pure]
  exact h
theorem wpx_make (t : TypeId) (l c : Operand) (ho : o.op = .makeSlice t l c) (lv cv v : Value) (w' : World) (hl : a.eval l = lv) (hc : a.eval c = cv) (hrun : (Instr.makeSlice t lv cv).run P w = .ok v w') (h : K (a.put o.dst v) w') : o.wp P a w K Q := by
  unfold Oper.wp execOp
  simp only [ho, hl, hc, Sem.run_bind, hrun, Result.andThen_ok, Sem.run_pure]
  exact h
theorem wpx_upd (t : TypeId) (m x y : Operand) (ho : o.op = .mapUpdate t m x y) (mv xv yv : Value) (w' : World) (hm : a.eval m = mv) (hx : a.eval x = xv) (hy : a.eval y = yv) (hrun : (Instr.mapUpdate t mv xv yv).run P w = .ok () w') (h : K (a.put o.dst undef) w') : o.wp P a w K Q := by
  unfold Oper.wp execOp
  simp only [ho, hm, hx, hy, Sem.run_bind, hrun, Result.andThen_ok, Sem.run_pure]
  exact h
theorem wpx_copy (d s : Operand) (dT sT : TypeId) (ho : o.op = .call { callee := .builtin .copy, args := #[d, s], argTypes := #[dT, sT] }) (dv sv v : Value) (w' : World) (hd : a.eval d = dv) (hs : a.eval s = sv) (hrun : (Builtin.copy_ #[dT, sT] o.type #[dv, sv]).run P w = .ok v w') (h : K (a.put o.dst v) w') : o.wp P a w K Q := by
  unfold Oper.wp execOp
  simp only [ho, resolve, invoke, builtin, Sem.run_bind, Sem.run_pure, Result.andThen_ok, List.map_toArray, List.map_cons, List.map_nil, hd, hs, hrun]
  exact h
theorem wpx_app (d s : Operand) (dT sT : TypeId) (ho : o.op = .call { callee := .builtin .append, args := #[d, s], argTypes := #[dT, sT] }) (dv sv v : Value) (w' : World) (hd : a.eval d = dv) (hs : a.eval s = sv) (hrun : (Builtin.append_ #[dT, sT] o.type #[dv, sv]).run P w = .ok v w') (h : K (a.put o.dst v) w') : o.wp P a w K Q := by
  unfold Oper.wp execOp
  simp only [ho, resolve, invoke, builtin, Sem.run_bind, Sem.run_pure, Result.andThen_ok, List.map_toArray, List.map_cons, List.map_nil, hd, hs, hrun]
  exact h
theorem wpx_bld (t : TypeId) (parts : Array (Nat × Operand)) (ho : o.op = .build t parts) (vals : Array (Nat × Value)) (hv : (parts.map fun (i, x) => (i, a.eval x)) = vals) (v : Value) (hrun : (Instr.build t vals).run P w = .ok v w) (h : K (a.put o.dst v) w) : o.wp P a w K Q := by
  unfold Oper.wp execOp
  simp only [ho, hv, Sem.run_bind, hrun, Result.andThen_ok, Sem.run_pure]
  exact h
theorem wpList_bldx {ops : Array Oper} {rest : List Oper} (hgd : o.guard = none) (t : TypeId) (parts : Array (Nat × Operand)) (ho : o.op = .build t parts) (vals : Array (Nat × Value)) (hv : (parts.map fun (i, x) => (i, a.eval x)) = vals) (v : Value) (hrun : (Instr.build t vals).run P w = .ok v w)
    (h : wpList P ops Q rest (a.put o.dst v) w) : wpList P ops Q (o :: rest) a w :=
  wpList_plain hgd fun _ hK => wpx_bld t parts ho vals hv v hrun (hK _ _ h)
end
end Go.Proofs.Ytgmbmdmbnpkbbaa

namespace Go.Proofs.Ytgmbmdmbnpkbbaa
open Go.RowKit
set_option maxRecDepth 20000
set_option linter.unusedSimpArgs false

/-- May the event be taken next, where v was seen? -/
def readyB (v : List Int) (e : Ev) : Bool := rightB e && ((v[e.da.toNat]?.getD 0 == e.ds - 1) && withinB e.past v)
set_option maxHeartbeats 8000000 in
theorem cready_any (v : List Int) (e : Ev) (w : World) (hvl : v.length = 8) (hv : ∀ x ∈ v, 0 ≤ x ∧ x < 4294967296) (hp : e.past.length = 8) (ha : 0 ≤ e.da) (hs : 0 ≤ e.ds) (hs2 : e.ds < 4294967296) (hpa : 0 ≤ e.pa) (hps : 0 ≤ e.ps) :
    Calls Try.prog 46 #[.agg (row .u32 v), .agg e.cells.toArray] w fun x w' => x = .returned (.bool (readyB v e)) ∧ Below w.heap.size w w' := by
  have h0 := (CellsAt.new w 28 (v.map (Value.int .u32))).alloc (.cells e.cells.toArray 32)
  have h1 := CellsAt.new (w.alloc (.cells (v.map (Value.int .u32)).toArray 28)) 32 e.cells
  rw [World.size_alloc] at h1
  have hB0 : Below w.heap.size w ((w.alloc (.cells (v.map (Value.int .u32)).toArray 28)).alloc (.cells e.cells.toArray 32)) := ((Below.refl _ _).alloc (Nat.le_refl _) _).alloc (by simp) _
  have HR : Veil (∀ W, Calls Try.prog 45 #[.agg e.cells.toArray] W fun x w' => x = .returned (.bool (rightB e)) ∧ Below W.heap.size W w') := ⟨fun W => cright_any e W hp ha hs hs2 hpa hps⟩
  have HW : Veil (∀ W, Calls Try.prog 58 #[.agg (e.past.map (Value.int .u32)).toArray, .agg (v.map (Value.int .u32)).toArray] W fun x w' => x = .returned (.bool (withinB e.past v)) ∧ Below W.heap.size W w') := ⟨fun W => cwithin_any e.past v W hp hvl⟩
  have HT : Veil (∀ W, CellsAt W (w.heap.size + 1) 32 e.cells → CellsAt W w.heap.size 28 (v.map (Value.int .u32)) → W.rangeAt (w.heap.size + 1) 0 e.cells ∧ W.cell? ⟨w.heap.size + 1, 0, none⟩ = some (.int .u8 e.da) ∧ W.cell? ⟨w.heap.size + 1, 1, none⟩ = some (.int .u32 e.ds) ∧ W.rangeAt (w.heap.size + 1) 2 (e.past.map (Value.int .u32)) ∧ W.rangeAt w.heap.size 0 (v.map (Value.int .u32))) := ⟨fun W h1 h0 => ⟨h1.wholeM, h1.cell 0, h1.cell 1, by have := h1.range 2 8; rw [(ev_parts e hp).2.1] at this; exact this, h0.wholeM⟩⟩
  have HRD : Veil (rightB e = true → e.da < 8 ∧ 1 ≤ e.ds ∧ e.ds ≤ 1048576) := ⟨fun h => by
    have h := (Bool.and_eq_true_iff.1 h).1
    unfold rightDotB at h
    simp only [Bool.and_eq_true, decide_eq_true_eq, Bool.not_eq_true', beq_eq_false_iff_ne] at h
    exact ⟨h.1, by have := h.2.1; omega, h.2.2.1⟩⟩
  have HVC : Veil (∀ W, CellsAt W w.heap.size 28 (v.map (Value.int .u32)) → ∀ j : Nat, j < 8 → W.cell? ⟨w.heap.size, j, none⟩ = some (.int .u32 (v[j]?.getD 0))) := ⟨fun W h j hj => by rw [h.cell j, List.getElem?_map, List.getElem?_eq_getElem (by omega)]; rfl⟩
  have HVI : Veil (∀ j : Nat, j < 8 → 0 ≤ v[j]?.getD 0 ∧ v[j]?.getD 0 < 4294967296) := ⟨fun j hj => by rw [List.getElem?_eq_getElem (by omega)]; exact hv _ (List.getElem_mem _)⟩
  have HH : Veil (readyB v e = (rightB e && ((v[e.da.toNat]?.getD 0 == e.ds - 1) && withinB e.past v))) := ⟨rfl⟩
  have iE : (Try.prog.info? 32).map (·.size) = some e.cells.length := by rw [(ev_cell15 e hp).2.2.2.2]; kernel_rfl
  have iP : (Try.prog.info? 28).map (·.size) = some (e.past.map (Value.int .u32)).length := by rw [List.length_map, hp]; exact sizeV8c
  have iV : (Try.prog.info? 28).map (·.size) = some (v.map (Value.int .u32)).length := by rw [List.length_map, hvl]; exact sizeV8c
  have uV := Try.underlying28
  have uE := Try.underlying32
  have hrow : (row .u32 v) = (v.map (Value.int .u32)).toArray := rfl
  rw [hrow]
  clear hrow hp hs hpa hps hv hvl
  obtain ⟨dn, hDA⟩ := Int.eq_ofNat_of_zero_le ha
  rw [hDA] at HT HRD HH
  clear hDA ha
  rw [Int.toNat_natCast] at HH
  generalize readyB v e = RY at HH ⊢
  generalize rightB e = RB at HR HRD HH
  generalize withinB e.past v = WI at HW HH
  generalize e.past.map (Value.int .u32) = PV at HW HT iP
  generalize v.map (Value.int .u32) = VV at h0 h1 hB0 HW HT HVC iV ⊢
  generalize e.ds = DS at hs2 HT HRD HH
  generalize e.cells = EC at h0 h1 hB0 HR HT iE ⊢
  cases RB
  · replace HH : Veil (RY = false) := ⟨by rw [HH.out]; rfl⟩
    go_enter Try.func46, Try.ntmps46
    go_upto_region 1 with fail
    refine forget (p := fun y => Code.wp _ _ _ _ y) (fun W => Below w.heap.size w W ∧ CellsAt W (w.heap.size + 1) 32 EC ∧ CellsAt W w.heap.size 28 VV) ⟨hB0, h1, h0⟩ ?_
    clear hB0 h0 h1
    rintro W ⟨hB, hE, hV⟩
    have hr := HR.out W.drew
    refine wp_region_gateT (fun w' => w'.rangeAt (w.heap.size + 1) 0 EC ∧ w'.cell? ⟨w.heap.size + 1, 0, none⟩ = some (.int .u8 (dn : Int)) ∧ w'.cell? ⟨w.heap.size + 1, 1, none⟩ = some (.int .u32 DS) ∧ w'.rangeAt (w.heap.size + 1) 2 PV ∧ w'.rangeAt w.heap.size 0 VV) (fun _ => True) 99 (by kernel_rfl) ?_
    have hT : (fun w' : World => w'.rangeAt (w.heap.size + 1) 0 EC ∧ w'.cell? ⟨w.heap.size + 1, 0, none⟩ = some (.int .u8 (dn : Int)) ∧ w'.cell? ⟨w.heap.size + 1, 1, none⟩ = some (.int .u32 DS) ∧ w'.rangeAt (w.heap.size + 1) 2 PV ∧ w'.rangeAt w.heap.size 0 VV) W.drew := HT.out W.drew hE hV
    have hS := trivial
    refine wpAnyT_load (i := 0) (dst := some 5) (ty := 32) (x := .tmp 3) (b := (w.heap.size + 1)) (o := (0)) (cs := EC) (by kernel_rfl) (by kernel_rfl) (by kernel_rfl) (by kernel_rfl) (by kernel_rfl) (fun _ _ _ h => h) (by kernel_rfl) hT (fun _ => hS) (by kernel_rfl) (fun _ h => h.1) uE rfl iE ?_
    simp only [Act.put, List.getElem_toArray, List.getElem_cons_succ, List.getElem_cons_zero, List.setIfInBounds_toArray, List.set_cons_zero, List.set_cons_succ]
    refine wpAnyT_one (i := 1) rfl (by kernel_rfl) (by kernel_rfl) (fun K hK => ?_)
    refine wpx_call _ _ (by kernel_rfl) (hr.mono ?_)
    rintro e w1 ⟨rfl, hb1⟩
    refine ⟨_, rfl, ?_⟩
    have hbW : Below W.heap.size W w1 := Below.trans (Below.refl _ W).drew hb1
    replace hT := HT.out w1 (hE.farM hbW) (hV.farM hbW)
    have hB1 := hB.trans (hbW.mono hB.size)
    refine hK.out _ _ hT (fun _ => hS) ?_
    clear hK K
    try simp only [Act.put, List.getElem_toArray, List.getElem_cons_succ, List.getElem_cons_zero, List.setIfInBounds_toArray, List.set_cons_zero, List.set_cons_succ]
    refine wpAnyT_held (i := 2) (v := ?_) rfl (by kernel_rfl) (by kernel_rfl) (by kernel_rfl) (fun _ _ _ h => h) (by kernel_rfl) hT (fun _ => hS) (by kernel_rfl) ?_ ?_
    rotate_left
    · intro wx hSw; go_split_ands; go_simp; try with_reducible rfl
    simp only [Act.put, List.getElem_toArray, List.getElem_cons_succ, List.getElem_cons_zero, List.setIfInBounds_toArray, List.set_cons_zero, List.set_cons_succ]
    refine wpAnyT_skip (i := 3) rfl (by kernel_rfl) (by kernel_rfl) (by kernel_rfl) (fun _ _ _ h => h) (by kernel_rfl) hT (fun _ => hS) (by kernel_rfl) ?_
    simp only [Act.put, List.getElem_toArray, List.getElem_cons_succ, List.getElem_cons_zero, List.setIfInBounds_toArray, List.set_cons_zero, List.set_cons_succ]
    refine wpAnyT_skip (i := 4) rfl (by kernel_rfl) (by kernel_rfl) (by kernel_rfl) (fun _ _ _ h => h) (by kernel_rfl) hT (fun _ => hS) (by kernel_rfl) ?_
    simp only [Act.put, List.getElem_toArray, List.getElem_cons_succ, List.getElem_cons_zero, List.setIfInBounds_toArray, List.set_cons_zero, List.set_cons_succ]
    refine wpAnyT_skip (i := 5) rfl (by kernel_rfl) (by kernel_rfl) (by kernel_rfl) (fun _ _ _ h => h) (by kernel_rfl) hT (fun _ => hS) (by kernel_rfl) ?_
    simp only [Act.put, List.getElem_toArray, List.getElem_cons_succ, List.getElem_cons_zero, List.setIfInBounds_toArray, List.set_cons_zero, List.set_cons_succ]
    refine wpAnyT_skip (i := 6) rfl (by kernel_rfl) (by kernel_rfl) (by kernel_rfl) (fun _ _ _ h => h) (by kernel_rfl) hT (fun _ => hS) (by kernel_rfl) ?_
    simp only [Act.put, List.getElem_toArray, List.getElem_cons_succ, List.getElem_cons_zero, List.setIfInBounds_toArray, List.set_cons_zero, List.set_cons_succ]
    refine wpAnyT_skip (i := 7) rfl (by kernel_rfl) (by kernel_rfl) (by kernel_rfl) (fun _ _ _ h => h) (by kernel_rfl) hT (fun _ => hS) (by kernel_rfl) ?_
    simp only [Act.put, List.getElem_toArray, List.getElem_cons_succ, List.getElem_cons_zero, List.setIfInBounds_toArray, List.set_cons_zero, List.set_cons_succ]
    refine wpAnyT_skip (i := 8) rfl (by kernel_rfl) (by kernel_rfl) (by kernel_rfl) (fun _ _ _ h => h) (by kernel_rfl) hT (fun _ => hS) (by kernel_rfl) ?_
    simp only [Act.put, List.getElem_toArray, List.getElem_cons_succ, List.getElem_cons_zero, List.setIfInBounds_toArray, List.set_cons_zero, List.set_cons_succ]
    refine wpAnyT_skip (i := 9) rfl (by kernel_rfl) (by kernel_rfl) (by kernel_rfl) (fun _ _ _ h => h) (by kernel_rfl) hT (fun _ => hS) (by kernel_rfl) ?_
    simp only [Act.put, List.getElem_toArray, List.getElem_cons_succ, List.getElem_cons_zero, List.setIfInBounds_toArray, List.set_cons_zero, List.set_cons_succ]
    refine wpAnyT_skip (i := 10) rfl (by kernel_rfl) (by kernel_rfl) (by kernel_rfl) (fun _ _ _ h => h) (by kernel_rfl) hT (fun _ => hS) (by kernel_rfl) ?_
    simp only [Act.put, List.getElem_toArray, List.getElem_cons_succ, List.getElem_cons_zero, List.setIfInBounds_toArray, List.set_cons_zero, List.set_cons_succ]
    refine wpAnyT_skip (i := 11) rfl (by kernel_rfl) (by kernel_rfl) (by kernel_rfl) (fun _ _ _ h => h) (by kernel_rfl) hT (fun _ => hS) (by kernel_rfl) ?_
    simp only [Act.put, List.getElem_toArray, List.getElem_cons_succ, List.getElem_cons_zero, List.setIfInBounds_toArray, List.set_cons_zero, List.set_cons_succ]
    refine wpAnyT_skip (i := 12) rfl (by kernel_rfl) (by kernel_rfl) (by kernel_rfl) (fun _ _ _ h => h) (by kernel_rfl) hT (fun _ => hS) (by kernel_rfl) ?_
    simp only [Act.put, List.getElem_toArray, List.getElem_cons_succ, List.getElem_cons_zero, List.setIfInBounds_toArray, List.set_cons_zero, List.set_cons_succ]
    refine wpAnyT_held (i := 13) (v := .bool false) rfl (by kernel_rfl) (by kernel_rfl) (by kernel_rfl) (fun _ _ _ h => h) (by kernel_rfl) hT (fun _ => hS) (by kernel_rfl) ?_ ?_
    · intro wx hSw; go_split_ands; go_simp
    simp only [Act.put, List.getElem_toArray, List.getElem_cons_succ, List.getElem_cons_zero, List.setIfInBounds_toArray, List.set_cons_zero, List.set_cons_succ]
    refine wpAnyT_held (i := 14) (v := ?_) rfl (by kernel_rfl) (by kernel_rfl) (by kernel_rfl) (fun _ _ _ h => h) (by kernel_rfl) hT (fun _ => hS) (by kernel_rfl) ?_ ?_
    rotate_left
    · intro wx hSw; go_split_ands; go_simp; try with_reducible rfl
    simp only [Act.put, List.getElem_toArray, List.getElem_cons_succ, List.getElem_cons_zero, List.setIfInBounds_toArray, List.set_cons_zero, List.set_cons_succ]
    refine wpAnyT_skip (i := 15) rfl (by kernel_rfl) (by kernel_rfl) (by kernel_rfl) (fun _ _ _ h => h) (by kernel_rfl) hT (fun _ => hS) (by kernel_rfl) ?_
    simp only [Act.put, List.getElem_toArray, List.getElem_cons_succ, List.getElem_cons_zero, List.setIfInBounds_toArray, List.set_cons_zero, List.set_cons_succ]
    refine wpAnyT_skip (i := 16) rfl (by kernel_rfl) (by kernel_rfl) (by kernel_rfl) (fun _ _ _ h => h) (by kernel_rfl) hT (fun _ => hS) (by kernel_rfl) ?_
    simp only [Act.put, List.getElem_toArray, List.getElem_cons_succ, List.getElem_cons_zero, List.setIfInBounds_toArray, List.set_cons_zero, List.set_cons_succ]
    refine wpAnyT_skip (i := 17) rfl (by kernel_rfl) (by kernel_rfl) (by kernel_rfl) (fun _ _ _ h => h) (by kernel_rfl) hT (fun _ => hS) (by kernel_rfl) ?_
    simp only [Act.put, List.getElem_toArray, List.getElem_cons_succ, List.getElem_cons_zero, List.setIfInBounds_toArray, List.set_cons_zero, List.set_cons_succ]
    refine wpAnyT_skip (i := 18) rfl (by kernel_rfl) (by kernel_rfl) (by kernel_rfl) (fun _ _ _ h => h) (by kernel_rfl) hT (fun _ => hS) (by kernel_rfl) ?_
    simp only [Act.put, List.getElem_toArray, List.getElem_cons_succ, List.getElem_cons_zero, List.setIfInBounds_toArray, List.set_cons_zero, List.set_cons_succ]
    refine wpAnyT_held (i := 19) (v := .bool false) rfl (by kernel_rfl) (by kernel_rfl) (by kernel_rfl) (fun _ _ _ h => h) (by kernel_rfl) hT (fun _ => hS) (by kernel_rfl) ?_ ?_
    · intro wx hSw; go_split_ands; go_simp
    simp only [Act.put, List.getElem_toArray, List.getElem_cons_succ, List.getElem_cons_zero, List.setIfInBounds_toArray, List.set_cons_zero, List.set_cons_succ]
    refine wpAnyT_held (i := 20) (v := ?_) rfl (by kernel_rfl) (by kernel_rfl) (by kernel_rfl) (fun _ _ _ h => h) (by kernel_rfl) hT (fun _ => hS) (by kernel_rfl) ?_ ?_
    rotate_left
    · intro wx hSw; go_split_ands; go_simp; try with_reducible rfl
    simp only [Act.put, List.getElem_toArray, List.getElem_cons_succ, List.getElem_cons_zero, List.setIfInBounds_toArray, List.set_cons_zero, List.set_cons_succ]
    refine wpAnyT_done (by kernel_rfl) ?_ _
    go_wp2
    go_ret
    exact ⟨ret_bC HH.out.symm, hB1⟩
  obtain ⟨hd8, hs1, hsm⟩ := HRD.out rfl
  have hd8' : dn < 8 := by omega
  have hdi : (0 : Int) ≤ (dn : Int) := by omega
  obtain ⟨hq0, hq1⟩ := HVI.out dn hd8'
  have HTV : Veil (∀ W, CellsAt W (w.heap.size + 1) 32 EC → CellsAt W w.heap.size 28 VV → W.rangeAt (w.heap.size + 1) 0 EC ∧ W.cell? ⟨w.heap.size + 1, 0, none⟩ = some (.int .u8 (dn : Int)) ∧ W.cell? ⟨w.heap.size + 1, 1, none⟩ = some (.int .u32 DS) ∧ W.rangeAt (w.heap.size + 1) 2 PV ∧ W.rangeAt w.heap.size 0 VV ∧ W.cell? ⟨w.heap.size, dn, none⟩ = some (.int .u32 (v[dn]?.getD 0))) := ⟨fun W h1 h0 => by
    obtain ⟨a, b, c, d, f⟩ := HT.out W h1 h0
    exact ⟨a, b, c, d, f, HVC.out W h0 dn hd8'⟩⟩
  obtain ⟨VQ, hVQ⟩ : ∃ q, v[dn]?.getD 0 = q := ⟨_, rfl⟩
  rw [hVQ] at hq0 hq1 HH HTV
  clear hVQ HVI HVC HT HRD
  have wn : IntKind.u32.wrap (DS - 1) = DS - 1 := by rw [IntKind.wrap_u32]; omega
  by_cases hk : VQ = DS - 1
  rotate_left
  · have k3 : (DS - 1 == VQ) = false := by simpa using fun h : DS - 1 = VQ => hk h.symm
    replace HH : Veil (RY = false) := ⟨by rw [HH.out, show (VQ == DS - 1) = false by simpa using hk]; rfl⟩
    clear hk
    go_enter Try.func46, Try.ntmps46
    go_upto_region 1 with fail
    refine forget (p := fun y => Code.wp _ _ _ _ y) (fun W => Below w.heap.size w W ∧ CellsAt W (w.heap.size + 1) 32 EC ∧ CellsAt W w.heap.size 28 VV) ⟨hB0, h1, h0⟩ ?_
    clear hB0 h0 h1
    rintro W ⟨hB, hE, hV⟩
    have hr := HR.out W.drew
    refine wp_region_gateT (fun w' => w'.rangeAt (w.heap.size + 1) 0 EC ∧ w'.cell? ⟨w.heap.size + 1, 0, none⟩ = some (.int .u8 (dn : Int)) ∧ w'.cell? ⟨w.heap.size + 1, 1, none⟩ = some (.int .u32 DS) ∧ w'.rangeAt (w.heap.size + 1) 2 PV ∧ w'.rangeAt w.heap.size 0 VV ∧ w'.cell? ⟨w.heap.size, dn, none⟩ = some (.int .u32 VQ)) (fun _ => True) 99 (by kernel_rfl) ?_
    have hT : (fun w' : World => w'.rangeAt (w.heap.size + 1) 0 EC ∧ w'.cell? ⟨w.heap.size + 1, 0, none⟩ = some (.int .u8 (dn : Int)) ∧ w'.cell? ⟨w.heap.size + 1, 1, none⟩ = some (.int .u32 DS) ∧ w'.rangeAt (w.heap.size + 1) 2 PV ∧ w'.rangeAt w.heap.size 0 VV ∧ w'.cell? ⟨w.heap.size, dn, none⟩ = some (.int .u32 VQ)) W.drew := HTV.out W.drew hE hV
    have hS := trivial
    refine wpAnyT_load (i := 0) (dst := some 5) (ty := 32) (x := .tmp 3) (b := (w.heap.size + 1)) (o := (0)) (cs := EC) (by kernel_rfl) (by kernel_rfl) (by kernel_rfl) (by kernel_rfl) (by kernel_rfl) (fun _ _ _ h => h) (by kernel_rfl) hT (fun _ => hS) (by kernel_rfl) (fun _ h => h.1) uE rfl iE ?_
    simp only [Act.put, List.getElem_toArray, List.getElem_cons_succ, List.getElem_cons_zero, List.setIfInBounds_toArray, List.set_cons_zero, List.set_cons_succ]
    refine wpAnyT_one (i := 1) rfl (by kernel_rfl) (by kernel_rfl) (fun K hK => ?_)
    refine wpx_call _ _ (by kernel_rfl) (hr.mono ?_)
    rintro e w1 ⟨rfl, hb1⟩
    refine ⟨_, rfl, ?_⟩
    have hbW : Below W.heap.size W w1 := Below.trans (Below.refl _ W).drew hb1
    replace hT := HTV.out w1 (hE.farM hbW) (hV.farM hbW)
    have hB1 := hB.trans (hbW.mono hB.size)
    refine hK.out _ _ hT (fun _ => hS) ?_
    clear hK K
    try simp only [Act.put, List.getElem_toArray, List.getElem_cons_succ, List.getElem_cons_zero, List.setIfInBounds_toArray, List.set_cons_zero, List.set_cons_succ]
    refine wpAnyT_held (i := 2) (v := ?_) rfl (by kernel_rfl) (by kernel_rfl) (by kernel_rfl) (fun _ _ _ h => h) (by kernel_rfl) hT (fun _ => hS) (by kernel_rfl) ?_ ?_
    rotate_left
    · intro wx hSw; go_split_ands; go_simp; try with_reducible rfl
    simp only [Act.put, List.getElem_toArray, List.getElem_cons_succ, List.getElem_cons_zero, List.setIfInBounds_toArray, List.set_cons_zero, List.set_cons_succ]
    refine wpAnyT_held (i := 3) (v := ?_) rfl (by kernel_rfl) (by kernel_rfl) (by kernel_rfl) (fun _ _ _ h => h) (by kernel_rfl) hT (fun _ => hS) (by kernel_rfl) ?_ ?_
    rotate_left
    · intro wx hSw; go_split_ands; go_simp; try with_reducible rfl
    simp only [Act.put, List.getElem_toArray, List.getElem_cons_succ, List.getElem_cons_zero, List.setIfInBounds_toArray, List.set_cons_zero, List.set_cons_succ]
    refine wpAnyT_held (i := 4) (v := ?_) rfl (by kernel_rfl) (by kernel_rfl) (by kernel_rfl) (fun _ _ _ h => h) (by kernel_rfl) hT (fun _ => hS) (by kernel_rfl) ?_ ?_
    rotate_left
    · intro wx hSw; go_split_ands; go_simp; try with_reducible rfl
    simp only [Act.put, List.getElem_toArray, List.getElem_cons_succ, List.getElem_cons_zero, List.setIfInBounds_toArray, List.set_cons_zero, List.set_cons_succ]
    refine wpAnyT_held (i := 5) (v := ?_) rfl (by kernel_rfl) (by kernel_rfl) (by kernel_rfl) (fun _ _ _ h => h) (by kernel_rfl) hT (fun _ => hS) (by kernel_rfl) ?_ ?_
    rotate_left
    · intro wx hSw; go_split_ands; go_simp; try with_reducible rfl
    simp only [Act.put, List.getElem_toArray, List.getElem_cons_succ, List.getElem_cons_zero, List.setIfInBounds_toArray, List.set_cons_zero, List.set_cons_succ]
    refine wpAnyT_held (i := 6) (v := ?_) rfl (by kernel_rfl) (by kernel_rfl) (by kernel_rfl) (fun _ _ _ h => h) (by kernel_rfl) hT (fun _ => hS) (by kernel_rfl) ?_ ?_
    rotate_left
    · intro wx hSw; go_split_ands; go_simp; try with_reducible rfl
    simp only [Act.put, List.getElem_toArray, List.getElem_cons_succ, List.getElem_cons_zero, List.setIfInBounds_toArray, List.set_cons_zero, List.set_cons_succ]
    refine wpAnyT_held (i := 7) (v := ?_) rfl (by kernel_rfl) (by kernel_rfl) (by kernel_rfl) (fun _ _ _ h => h) (by kernel_rfl) hT (fun _ => hS) (by kernel_rfl) ?_ ?_
    rotate_left
    · intro wx hSw; go_split_ands; go_simp; try with_reducible rfl
    simp only [Act.put, List.getElem_toArray, List.getElem_cons_succ, List.getElem_cons_zero, List.setIfInBounds_toArray, List.set_cons_zero, List.set_cons_succ]
    refine wpAnyT_held (i := 8) (v := ?_) rfl (by kernel_rfl) (by kernel_rfl) (by kernel_rfl) (fun _ _ _ h => h) (by kernel_rfl) hT (fun _ => hS) (by kernel_rfl) ?_ ?_
    rotate_left
    · intro wx hSw; go_split_ands; go_simp; try with_reducible rfl
    simp only [Act.put, List.getElem_toArray, List.getElem_cons_succ, List.getElem_cons_zero, List.setIfInBounds_toArray, List.set_cons_zero, List.set_cons_succ]
    refine wpAnyT_held (i := 9) (v := ?_) rfl (by kernel_rfl) (by kernel_rfl) (by kernel_rfl) (fun _ _ _ h => h) (by kernel_rfl) hT (fun _ => hS) (by kernel_rfl) ?_ ?_
    rotate_left
    · intro wx hSw; go_split_ands; go_simp; try with_reducible rfl
    simp only [Act.put, List.getElem_toArray, List.getElem_cons_succ, List.getElem_cons_zero, List.setIfInBounds_toArray, List.set_cons_zero, List.set_cons_succ]
    refine wpAnyT_held (i := 10) (v := ?_) rfl (by kernel_rfl) (by kernel_rfl) (by kernel_rfl) (fun _ _ _ h => h) (by kernel_rfl) hT (fun _ => hS) (by kernel_rfl) ?_ ?_
    rotate_left
    · intro wx hSw; go_split_ands; go_simp; try with_reducible rfl
    simp only [Act.put, List.getElem_toArray, List.getElem_cons_succ, List.getElem_cons_zero, List.setIfInBounds_toArray, List.set_cons_zero, List.set_cons_succ]
    refine wpAnyT_held (i := 11) (v := ?_) rfl (by kernel_rfl) (by kernel_rfl) (by kernel_rfl) (fun _ _ _ h => h) (by kernel_rfl) hT (fun _ => hS) (by kernel_rfl) ?_ ?_
    rotate_left
    · intro wx hSw; go_split_ands; go_simp; try with_reducible rfl
    simp only [Act.put, List.getElem_toArray, List.getElem_cons_succ, List.getElem_cons_zero, List.setIfInBounds_toArray, List.set_cons_zero, List.set_cons_succ]
    refine wpAnyT_held (i := 12) (v := .bool false) rfl (by kernel_rfl) (by kernel_rfl) (by kernel_rfl) (fun _ _ _ h => h) (by kernel_rfl) hT (fun _ => hS) (by kernel_rfl) ?_ ?_
    · intro wx hSw; go_split_ands; go_simp
    simp only [Act.put, List.getElem_toArray, List.getElem_cons_succ, List.getElem_cons_zero, List.setIfInBounds_toArray, List.set_cons_zero, List.set_cons_succ]
    refine wpAnyT_held (i := 13) (v := .bool false) rfl (by kernel_rfl) (by kernel_rfl) (by kernel_rfl) (fun _ _ _ h => h) (by kernel_rfl) hT (fun _ => hS) (by kernel_rfl) ?_ ?_
    · intro wx hSw; go_split_ands; go_simp
    simp only [Act.put, List.getElem_toArray, List.getElem_cons_succ, List.getElem_cons_zero, List.setIfInBounds_toArray, List.set_cons_zero, List.set_cons_succ]
    refine wpAnyT_held (i := 14) (v := ?_) rfl (by kernel_rfl) (by kernel_rfl) (by kernel_rfl) (fun _ _ _ h => h) (by kernel_rfl) hT (fun _ => hS) (by kernel_rfl) ?_ ?_
    rotate_left
    · intro wx hSw; go_split_ands; go_simp; try with_reducible rfl
    simp only [Act.put, List.getElem_toArray, List.getElem_cons_succ, List.getElem_cons_zero, List.setIfInBounds_toArray, List.set_cons_zero, List.set_cons_succ]
    refine wpAnyT_skip (i := 15) rfl (by kernel_rfl) (by kernel_rfl) (by kernel_rfl) (fun _ _ _ h => h) (by kernel_rfl) hT (fun _ => hS) (by kernel_rfl) ?_
    simp only [Act.put, List.getElem_toArray, List.getElem_cons_succ, List.getElem_cons_zero, List.setIfInBounds_toArray, List.set_cons_zero, List.set_cons_succ]
    refine wpAnyT_skip (i := 16) rfl (by kernel_rfl) (by kernel_rfl) (by kernel_rfl) (fun _ _ _ h => h) (by kernel_rfl) hT (fun _ => hS) (by kernel_rfl) ?_
    simp only [Act.put, List.getElem_toArray, List.getElem_cons_succ, List.getElem_cons_zero, List.setIfInBounds_toArray, List.set_cons_zero, List.set_cons_succ]
    refine wpAnyT_skip (i := 17) rfl (by kernel_rfl) (by kernel_rfl) (by kernel_rfl) (fun _ _ _ h => h) (by kernel_rfl) hT (fun _ => hS) (by kernel_rfl) ?_
    simp only [Act.put, List.getElem_toArray, List.getElem_cons_succ, List.getElem_cons_zero, List.setIfInBounds_toArray, List.set_cons_zero, List.set_cons_succ]
    refine wpAnyT_skip (i := 18) rfl (by kernel_rfl) (by kernel_rfl) (by kernel_rfl) (fun _ _ _ h => h) (by kernel_rfl) hT (fun _ => hS) (by kernel_rfl) ?_
    simp only [Act.put, List.getElem_toArray, List.getElem_cons_succ, List.getElem_cons_zero, List.setIfInBounds_toArray, List.set_cons_zero, List.set_cons_succ]
    refine wpAnyT_held (i := 19) (v := .bool false) rfl (by kernel_rfl) (by kernel_rfl) (by kernel_rfl) (fun _ _ _ h => h) (by kernel_rfl) hT (fun _ => hS) (by kernel_rfl) ?_ ?_
    · intro wx hSw; go_split_ands; go_simp
    simp only [Act.put, List.getElem_toArray, List.getElem_cons_succ, List.getElem_cons_zero, List.setIfInBounds_toArray, List.set_cons_zero, List.set_cons_succ]
    refine wpAnyT_held (i := 20) (v := ?_) rfl (by kernel_rfl) (by kernel_rfl) (by kernel_rfl) (fun _ _ _ h => h) (by kernel_rfl) hT (fun _ => hS) (by kernel_rfl) ?_ ?_
    rotate_left
    · intro wx hSw; go_split_ands; go_simp; try with_reducible rfl
    simp only [Act.put, List.getElem_toArray, List.getElem_cons_succ, List.getElem_cons_zero, List.setIfInBounds_toArray, List.set_cons_zero, List.set_cons_succ]
    refine wpAnyT_done (by kernel_rfl) ?_ _
    go_wp2
    go_ret
    exact ⟨ret_bC HH.out.symm, hB1⟩
  have k3 : (DS - 1 == VQ) = true := by simp [hk]
  replace HH : Veil (RY = WI) := ⟨by rw [HH.out, show (VQ == DS - 1) = true by simp [hk]]; rfl⟩
  clear hk
  go_enter Try.func46, Try.ntmps46
  go_upto_region 1 with fail
  refine forget (p := fun y => Code.wp _ _ _ _ y) (fun W => Below w.heap.size w W ∧ CellsAt W (w.heap.size + 1) 32 EC ∧ CellsAt W w.heap.size 28 VV) ⟨hB0, h1, h0⟩ ?_
  clear hB0 h0 h1
  rintro W ⟨hB, hE, hV⟩
  have hr := HR.out W.drew
  refine wp_region_gateT (fun w' => w'.rangeAt (w.heap.size + 1) 0 EC ∧ w'.cell? ⟨w.heap.size + 1, 0, none⟩ = some (.int .u8 (dn : Int)) ∧ w'.cell? ⟨w.heap.size + 1, 1, none⟩ = some (.int .u32 DS) ∧ w'.rangeAt (w.heap.size + 1) 2 PV ∧ w'.rangeAt w.heap.size 0 VV ∧ w'.cell? ⟨w.heap.size, dn, none⟩ = some (.int .u32 VQ)) (fun _ => True) 99 (by kernel_rfl) ?_
  have hT : (fun w' : World => w'.rangeAt (w.heap.size + 1) 0 EC ∧ w'.cell? ⟨w.heap.size + 1, 0, none⟩ = some (.int .u8 (dn : Int)) ∧ w'.cell? ⟨w.heap.size + 1, 1, none⟩ = some (.int .u32 DS) ∧ w'.rangeAt (w.heap.size + 1) 2 PV ∧ w'.rangeAt w.heap.size 0 VV ∧ w'.cell? ⟨w.heap.size, dn, none⟩ = some (.int .u32 VQ)) W.drew := HTV.out W.drew hE hV
  have hS := trivial
  refine wpAnyT_load (i := 0) (dst := some 5) (ty := 32) (x := .tmp 3) (b := (w.heap.size + 1)) (o := (0)) (cs := EC) (by kernel_rfl) (by kernel_rfl) (by kernel_rfl) (by kernel_rfl) (by kernel_rfl) (fun _ _ _ h => h) (by kernel_rfl) hT (fun _ => hS) (by kernel_rfl) (fun _ h => h.1) uE rfl iE ?_
  simp only [Act.put, List.getElem_toArray, List.getElem_cons_succ, List.getElem_cons_zero, List.setIfInBounds_toArray, List.set_cons_zero, List.set_cons_succ]
  refine wpAnyT_one (i := 1) rfl (by kernel_rfl) (by kernel_rfl) (fun K hK => ?_)
  refine wpx_call _ _ (by kernel_rfl) (hr.mono ?_)
  rintro e w1 ⟨rfl, hb1⟩
  refine ⟨_, rfl, ?_⟩
  have hbW : Below W.heap.size W w1 := Below.trans (Below.refl _ W).drew hb1
  replace hT := HTV.out w1 (hE.farM hbW) (hV.farM hbW)
  have hB1 := hB.trans (hbW.mono hB.size)
  refine hK.out _ _ hT (fun _ => hS) ?_
  clear hK K
  try simp only [Act.put, List.getElem_toArray, List.getElem_cons_succ, List.getElem_cons_zero, List.setIfInBounds_toArray, List.set_cons_zero, List.set_cons_succ]
  refine wpAnyT_held (i := 2) (v := ?_) rfl (by kernel_rfl) (by kernel_rfl) (by kernel_rfl) (fun _ _ _ h => h) (by kernel_rfl) hT (fun _ => hS) (by kernel_rfl) ?_ ?_
  rotate_left
  · intro wx hSw; go_split_ands; go_simp; try with_reducible rfl
  simp only [Act.put, List.getElem_toArray, List.getElem_cons_succ, List.getElem_cons_zero, List.setIfInBounds_toArray, List.set_cons_zero, List.set_cons_succ]
  refine wpAnyT_held (i := 3) (v := ?_) rfl (by kernel_rfl) (by kernel_rfl) (by kernel_rfl) (fun _ _ _ h => h) (by kernel_rfl) hT (fun _ => hS) (by kernel_rfl) ?_ ?_
  rotate_left
  · intro wx hSw; go_split_ands; go_simp; try with_reducible rfl
  simp only [Act.put, List.getElem_toArray, List.getElem_cons_succ, List.getElem_cons_zero, List.setIfInBounds_toArray, List.set_cons_zero, List.set_cons_succ]
  refine wpAnyT_held (i := 4) (v := ?_) rfl (by kernel_rfl) (by kernel_rfl) (by kernel_rfl) (fun _ _ _ h => h) (by kernel_rfl) hT (fun _ => hS) (by kernel_rfl) ?_ ?_
  rotate_left
  · intro wx hSw; go_split_ands; go_simp; try with_reducible rfl
  simp only [Act.put, List.getElem_toArray, List.getElem_cons_succ, List.getElem_cons_zero, List.setIfInBounds_toArray, List.set_cons_zero, List.set_cons_succ]
  refine wpAnyT_held (i := 5) (v := ?_) rfl (by kernel_rfl) (by kernel_rfl) (by kernel_rfl) (fun _ _ _ h => h) (by kernel_rfl) hT (fun _ => hS) (by kernel_rfl) ?_ ?_
  rotate_left
  · intro wx hSw; go_split_ands; go_simp; try with_reducible rfl
  simp only [Act.put, List.getElem_toArray, List.getElem_cons_succ, List.getElem_cons_zero, List.setIfInBounds_toArray, List.set_cons_zero, List.set_cons_succ]
  refine wpAnyT_held (i := 6) (v := ?_) rfl (by kernel_rfl) (by kernel_rfl) (by kernel_rfl) (fun _ _ _ h => h) (by kernel_rfl) hT (fun _ => hS) (by kernel_rfl) ?_ ?_
  rotate_left
  · intro wx hSw; go_split_ands; go_simp; try with_reducible rfl
  simp only [Act.put, List.getElem_toArray, List.getElem_cons_succ, List.getElem_cons_zero, List.setIfInBounds_toArray, List.set_cons_zero, List.set_cons_succ]
  refine wpAnyT_held (i := 7) (v := ?_) rfl (by kernel_rfl) (by kernel_rfl) (by kernel_rfl) (fun _ _ _ h => h) (by kernel_rfl) hT (fun _ => hS) (by kernel_rfl) ?_ ?_
  rotate_left
  · intro wx hSw; go_split_ands; go_simp; try with_reducible rfl
  simp only [Act.put, List.getElem_toArray, List.getElem_cons_succ, List.getElem_cons_zero, List.setIfInBounds_toArray, List.set_cons_zero, List.set_cons_succ]
  refine wpAnyT_held (i := 8) (v := ?_) rfl (by kernel_rfl) (by kernel_rfl) (by kernel_rfl) (fun _ _ _ h => h) (by kernel_rfl) hT (fun _ => hS) (by kernel_rfl) ?_ ?_
  rotate_left
  · intro wx hSw; go_split_ands; go_simp; try with_reducible rfl
  simp only [Act.put, List.getElem_toArray, List.getElem_cons_succ, List.getElem_cons_zero, List.setIfInBounds_toArray, List.set_cons_zero, List.set_cons_succ]
  refine wpAnyT_held (i := 9) (v := ?_) rfl (by kernel_rfl) (by kernel_rfl) (by kernel_rfl) (fun _ _ _ h => h) (by kernel_rfl) hT (fun _ => hS) (by kernel_rfl) ?_ ?_
  rotate_left
  · intro wx hSw; go_split_ands; go_simp; try with_reducible rfl
  simp only [Act.put, List.getElem_toArray, List.getElem_cons_succ, List.getElem_cons_zero, List.setIfInBounds_toArray, List.set_cons_zero, List.set_cons_succ]
  refine wpAnyT_held (i := 10) (v := ?_) rfl (by kernel_rfl) (by kernel_rfl) (by kernel_rfl) (fun _ _ _ h => h) (by kernel_rfl) hT (fun _ => hS) (by kernel_rfl) ?_ ?_
  rotate_left
  · intro wx hSw; go_split_ands; go_simp; try with_reducible rfl
  simp only [Act.put, List.getElem_toArray, List.getElem_cons_succ, List.getElem_cons_zero, List.setIfInBounds_toArray, List.set_cons_zero, List.set_cons_succ]
  refine wpAnyT_held (i := 11) (v := ?_) rfl (by kernel_rfl) (by kernel_rfl) (by kernel_rfl) (fun _ _ _ h => h) (by kernel_rfl) hT (fun _ => hS) (by kernel_rfl) ?_ ?_
  rotate_left
  · intro wx hSw; go_split_ands; go_simp; try with_reducible rfl
  simp only [Act.put, List.getElem_toArray, List.getElem_cons_succ, List.getElem_cons_zero, List.setIfInBounds_toArray, List.set_cons_zero, List.set_cons_succ]
  refine wpAnyT_held (i := 12) (v := .bool true) rfl (by kernel_rfl) (by kernel_rfl) (by kernel_rfl) (fun _ _ _ h => h) (by kernel_rfl) hT (fun _ => hS) (by kernel_rfl) ?_ ?_
  · intro wx hSw; go_split_ands; go_simp
  simp only [Act.put, List.getElem_toArray, List.getElem_cons_succ, List.getElem_cons_zero, List.setIfInBounds_toArray, List.set_cons_zero, List.set_cons_succ]
  refine wpAnyT_held (i := 13) (v := .bool true) rfl (by kernel_rfl) (by kernel_rfl) (by kernel_rfl) (fun _ _ _ h => h) (by kernel_rfl) hT (fun _ => hS) (by kernel_rfl) ?_ ?_
  · intro wx hSw; go_split_ands; go_simp
  simp only [Act.put, List.getElem_toArray, List.getElem_cons_succ, List.getElem_cons_zero, List.setIfInBounds_toArray, List.set_cons_zero, List.set_cons_succ]
  refine wpAnyT_held (i := 14) (v := ?_) rfl (by kernel_rfl) (by kernel_rfl) (by kernel_rfl) (fun _ _ _ h => h) (by kernel_rfl) hT (fun _ => hS) (by kernel_rfl) ?_ ?_
  rotate_left
  · intro wx hSw; go_split_ands; go_simp; try with_reducible rfl
  simp only [Act.put, List.getElem_toArray, List.getElem_cons_succ, List.getElem_cons_zero, List.setIfInBounds_toArray, List.set_cons_zero, List.set_cons_succ]
  refine wpAnyT_held (i := 15) (v := ?_) rfl (by kernel_rfl) (by kernel_rfl) (by kernel_rfl) (fun _ _ _ h => h) (by kernel_rfl) hT (fun _ => hS) (by kernel_rfl) ?_ ?_
  rotate_left
  · intro wx hSw; go_split_ands; go_simp; try with_reducible rfl
  simp only [Act.put, List.getElem_toArray, List.getElem_cons_succ, List.getElem_cons_zero, List.setIfInBounds_toArray, List.set_cons_zero, List.set_cons_succ]
  refine wpAnyT_load (i := 16) (dst := some 21) (ty := 28) (x := .tmp 20) (b := (w.heap.size + 1)) (o := (2)) (cs := PV) (by kernel_rfl) (by kernel_rfl) (by kernel_rfl) (by kernel_rfl) (by kernel_rfl) (fun _ _ _ h => h) (by kernel_rfl) hT (fun _ => hS) (by kernel_rfl) (fun _ h => h.2.2.2.1) uV rfl iP ?_
  simp only [Act.put, List.getElem_toArray, List.getElem_cons_succ, List.getElem_cons_zero, List.setIfInBounds_toArray, List.set_cons_zero, List.set_cons_succ]
  refine wpAnyT_load (i := 17) (dst := some 22) (ty := 28) (x := .tmp 2) (b := w.heap.size) (o := (0)) (cs := VV) (by kernel_rfl) (by kernel_rfl) (by kernel_rfl) (by kernel_rfl) (by kernel_rfl) (fun _ _ _ h => h) (by kernel_rfl) hT (fun _ => hS) (by kernel_rfl) (fun _ h => h.2.2.2.2.1) uV rfl iV ?_
  simp only [Act.put, List.getElem_toArray, List.getElem_cons_succ, List.getElem_cons_zero, List.setIfInBounds_toArray, List.set_cons_zero, List.set_cons_succ]
  refine wpAnyT_one (i := 18) rfl (by kernel_rfl) (by kernel_rfl) (fun K hK => ?_)
  refine wpx_call _ _ (by kernel_rfl) ((HW.out w1).mono ?_)
  rintro e w2 ⟨rfl, hb2⟩
  refine ⟨_, rfl, ?_⟩
  have hbW2 := hbW.trans (hb2.mono hbW.size)
  replace hT := HTV.out w2 (hE.farM hbW2) (hV.farM hbW2)
  have hB2 := hB.trans (hbW2.mono hB.size)
  refine hK.out _ _ hT (fun _ => hS) ?_
  clear hK K
  try simp only [Act.put, List.getElem_toArray, List.getElem_cons_succ, List.getElem_cons_zero, List.setIfInBounds_toArray, List.set_cons_zero, List.set_cons_succ]
  refine wpAnyT_held (i := 19) (v := .bool WI) rfl (by kernel_rfl) (by kernel_rfl) (by kernel_rfl) (fun _ _ _ h => h) (by kernel_rfl) hT (fun _ => hS) (by kernel_rfl) ?_ ?_
  · intro wx hSw; go_split_ands; go_simp
  simp only [Act.put, List.getElem_toArray, List.getElem_cons_succ, List.getElem_cons_zero, List.setIfInBounds_toArray, List.set_cons_zero, List.set_cons_succ]
  refine wpAnyT_held (i := 20) (v := ?_) rfl (by kernel_rfl) (by kernel_rfl) (by kernel_rfl) (fun _ _ _ h => h) (by kernel_rfl) hT (fun _ => hS) (by kernel_rfl) ?_ ?_
  rotate_left
  · intro wx hSw; go_split_ands; go_simp; try with_reducible rfl
  simp only [Act.put, List.getElem_toArray, List.getElem_cons_succ, List.getElem_cons_zero, List.setIfInBounds_toArray, List.set_cons_zero, List.set_cons_succ]
  refine wpAnyT_done (by kernel_rfl) ?_ _
  go_wp2
  go_ret
  exact ⟨ret_bC HH.out.symm, hB2⟩
end Go.Proofs.Ytgmbmdmbnpkbbaa

namespace Go.Proofs.Ytgmbmdmbnpkbbaa
open Go.RowKit
set_option maxRecDepth 20000

theorem fold_set (off : Nat) : ∀ (cs : List Value) (k : Nat) (old : List Value), off + k + cs.length ≤ old.length →
    (cs.zipIdx k).foldl (fun (a : Array Value) (p : Value × Nat) => a.setIfInBounds (off + p.2) p.1) old.toArray = (old.take (off + k) ++ cs ++ old.drop (off + k + cs.length)).toArray
  | [], k, old, _ => by simp
  | c :: cs, k, old, h => by
    rw [List.length_cons] at h
    rw [List.zipIdx_cons, List.foldl_cons, List.setIfInBounds_toArray, fold_set off cs (k + 1) (old.set (off + k) c) (by rw [List.length_set]; omega)]
    congr 1
    have e1 : (old.set (off + k) c).take (off + (k + 1)) = old.take (off + k) ++ [c] := by
      rw [show off + (k + 1) = (off + k) + 1 by omega, List.take_add_one, List.take_set_of_le (Nat.le_refl _), List.getElem?_set_self (by omega)]
      rfl
    have e2 : (old.set (off + k) c).drop (off + (k + 1) + cs.length) = old.drop (off + k + (c :: cs).length) := by
      rw [List.drop_set_of_lt (by omega), List.length_cons]
      congr 1; omega
    rw [e1, e2]
    simp
theorem fill_cons (place : Nat → Option (Nat × Nat)) (old cs : List Value) (i off size : Nat) (v : Value) (rest : List (Nat × Value)) (hp : place i = some (off, size)) (hv : v.cells = cs.toArray) (hs : cs.length = size) (hl : off + size ≤ old.length) :
    Instr.fill place old.toArray ((i, v) :: rest) = Instr.fill place (old.take off ++ cs ++ old.drop (off + size)).toArray rest := by
  rw [Instr.fill, hp]
  simp only [hv, List.size_toArray, hs]
  rw [if_neg (by simp; omega), ← Array.foldl_toList, Array.toList_zipIdx]
  have := fold_set off cs 0 old (by omega)
  simp only [Nat.add_zero] at this
  rw [hs] at this
  rw [← this]
theorem built_of {P : Program} {t : TypeId} {fields : Array Field} {z : List Value} {places : List (Nat × Nat)} (hz : (P.info? t).map (·.zero) = some (some (.agg z.toArray))) (hu : P.underlying t = some (.struct fields)) (hp : fields.toList.mapM (fun f => (P.info? f.type).map fun i => (f.offset, i.size)) = some places) (parts : List (Nat × Value)) :
    P.built t parts = Instr.fill (places.toArray[·]?) z.toArray parts := by
  unfold Program.built
  cases hi : P.info? t with
  | none => simp [hi] at hz
  | some it =>
    have hz' : it.zero = some (.agg z.toArray) := by simpa [hi] using hz
    simp only [hu, hz', hp, Value.cells]
end Go.Proofs.Ytgmbmdmbnpkbbaa

namespace Go.Proofs.Ytgmbmdmbnpkbbaa
open Go.RowKit
set_option maxRecDepth 20000
set_option linter.unusedSimpArgs false

/-- The parts L (the field's number, its value, its cells) lie one behind the other from off on. -/
def Tiles (place : Nat → Option (Nat × Nat)) : Nat → List (Nat × Value × List Value) → Prop
  | _, [] => True
  | off, x :: L => place x.1 = some (off, x.2.2.length) ∧ x.2.1.cells = x.2.2.toArray ∧ Tiles place (off + x.2.2.length) L
def tileL (L : List (Nat × Value × List Value)) : List Value := (L.map (·.2.2)).flatten
theorem tileL_cons (x : Nat × Value × List Value) (L : List (Nat × Value × List Value)) : tileL (x :: L) = x.2.2 ++ tileL L := by simp [tileL]
theorem fill_tile (place : Nat → Option (Nat × Nat)) : ∀ (L : List (Nat × Value × List Value)) (done tail : List Value), Tiles place done.length L → tail.length = (tileL L).length →
    Instr.fill place (done ++ tail).toArray (L.map fun x => (x.1, x.2.1)) = some (done ++ tileL L).toArray
  | [], done, tail, _, hl => by
    have : tail = [] := List.length_eq_zero_iff.1 (by simpa [tileL] using hl)
    rw [this]; simp [Instr.fill, tileL]
  | x :: L, done, tail, hT, hl => by
    obtain ⟨h1, h2, h3⟩ := hT
    rw [tileL_cons, List.length_append] at hl
    rw [List.map_cons, fill_cons place (done ++ tail) x.2.2 x.1 done.length x.2.2.length x.2.1 _ h1 h2 rfl (by rw [List.length_append]; omega)]
    rw [List.take_left, List.drop_length_add_append, fill_tile place L (done ++ x.2.2) (tail.drop x.2.2.length) (by rw [List.length_append]; exact h3) (by rw [List.length_drop]; omega), tileL_cons, List.append_assoc]
theorem built_tile {P : Program} {t : TypeId} {fields : Array Field} {n : Nat} {places : List (Nat × Nat)} (hz : (P.info? t).map (fun i => i.zero.map (·.cells.size)) = some (some n)) (hu : P.underlying t = some (.struct fields)) (hp : fields.toList.mapM (fun f => (P.info? f.type).map fun i => (f.offset, i.size)) = some places)
    (L : List (Nat × Value × List Value)) (hT : Tiles (places.toArray[·]?) 0 L) (hn : n = (tileL L).length) (w : World) : (Instr.build t (L.map fun x => (x.1, x.2.1)).toArray).run P w = .ok (.agg (tileL L).toArray) w := by
  refine run_build w _ _ _ ?_
  unfold Program.built
  cases hi : P.info? t with
  | none => simp [hi] at hz
  | some it =>
    cases hq : it.zero with
    | none => simp [hi, hq] at hz
    | some zv =>
      have hs : zv.cells.size = n := by simpa [hi, hq] using hz
      simp only [hu, hp, hq]
      have := fill_tile (places.toArray[·]?) L [] zv.cells.toList hT (by rw [Array.length_toList, hs, hn])
      rw [List.nil_append, List.nil_append] at this
      simpa using this
theorem execBuildT {P : Program} {o : Oper} {ev : Operand → Value} {w : World} {v : Value} (t : TypeId) (parts : Array (Nat × Operand)) (ho : o.op = .build t parts) (vs : Array (Nat × Value)) (hv : (parts.map fun (i, x) => (i, ev x)) = vs) (h : (Instr.build t vs).run P w = .ok v w) :
    (execOp ev o).run P w = .ok (.value v) w := by
  unfold execOp
  simp only [ho, hv, Sem.run_bind, Sem.run_pure, Result.andThen_ok, h]
theorem wpList_bldgT {P : Program} {ops : Array Oper} {rest : List Oper} {o : Oper} {a : Act} {w : World} {Q : Exit → Act → World → Prop} (hw : Region.wanted o (yielded ops a.tmps) = true) (t : TypeId) (parts : Array (Nat × Operand)) (ho : o.op = .build t parts) (vals : Array (Nat × Value)) (hv : (parts.map fun (i, x) => (i, a.eval x)) = vals) (v : Value) (hrun : (Instr.build t vals).run P w = .ok v w)
    (h : wpList P ops Q rest (a.put o.dst v) w) : wpList P ops Q (o :: rest) a w :=
  wpList_step fun K hK => by
    rw [if_pos hw]
    exact wpx_bld t parts ho vals hv v hrun (hK _ _ h)
theorem wpList_eqgT {P : Program} {ops : Array Oper} {rest : List Oper} {o : Oper} {a : Act} {w : World} {Q : Exit → Act → World → Prop} (hw : Region.wanted o (yielded ops a.tmps) = true) (op : BinOp) (t u : TypeId) (x y : Operand) (ho : o.op = .binOp op t x y u) (xv yv v : Value) (hx : a.eval x = xv) (hy : a.eval y = yv) (hgd : (eqGuard op t x y xv yv).run P w = .ok () w) (hrun : (binOp op t xv yv).run P w = .ok v w)
    (h : wpList P ops Q rest (a.put o.dst v) w) : wpList P ops Q (o :: rest) a w :=
  wpList_step fun K hK => by
    rw [if_pos hw]
    unfold Oper.wp execOp
    simp only [ho, hx, hy, Sem.run_bind, hgd, hrun, Result.andThen_ok, Sem.run_pure]
    exact hK _ _ h
end Go.Proofs.Ytgmbmdmbnpkbbaa

namespace Go.Proofs.Ytgmbmdmbnpkbbaa
open Go.RowKit
set_option maxRecDepth 20000
set_option linter.unusedSimpArgs false

/-- The slice v of the call's own holds the items L, of k cells each, of type t. -/
structure OwnI (w : World) (base : Nat) (t : TypeId) (k : Nat) (v : Value) (L : List (List Value)) : Prop where
  own : w.ownsRow base t k v L.length L.flatten
  each : ∀ c ∈ L, c.length = k
theorem flat_len {k : Nat} : ∀ L : List (List Value), (∀ c ∈ L, c.length = k) → L.flatten.length = L.length * k
  | [], _ => by simp
  | c :: L, h => by
    rw [List.flatten_cons, List.length_append, flat_len L (fun x hx => h x (by simp [hx])), h c (by simp), List.length_cons, Nat.add_mul]; omega
theorem flat_get {k : Nat} (L : List (List Value)) (hL : ∀ c ∈ L, c.length = k) (j : Nat) (hj : j < L.length) : (L.flatten.drop (j * k)).take k = L[j] := by
  induction L generalizing j with
  | nil => simp at hj
  | cons e L ih =>
    have he : e.length = k := hL e (by simp)
    rw [List.flatten_cons]
    cases j with
    | zero => rw [Nat.zero_mul, List.drop_zero]; exact List.take_left' he
    | succ j =>
      have := ih (fun x hx => hL x (by simp [hx])) j (by simpa using hj)
      rw [show (j + 1) * k = e.length + j * k by rw [he, Nat.add_mul]; omega, List.drop_length_add_append, this]
      rfl
theorem OwnI.nil (w : World) (base : Nat) (t : TypeId) (k : Nat) : OwnI w base t k (.slice none 0 0) [] := ⟨World.ownsRow_nil w base t k, by simp⟩
theorem OwnI.isSlice {w : World} {base : Nat} {t : TypeId} {k : Nat} {v : Value} {L : List (List Value)} (h : OwnI w base t k v L) : ∃ x c, v = .slice x L.length c := by
  rcases h.own.2 with ⟨rfl, h0⟩ | ⟨g, cap, cur, rfl, _⟩
  · exact ⟨none, 0, by rw [h0]⟩
  · exact ⟨_, _, rfl⟩
theorem OwnI.congr {w w' : World} {base : Nat} {t : TypeId} {k : Nat} {v : Value} {L : List (List Value)} (h : OwnI w base t k v L) (hk : ∀ g, v.ownBlock = some g → w'.heap[g]? = w.heap[g]?) : OwnI w' base t k v L := by
  refine ⟨⟨h.own.1, ?_⟩, h.each⟩
  rcases h.own.2 with h' | ⟨g, cap, cur, h1, h2, h3, h4⟩
  · exact .inl h'
  · exact .inr ⟨g, cap, cur, h1, h2, (hk g (by rw [h1]; rfl)).trans h3, h4⟩
theorem OwnI.blockLt {w : World} {base : Nat} {t : TypeId} {k : Nat} {v : Value} {L : List (List Value)} (h : OwnI w base t k v L) (g : Nat) (hg : v.ownBlock = some g) : g < w.heap.size ∧ base ≤ g ∧ ∃ cur, w.heap[g]? = some (.cells cur t (0, 0)) := by
  rcases h.own.2 with ⟨rfl, _⟩ | ⟨g', cap, cur, rfl, h2, h3, _⟩
  · cases hg
  · obtain rfl : g' = g := by simpa [Value.ownBlock] using hg
    exact ⟨(Array.getElem?_eq_some_iff.1 h3).1, h2, cur, h3⟩
theorem OwnI.far {w w' : World} {base : Nat} {t : TypeId} {k : Nat} {v : Value} {L : List (List Value)} (h : OwnI w base t k v L) (hb : Below w.heap.size w w') : OwnI w' base t k v L := h.congr fun g hg => hb.block g (h.blockLt g hg).1
theorem OwnI.less {w : World} {base base' : Nat} {t : TypeId} {k : Nat} {v : Value} {L : List (List Value)} (h : OwnI w base t k v L) (hb : base' ≤ base) : OwnI w base' t k v L := by
  refine ⟨⟨h.own.1, ?_⟩, h.each⟩
  rcases h.own.2 with h' | ⟨g, cap, cur, h1, h2, h3⟩
  · exact .inl h'
  · exact .inr ⟨g, cap, cur, h1, by omega, h3⟩
/-- The item at place j. -/
theorem OwnI.at_ {w : World} {base : Nat} {t : TypeId} {k : Nat} {x : Option Addr} {n c : Nat} {L : List (List Value)} (h : OwnI w base t k (.slice x n c) L) (j : Nat) (hj : j < L.length) : ∃ g, x = some ⟨g, 0, none⟩ ∧ n = L.length ∧ w.rangeAt g (j * k) L[j] := by
  rcases h.own.2 with ⟨h1, h0⟩ | ⟨g, cap', cur, h1, _, hg, hc, hm, hs, ht⟩
  · omega
  · cases h1
    refine ⟨g, rfl, rfl, fun i v hv => ?_⟩
    have hi : i < k := by have := (List.getElem?_eq_some_iff.1 hv).1; rw [h.each _ (List.getElem_mem hj)] at this; exact this
    rw [cell_of_row w g _ _ _ _ hg, ← Array.getElem?_toList]
    have e := flat_get L h.each j hj
    rw [← ht] at e
    have hlt : j * k + i < L.length * k := by
      have := Nat.mul_le_mul_right k (show j + 1 ≤ L.length from hj)
      rw [Nat.add_mul] at this; omega
    rw [← e, List.getElem?_take_of_lt hi, List.getElem?_drop, List.getElem?_take_of_lt hlt] at hv
    exact hv
/-- All its cells, from wherever they are copied. -/
theorem OwnI.src {w : World} {base : Nat} {t : TypeId} {k : Nat} {g n c : Nat} {L : List (List Value)} (h : OwnI w base t k (.slice (some ⟨g, 0, none⟩) n c) L) : n = L.length ∧ ∀ j u, L.flatten[j]? = some u → w.cell? ((⟨g, 0, none⟩ : Addr).add j) = some u := by
  rcases h.own.2 with ⟨h1, h0⟩ | ⟨g', cap', cur, h1, _, hg, hc, hm, hs, ht⟩
  · cases h1
  · cases h1
    refine ⟨rfl, fun j u hu => ?_⟩
    rw [show (⟨g, 0, none⟩ : Addr).add j = ⟨g, 0 + j, none⟩ by unfold Addr.add; split <;> simp_all, cell_of_row w g _ _ _ _ hg, ← Array.getElem?_toList, Nat.zero_add]
    rw [← ht, List.getElem?_take] at hu
    split at hu
    · exact hu
    · cases hu
section
variable {P : Program}
/-- One item behind items of the call's own: the new one lies in a block of its own. -/
theorem OwnI.app {w : World} {base : Nat} {t : TypeId} {k : Nat} {v : Value} {L : List (List Value)} (h : OwnI w base t k v L) (st ty : TypeId) {z : Value} {by_ : Nat} (hst : P.underlying st = some (.slice t)) (hi : (P.info? t).map (fun i => (i.zero, i.size, i.bytes)) = some (some z, k, by_)) (hz : z.cells.size = k) (hk : 0 < k)
    (c : List Value) (hc : c.length = k) (h1 : ∀ u ∈ c, u.oneCell' = true) (g : Nat) (hg : w.rangeAt g 0 c) (hln : L.length ≤ 1000000) (hby : by_ ≤ 1000) (hbase : base ≤ w.heap.size) :
    ∃ v' w', (Builtin.append_ #[st, st] ty #[v, .slice (some ⟨g, 0, none⟩) 1 1]).run P w = .ok v' w' ∧ OwnI w' base t k v' (L ++ [c]) ∧ w.grownBy w' v.ownBlock ∧ (v'.ownBlock = v.ownBlock ∨ v'.ownBlock = some w.heap.size) := by
  obtain ⟨i0, hi, hz0, hz1, hz2⟩ := info_parts hi
  obtain ⟨v', w', hr, h2, h3, _, h5⟩ := run_append_own_at (P := P) w base st ty t i0 _ k by_ hst hi hz0 hz1 hz2 hz hk v L.length L.flatten h.own ⟨g, 0, none⟩ 1 1 c (by omega) (fun j u hu => by rw [show (⟨g, 0, none⟩ : Addr).add j = ⟨g, 0 + j, none⟩ by unfold Addr.add; split <;> simp_all]; exact hg j u hu) h1 (by simp [maxLen]; omega)
    (by have := Nat.mul_le_mul (show L.length + 1 ≤ 1000001 by omega) hby; omega) hbase
  refine ⟨v', w', hr, ⟨?_, fun x hx => ?_⟩, h3, h5⟩
  · rw [List.length_append, show (L ++ [c]).flatten = L.flatten ++ c by simp]
    exact h2
  · rcases List.mem_append.1 hx with h' | h'
    · exact h.each x h'
    · rw [List.mem_singleton.1 h']; exact hc
/-- Items behind items of the call's own. -/
theorem OwnI.apps {w : World} {base : Nat} {t : TypeId} {k : Nat} {v : Value} {L : List (List Value)} (h : OwnI w base t k v L) (st ty : TypeId) {z : Value} {by_ : Nat} (hst : P.underlying st = some (.slice t)) (hi : (P.info? t).map (fun i => (i.zero, i.size, i.bytes)) = some (some z, k, by_)) (hz : z.cells.size = k) (hk : 0 < k)
    (C : List (List Value)) (hC : ∀ c ∈ C, c.length = k) (h1 : ∀ c ∈ C, ∀ u ∈ c, u.oneCell' = true) (base' : Nat) (u : Value) (hu : OwnI w base' t k u C) (hln : L.length + C.length ≤ 1000000) (hby : by_ ≤ 1000) (hbase : base ≤ w.heap.size) :
    ∃ v' w', (Builtin.append_ #[st, st] ty #[v, u]).run P w = .ok v' w' ∧ OwnI w' base t k v' (L ++ C) ∧ w.grownBy w' v.ownBlock ∧ (v'.ownBlock = v.ownBlock ∨ v'.ownBlock = some w.heap.size) := by
  obtain ⟨i0, hi, hz0, hz1, hz2⟩ := info_parts hi
  rcases hu.own.2 with ⟨hu0, h0⟩ | ⟨g, cap, cur, hu0, hrest⟩
  · have hC0 : C = [] := List.length_eq_zero_iff.1 h0
    subst hC0 hu0
    refine ⟨v, w, run_append_owned_none (P := P) (w := w) base st ty t i0 k hst hi v L.length L.flatten h.own, by rw [List.append_nil]; exact h, ⟨rfl, rfl, rfl, Nat.le_refl _, fun _ _ _ => rfl⟩, .inl rfl⟩
  · subst hu0
    obtain ⟨_, hsrc⟩ := hu.src
    obtain ⟨v', w', hr, h2, h3, _, h5⟩ := run_append_own_at (P := P) w base st ty t i0 _ k by_ hst hi hz0 hz1 hz2 hz hk v L.length L.flatten h.own ⟨g, 0, none⟩ C.length cap C.flatten (flat_len C hC) hsrc (fun x hx => by
        obtain ⟨c, hc, hxc⟩ := List.mem_flatten.1 hx
        exact h1 c hc x hxc) (by simp [maxLen]; omega)
      (by have := Nat.mul_le_mul (show L.length + C.length ≤ 1000000 by omega) hby; omega) hbase
    refine ⟨v', w', hr, ⟨?_, fun x hx => ?_⟩, h3, h5⟩
    · rw [List.length_append, List.flatten_append]
      exact h2
    · rcases List.mem_append.1 hx with h' | h'
      · exact h.each x h'
      · exact hC x h'
theorem wpList_appx {ops : Array Oper} {rest : List Oper} {o : Oper} {a : Act} {w : World} {Q : Exit → Act → World → Prop} (hgd : o.guard = none) (d s : Operand) (dT sT : TypeId) (ho : o.op = .call { callee := .builtin .append, args := #[d, s], argTypes := #[dT, sT] }) (dv sv v : Value) (w' : World) (hd : a.eval d = dv) (hs : a.eval s = sv) (hrun : (Builtin.append_ #[dT, sT] o.type #[dv, sv]).run P w = .ok v w')
    (h : wpList P ops Q rest (a.put o.dst v) w') : wpList P ops Q (o :: rest) a w :=
  wpList_plain hgd fun _ hK => wpx_app d s dT sT ho dv sv v w' hd hs hrun (hK _ _ h)
theorem fill_one {k : Nat} (f : Nat → Value) (cs : List Value) (hc : cs.length = k) : Instr.fill (fun i => some (i * k, k)) ((Array.range (1 * k)).map f) [(0, .agg cs.toArray)] = some cs.toArray := by
  have e : (Array.range (1 * k)).map f = (([] : List Value) ++ (List.range (1 * k)).map f).toArray := by simp [← List.toArray_range]
  rw [e]
  have := fill_tile (fun i => some (i * k, k)) [(0, .agg cs.toArray, cs)] [] ((List.range (1 * k)).map f) ⟨by simp [hc], rfl, trivial⟩ (by simp [tileL, hc])
  simpa [tileL] using this
/-- 'f(x)' of a variadic f, x a struct: a block with it alone. -/
theorem wp_bs1 {o : Oper} {a : Act} {w : World} {K : Act → World → Prop} {Q : Exit → Act → World → Prop} (t e : TypeId) (x : Operand) (ho : o.op = .buildSlice t 1 #[(0, x)]) (cs : List Value) (hx : a.eval x = .agg cs.toArray) {z : Value} {k by_ : Nat}
    (hu : P.underlying t = some (.slice e)) (hi : (P.info? e).map (fun i => (i.zero, i.size, i.bytes)) = some (some z, k, by_)) (hk : 0 < k) (hk2 : k ≤ 1000) (hc : cs.length = k)
    (h : K (a.put o.dst (.slice (some ⟨w.heap.size, 0, none⟩) 1 1)) (w.alloc (.cells cs.toArray e))) : o.wp P a w K Q := by
  obtain ⟨i0, hi, hz0, hz1, hz2⟩ := info_parts hi
  refine wp_buildSlice t e 1 _ ho cs.toArray i0 z hu hi hz0 (by rw [hz1]; omega) (by rw [hz1]; omega) ?_ h
  rw [hz1]
  simp only [List.map_toArray, List.map_cons, List.map_nil, hx]
  exact fill_one _ cs hc
theorem wpList_bs1 {ops : Array Oper} {rest : List Oper} {o : Oper} {a : Act} {w : World} {Q : Exit → Act → World → Prop} (hgd : o.guard = none) (t e : TypeId) (x : Operand) (ho : o.op = .buildSlice t 1 #[(0, x)]) (cs : List Value) (hx : a.eval x = .agg cs.toArray) {z : Value} {k by_ : Nat}
    (hu : P.underlying t = some (.slice e)) (hi : (P.info? e).map (fun i => (i.zero, i.size, i.bytes)) = some (some z, k, by_)) (hk : 0 < k) (hk2 : k ≤ 1000) (hc : cs.length = k)
    (h : wpList P ops Q rest (a.put o.dst (.slice (some ⟨w.heap.size, 0, none⟩) 1 1)) (w.alloc (.cells cs.toArray e))) : wpList P ops Q (o :: rest) a w :=
  wpList_plain hgd fun _ hK => wp_bs1 t e x ho cs hx hu hi hk hk2 hc (hK _ _ h)
theorem OwnI.one (w : World) (t : TypeId) (k : Nat) (c : List Value) (hc : c.length = k) : OwnI (w.alloc (.cells c.toArray t)) w.heap.size t k (.slice (some ⟨w.heap.size, 0, none⟩) 1 1) [c] := ⟨⟨by simp [hc], .inr ⟨_, _, _, rfl, Nat.le_refl _, heap_alloc_new w _, by simp, by simp [maxLen], by simp [hc], by simp [← hc]⟩⟩, by simpa using hc⟩
theorem OwnI.empty (w : World) (t : TypeId) (k : Nat) : OwnI (w.alloc (.cells #[] t)) w.heap.size t k (.slice (some ⟨w.heap.size, 0, none⟩) 0 0) [] := ⟨⟨by simp, .inr ⟨_, _, _, rfl, Nat.le_refl _, heap_alloc_new w _, by simp, by simp [maxLen], by simp, by simp⟩⟩, by simp⟩
end
end Go.Proofs.Ytgmbmdmbnpkbbaa
