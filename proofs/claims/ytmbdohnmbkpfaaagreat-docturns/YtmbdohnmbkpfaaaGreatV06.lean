/- Gate5 Gx Cv7 -/
import Derived.Test.YtmbdohnmbkpfaaaGreatV02
import Derived.Great.BuildSlice
import Derived.Test.YtmbdohnmbkpfaaaGreatV04
import Derived.Test.YtmbdohnmbkpfaaaGreatV05
namespace Go.Proofs.YtmbdohnmbkpfaaaGreat
open Go Go.RowKit
section
variable {P : Program} {ops : Array Oper} {Q : Exit → Act → World → Prop} {md : Region.Mode} {S : World → Prop} {D : Nat}
end
theorem meet {α : Prop} (R : Nat → Value → World → Prop) (C : Nat → Value → World → Prop) (use : Veil (∀ g v w, R g v w → C g v w) → α) (prove : ∀ g v w, R g v w → C g v w) : α := use ⟨prove⟩
open Go.RowKit
set_option linter.unusedSimpArgs false
section
variable {P : Program} {o : Oper} {a : Act} {w : World} {K : Act → World → Prop} {Q : Exit → Act → World → Prop}
theorem wpx_call (f : FuncId) (args : Array Value) (hrun : (execOp a.eval o).run P w = .ok (.enter f args) w)
    (hc : Calls P f args w fun e w' => ∃ v, e = .returned v ∧ K (a.put o.dst v) w') : o.wp P a w K Q := by
 unfold Oper.wp
 rw [hrun, Oper.upon_enter]
 refine hc.mono fun e w'' hh => ?_
 obtain ⟨v, rfl, hk⟩ := hh
 exact hk
theorem wpx_look (t : TypeId) (m x : Operand) (b : Bool) (ho : o.op = .lookup t m x b) (mv xv v : Value) (w' : World) (hm : a.eval m = mv) (hx : a.eval x = xv) (hrun : (Instr.lookup t mv xv b).run P w = .ok v w') (h : K (a.put o.dst v) w') : o.wp P a w K Q := by
 unfold Oper.wp execOp
 simp only [ho, hm, hx, Sem.run_bind, hrun, Result.andThen_ok, Sem.run_pure]
 exact h
theorem wpx_upd (t : TypeId) (m x y : Operand) (ho : o.op = .mapUpdate t m x y) (mv xv yv : Value) (w' : World) (hm : a.eval m = mv) (hx : a.eval x = xv) (hy : a.eval y = yv) (hrun : (Instr.mapUpdate t mv xv yv).run P w = .ok () w') (h : K (a.put o.dst undef) w') : o.wp P a w K Q := by
 unfold Oper.wp execOp
 simp only [ho, hm, hx, hy, Sem.run_bind, hrun, Result.andThen_ok, Sem.run_pure]
 exact h
theorem wpx_copy (d s : Operand) (dT sT : TypeId) (ho : o.op = .call { callee := .builtin .copy, args := #[d, s], argTypes := #[dT, sT] }) (dv sv v : Value) (w' : World) (hd : a.eval d = dv) (hs : a.eval s = sv) (hrun : (Builtin.copy_ #[dT, sT] o.type #[dv, sv]).run P w = .ok v w') (h : K (a.put o.dst v) w') : o.wp P a w K Q := by
 unfold Oper.wp execOp
 simp only [ho, resolve, invoke, builtin, Sem.run_bind, Sem.run_pure, Result.andThen_ok, List.map_toArray, List.map_cons, List.map_nil, hd, hs, hrun]
 exact h
theorem wpx_app (d s : Operand) (dT sT : TypeId) (ho : o.op = .call { callee := .builtin .append, args := #[d, s], argTypes := #[dT, sT] }) (dv sv v : Value) (w' : World) (hd : a.eval d = dv) (hs : a.eval s = sv) (hrun : (Builtin.append_ #[dT, sT] o.type #[dv, sv]).run P w = .ok v w') (h : K (a.put o.dst v) w') : o.wp P a w K Q := by
 unfold Oper.wp execOp
 simp only [ho, resolve, invoke, builtin, Sem.run_bind, Sem.run_pure, Result.andThen_ok, List.map_toArray, List.map_cons, List.map_nil, hd, hs, hrun]
 exact h
theorem wpx_bld (t : TypeId) (parts : Array (Nat × Operand)) (ho : o.op = .build t parts) (vals : Array (Nat × Value)) (hv : (parts.map fun (i, x) => (i, a.eval x)) = vals) (v : Value) (hrun : (Instr.build t vals).run P w = .ok v w) (h : K (a.put o.dst v) w) : o.wp P a w K Q := by
 unfold Oper.wp execOp
 simp only [ho, hv, Sem.run_bind, hrun, Result.andThen_ok, Sem.run_pure]
 exact h
end
set_option maxRecDepth 20000
def readyB (v : List Int) (e : Ev) : Bool := rightB e && ((v[e.da.toNat]?.getD 0 == e.ds - 1) && withinB e.past v)
set_option maxHeartbeats 8000000 in
theorem cready_any (v : List Int) (e : Ev) (w : World) (hvl : v.length = 8) (hv : ∀ x ∈ v, 0 ≤ x ∧ x < 4294967296) (hp : e.past.length = 8) (ha : 0 ≤ e.da) (hs : 0 ≤ e.ds) (hs2 : e.ds < 4294967296) (hpa : 0 ≤ e.pa) (hps : 0 ≤ e.ps) :
    Calls Tryz.prog 75 #[.agg (row .u32 v), .agg e.cells.toArray] w fun x w' => x = .returned (.bool (readyB v e)) ∧ Below w.heap.size w w' := by
 have h0 := (CellsAt.new w 37 (v.map (Value.int .u32))).alloc (.cells e.cells.toArray 44)
 have h1 := CellsAt.new (w.alloc (.cells (v.map (Value.int .u32)).toArray 37)) 44 e.cells
 rw [World.size_alloc] at h1
 have hB0 : Below w.heap.size w ((w.alloc (.cells (v.map (Value.int .u32)).toArray 37)).alloc (.cells e.cells.toArray 44)) := ((Below.refl _ _).alloc (Nat.le_refl _) _).alloc (by simp) _
 have HR : Veil (∀ W, Calls Tryz.prog 73 #[.agg e.cells.toArray] W fun x w' => x = .returned (.bool (rightB e)) ∧ Below W.heap.size W w') := ⟨fun W => cright_any e W hp ha hs hs2 hpa hps⟩
 have HW : Veil (∀ W, Calls Tryz.prog 95 #[.agg (e.past.map (Value.int .u32)).toArray, .agg (v.map (Value.int .u32)).toArray] W fun x w' => x = .returned (.bool (withinB e.past v)) ∧ Below W.heap.size W w') := ⟨fun W => cwithin_any e.past v W hp hvl⟩
 have HT : Veil (∀ W, CellsAt W (w.heap.size + 1) 44 e.cells → CellsAt W w.heap.size 37 (v.map (Value.int .u32)) → W.rangeAt (w.heap.size + 1) 0 e.cells ∧ W.cell? ⟨w.heap.size + 1, 0, none⟩ = some (.int .u8 e.da) ∧ W.cell? ⟨w.heap.size + 1, 1, none⟩ = some (.int .u32 e.ds) ∧ W.rangeAt (w.heap.size + 1) 2 (e.past.map (Value.int .u32)) ∧ W.rangeAt w.heap.size 0 (v.map (Value.int .u32))) := ⟨fun W h1 h0 => ⟨h1.wholeM, h1.cell 0, h1.cell 1, by have := h1.range 2 8; rw [(ev_parts e hp).2.1] at this; exact this, h0.wholeM⟩⟩
 have HRD : Veil (rightB e = true → e.da < 8 ∧ 1 ≤ e.ds ∧ e.ds ≤ 1048576) := ⟨fun h => by
  have h := (Bool.and_eq_true_iff.1 h).1
  unfold rightDotB at h
  simp only [Bool.and_eq_true, decide_eq_true_eq, Bool.not_eq_true', beq_eq_false_iff_ne] at h
  exact ⟨h.1, by have := h.2.1; omega, h.2.2.1⟩⟩
 have HVC : Veil (∀ W, CellsAt W w.heap.size 37 (v.map (Value.int .u32)) → ∀ j : Nat, j < 8 → W.cell? ⟨w.heap.size, j, none⟩ = some (.int .u32 (v[j]?.getD 0))) := ⟨fun W h j hj => by rw [h.cell j, List.getElem?_map, List.getElem?_eq_getElem (by omega)]; rfl⟩
 have HVI : Veil (∀ j : Nat, j < 8 → 0 ≤ v[j]?.getD 0 ∧ v[j]?.getD 0 < 4294967296) := ⟨fun j hj => by rw [List.getElem?_eq_getElem (by omega)]; exact hv _ (List.getElem_mem _)⟩
 have HH : Veil (readyB v e = (rightB e && ((v[e.da.toNat]?.getD 0 == e.ds - 1) && withinB e.past v))) := ⟨rfl⟩
 have iE : (Tryz.prog.info? 44).map (·.size) = some e.cells.length := by rw [(ev_cell15 e hp).2.2.2.2]; kernel_rfl
 have iP : (Tryz.prog.info? 37).map (·.size) = some (e.past.map (Value.int .u32)).length := by rw [List.length_map, hp]; exact sizeV8c
 have iV : (Tryz.prog.info? 37).map (·.size) = some (v.map (Value.int .u32)).length := by rw [List.length_map, hvl]; exact sizeV8c
 have uV := Tryz.underlying37
 have uE := Tryz.underlying44
 have hrow : (row .u32 v) = (v.map (Value.int .u32)).toArray := rfl
 rw [hrow]
 clear hrow hp hs hpa hps hv hvl
 obtain ⟨dn, hDA⟩ := Int.eq_ofNat_of_zero_le ha
 rw [hDA] at HT HRD HH
 clear hDA ha
 rw [Int.toNat_natCast] at HH
 generalize readyB v e = RY at HH ⊢
 generalize rightB e = RB at HR HRD HH
 generalize withinB e.past v = WI at HW HH
 generalize e.past.map (Value.int .u32) = PV at HW HT iP
 generalize v.map (Value.int .u32) = VV at h0 h1 hB0 HW HT HVC iV ⊢
 generalize e.ds = DS at hs2 HT HRD HH
 generalize e.cells = EC at h0 h1 hB0 HR HT iE ⊢
 cases RB
 · replace HH : Veil (RY = false) := ⟨by rw [HH.out]; rfl⟩
   go_enter Tryz.func75, Tryz.ntmps75
   go_upto_region 1 with fail
   refine forget (p := fun y => Code.wp _ _ _ _ y) (fun W => Below w.heap.size w W ∧ CellsAt W (w.heap.size + 1) 44 EC ∧ CellsAt W w.heap.size 37 VV) ⟨hB0, h1, h0⟩ ?_
   clear hB0 h0 h1
   rintro W ⟨hB, hE, hV⟩
   have hr := HR.out W.drew
   refine wp_region_gateT (fun w' => w'.rangeAt (w.heap.size + 1) 0 EC ∧ w'.cell? ⟨w.heap.size + 1, 0, none⟩ = some (.int .u8 (dn : Int)) ∧ w'.cell? ⟨w.heap.size + 1, 1, none⟩ = some (.int .u32 DS) ∧ w'.rangeAt (w.heap.size + 1) 2 PV ∧ w'.rangeAt w.heap.size 0 VV) (fun _ => True) 99 (by kernel_rfl) ?_
   have hT : (fun w' : World => w'.rangeAt (w.heap.size + 1) 0 EC ∧ w'.cell? ⟨w.heap.size + 1, 0, none⟩ = some (.int .u8 (dn : Int)) ∧ w'.cell? ⟨w.heap.size + 1, 1, none⟩ = some (.int .u32 DS) ∧ w'.rangeAt (w.heap.size + 1) 2 PV ∧ w'.rangeAt w.heap.size 0 VV) W.drew := HT.out W.drew hE hV
   have hS := trivial
   refine gl 0 5 44 3 (w.heap.size + 1) 0 EC (by kernel_rfl) (by kernel_rfl) (by kernel_rfl) (fun _ _ _ h => h) hT hS (by kernel_rfl) (fun _ h => h.1) uE rfl iE ?_
   simp only [Act.put, gA, gS, gZ, sI, sZ, sS]
   refine wpAnyT_one (i := 1) rfl (by kernel_rfl) (by kernel_rfl) (fun K hK => ?_)
   refine wpx_call _ _ (by kernel_rfl) (hr.mono ?_)
   rintro e w1 ⟨rfl, hb1⟩
   refine ⟨_, rfl, ?_⟩
   have hbW : Below W.heap.size W w1 := Below.trans (Below.refl _ W).drew hb1
   replace hT := HT.out w1 (hE.farM hbW) (hV.farM hbW)
   have hB1 := hB.trans (hbW.mono hB.size)
   refine hK.out _ _ hT (fun _ => hS) ?_
   clear hK K
   try simp only [Act.put, gA, gS, gZ, sI, sZ, sS]
   refine ghA 2 _ hT hS ?_
   simp only [Act.put, gA, gS, gZ, sI, sZ, sS]
   refine gs 3 hT hS ?_
   simp only [Act.put, gA, gS, gZ, sI, sZ, sS]
   refine gs 4 hT hS ?_
   simp only [Act.put, gA, gS, gZ, sI, sZ, sS]
   refine gs 5 hT hS ?_
   simp only [Act.put, gA, gS, gZ, sI, sZ, sS]
   refine gs 6 hT hS ?_
   simp only [Act.put, gA, gS, gZ, sI, sZ, sS]
   refine gs 7 hT hS ?_
   simp only [Act.put, gA, gS, gZ, sI, sZ, sS]
   refine gs 8 hT hS ?_
   simp only [Act.put, gA, gS, gZ, sI, sZ, sS]
   refine gs 9 hT hS ?_
   simp only [Act.put, gA, gS, gZ, sI, sZ, sS]
   refine gs 10 hT hS ?_
   simp only [Act.put, gA, gS, gZ, sI, sZ, sS]
   refine gs 11 hT hS ?_
   simp only [Act.put, gA, gS, gZ, sI, sZ, sS]
   refine gs 12 hT hS ?_
   simp only [Act.put, gA, gS, gZ, sI, sZ, sS]
   refine ghA 13 (.bool false) hT hS ?_
   simp only [Act.put, gA, gS, gZ, sI, sZ, sS]
   refine ghA 14 _ hT hS ?_
   simp only [Act.put, gA, gS, gZ, sI, sZ, sS]
   refine gs 15 hT hS ?_
   simp only [Act.put, gA, gS, gZ, sI, sZ, sS]
   refine gs 16 hT hS ?_
   simp only [Act.put, gA, gS, gZ, sI, sZ, sS]
   refine gs 17 hT hS ?_
   simp only [Act.put, gA, gS, gZ, sI, sZ, sS]
   refine gs 18 hT hS ?_
   simp only [Act.put, gA, gS, gZ, sI, sZ, sS]
   refine ghA 19 (.bool false) hT hS ?_
   simp only [Act.put, gA, gS, gZ, sI, sZ, sS]
   refine ghA 20 _ hT hS ?_
   simp only [Act.put, gA, gS, gZ, sI, sZ, sS]
   refine wpAnyT_done (by kernel_rfl) ?_ _
   go_wp2
   go_ret
   exact ⟨ret_bC HH.out.symm, hB1⟩
 obtain ⟨hd8, hs1, hsm⟩ := HRD.out rfl
 have hd8' : dn < 8 := by omega
 have hdi : (0 : Int) ≤ (dn : Int) := by omega
 obtain ⟨hq0, hq1⟩ := HVI.out dn hd8'
 have HTV : Veil (∀ W, CellsAt W (w.heap.size + 1) 44 EC → CellsAt W w.heap.size 37 VV → W.rangeAt (w.heap.size + 1) 0 EC ∧ W.cell? ⟨w.heap.size + 1, 0, none⟩ = some (.int .u8 (dn : Int)) ∧ W.cell? ⟨w.heap.size + 1, 1, none⟩ = some (.int .u32 DS) ∧ W.rangeAt (w.heap.size + 1) 2 PV ∧ W.rangeAt w.heap.size 0 VV ∧ W.cell? ⟨w.heap.size, dn, none⟩ = some (.int .u32 (v[dn]?.getD 0))) := ⟨fun W h1 h0 => by
  obtain ⟨a, b, c, d, f⟩ := HT.out W h1 h0
  exact ⟨a, b, c, d, f, HVC.out W h0 dn hd8'⟩⟩
 obtain ⟨VQ, hVQ⟩ : ∃ q, v[dn]?.getD 0 = q := ⟨_, rfl⟩
 rw [hVQ] at hq0 hq1 HH HTV
 clear hVQ HVI HVC HT HRD
 have wn : IntKind.u32.wrap (DS - 1) = DS - 1 := by rw [IntKind.wrap_u32]; omega
 by_cases hk : VQ = DS - 1
 rotate_left
 · have k3 : (DS - 1 == VQ) = false := by simpa using fun h : DS - 1 = VQ => hk h.symm
   replace HH : Veil (RY = false) := ⟨by rw [HH.out, show (VQ == DS - 1) = false by simpa using hk]; rfl⟩
   clear hk
   go_enter Tryz.func75, Tryz.ntmps75
   go_upto_region 1 with fail
   refine forget (p := fun y => Code.wp _ _ _ _ y) (fun W => Below w.heap.size w W ∧ CellsAt W (w.heap.size + 1) 44 EC ∧ CellsAt W w.heap.size 37 VV) ⟨hB0, h1, h0⟩ ?_
   clear hB0 h0 h1
   rintro W ⟨hB, hE, hV⟩
   have hr := HR.out W.drew
   refine wp_region_gateT (fun w' => w'.rangeAt (w.heap.size + 1) 0 EC ∧ w'.cell? ⟨w.heap.size + 1, 0, none⟩ = some (.int .u8 (dn : Int)) ∧ w'.cell? ⟨w.heap.size + 1, 1, none⟩ = some (.int .u32 DS) ∧ w'.rangeAt (w.heap.size + 1) 2 PV ∧ w'.rangeAt w.heap.size 0 VV ∧ w'.cell? ⟨w.heap.size, dn, none⟩ = some (.int .u32 VQ)) (fun _ => True) 99 (by kernel_rfl) ?_
   have hT : (fun w' : World => w'.rangeAt (w.heap.size + 1) 0 EC ∧ w'.cell? ⟨w.heap.size + 1, 0, none⟩ = some (.int .u8 (dn : Int)) ∧ w'.cell? ⟨w.heap.size + 1, 1, none⟩ = some (.int .u32 DS) ∧ w'.rangeAt (w.heap.size + 1) 2 PV ∧ w'.rangeAt w.heap.size 0 VV ∧ w'.cell? ⟨w.heap.size, dn, none⟩ = some (.int .u32 VQ)) W.drew := HTV.out W.drew hE hV
   have hS := trivial
   refine gl 0 5 44 3 (w.heap.size + 1) 0 EC (by kernel_rfl) (by kernel_rfl) (by kernel_rfl) (fun _ _ _ h => h) hT hS (by kernel_rfl) (fun _ h => h.1) uE rfl iE ?_
   simp only [Act.put, gA, gS, gZ, sI, sZ, sS]
   refine wpAnyT_one (i := 1) rfl (by kernel_rfl) (by kernel_rfl) (fun K hK => ?_)
   refine wpx_call _ _ (by kernel_rfl) (hr.mono ?_)
   rintro e w1 ⟨rfl, hb1⟩
   refine ⟨_, rfl, ?_⟩
   have hbW : Below W.heap.size W w1 := Below.trans (Below.refl _ W).drew hb1
   replace hT := HTV.out w1 (hE.farM hbW) (hV.farM hbW)
   have hB1 := hB.trans (hbW.mono hB.size)
   refine hK.out _ _ hT (fun _ => hS) ?_
   clear hK K
   try simp only [Act.put, gA, gS, gZ, sI, sZ, sS]
   refine ghA 2 _ hT hS ?_
   simp only [Act.put, gA, gS, gZ, sI, sZ, sS]
   refine ghA 3 _ hT hS ?_
   simp only [Act.put, gA, gS, gZ, sI, sZ, sS]
   refine ghA 4 _ hT hS ?_
   simp only [Act.put, gA, gS, gZ, sI, sZ, sS]
   refine ghA 5 _ hT hS ?_
   simp only [Act.put, gA, gS, gZ, sI, sZ, sS]
   refine ghA 6 _ hT hS ?_
   simp only [Act.put, gA, gS, gZ, sI, sZ, sS]
   refine ghA 7 _ hT hS ?_
   simp only [Act.put, gA, gS, gZ, sI, sZ, sS]
   refine ghA 8 _ hT hS ?_
   simp only [Act.put, gA, gS, gZ, sI, sZ, sS]
   refine ghA 9 _ hT hS ?_
   simp only [Act.put, gA, gS, gZ, sI, sZ, sS]
   refine ghA 10 _ hT hS ?_
   simp only [Act.put, gA, gS, gZ, sI, sZ, sS]
   refine ghA 11 _ hT hS ?_
   simp only [Act.put, gA, gS, gZ, sI, sZ, sS]
   refine ghA 12 (.bool false) hT hS ?_
   simp only [Act.put, gA, gS, gZ, sI, sZ, sS]
   refine ghA 13 (.bool false) hT hS ?_
   simp only [Act.put, gA, gS, gZ, sI, sZ, sS]
   refine ghA 14 _ hT hS ?_
   simp only [Act.put, gA, gS, gZ, sI, sZ, sS]
   refine gs 15 hT hS ?_
   simp only [Act.put, gA, gS, gZ, sI, sZ, sS]
   refine gs 16 hT hS ?_
   simp only [Act.put, gA, gS, gZ, sI, sZ, sS]
   refine gs 17 hT hS ?_
   simp only [Act.put, gA, gS, gZ, sI, sZ, sS]
   refine gs 18 hT hS ?_
   simp only [Act.put, gA, gS, gZ, sI, sZ, sS]
   refine ghA 19 (.bool false) hT hS ?_
   simp only [Act.put, gA, gS, gZ, sI, sZ, sS]
   refine ghA 20 _ hT hS ?_
   simp only [Act.put, gA, gS, gZ, sI, sZ, sS]
   refine wpAnyT_done (by kernel_rfl) ?_ _
   go_wp2
   go_ret
   exact ⟨ret_bC HH.out.symm, hB1⟩
 have k3 : (DS - 1 == VQ) = true := by simp [hk]
 replace HH : Veil (RY = WI) := ⟨by rw [HH.out, show (VQ == DS - 1) = true by simp [hk]]; rfl⟩
 clear hk
 go_enter Tryz.func75, Tryz.ntmps75
 go_upto_region 1 with fail
 refine forget (p := fun y => Code.wp _ _ _ _ y) (fun W => Below w.heap.size w W ∧ CellsAt W (w.heap.size + 1) 44 EC ∧ CellsAt W w.heap.size 37 VV) ⟨hB0, h1, h0⟩ ?_
 clear hB0 h0 h1
 rintro W ⟨hB, hE, hV⟩
 have hr := HR.out W.drew
 refine wp_region_gateT (fun w' => w'.rangeAt (w.heap.size + 1) 0 EC ∧ w'.cell? ⟨w.heap.size + 1, 0, none⟩ = some (.int .u8 (dn : Int)) ∧ w'.cell? ⟨w.heap.size + 1, 1, none⟩ = some (.int .u32 DS) ∧ w'.rangeAt (w.heap.size + 1) 2 PV ∧ w'.rangeAt w.heap.size 0 VV ∧ w'.cell? ⟨w.heap.size, dn, none⟩ = some (.int .u32 VQ)) (fun _ => True) 99 (by kernel_rfl) ?_
 have hT : (fun w' : World => w'.rangeAt (w.heap.size + 1) 0 EC ∧ w'.cell? ⟨w.heap.size + 1, 0, none⟩ = some (.int .u8 (dn : Int)) ∧ w'.cell? ⟨w.heap.size + 1, 1, none⟩ = some (.int .u32 DS) ∧ w'.rangeAt (w.heap.size + 1) 2 PV ∧ w'.rangeAt w.heap.size 0 VV ∧ w'.cell? ⟨w.heap.size, dn, none⟩ = some (.int .u32 VQ)) W.drew := HTV.out W.drew hE hV
 have hS := trivial
 refine gl 0 5 44 3 (w.heap.size + 1) 0 EC (by kernel_rfl) (by kernel_rfl) (by kernel_rfl) (fun _ _ _ h => h) hT hS (by kernel_rfl) (fun _ h => h.1) uE rfl iE ?_
 simp only [Act.put, gA, gS, gZ, sI, sZ, sS]
 refine wpAnyT_one (i := 1) rfl (by kernel_rfl) (by kernel_rfl) (fun K hK => ?_)
 refine wpx_call _ _ (by kernel_rfl) (hr.mono ?_)
 rintro e w1 ⟨rfl, hb1⟩
 refine ⟨_, rfl, ?_⟩
 have hbW : Below W.heap.size W w1 := Below.trans (Below.refl _ W).drew hb1
 replace hT := HTV.out w1 (hE.farM hbW) (hV.farM hbW)
 have hB1 := hB.trans (hbW.mono hB.size)
 refine hK.out _ _ hT (fun _ => hS) ?_
 clear hK K
 try simp only [Act.put, gA, gS, gZ, sI, sZ, sS]
 refine ghA 2 _ hT hS ?_
 simp only [Act.put, gA, gS, gZ, sI, sZ, sS]
 refine ghA 3 _ hT hS ?_
 simp only [Act.put, gA, gS, gZ, sI, sZ, sS]
 refine ghA 4 _ hT hS ?_
 simp only [Act.put, gA, gS, gZ, sI, sZ, sS]
 refine ghA 5 _ hT hS ?_
 simp only [Act.put, gA, gS, gZ, sI, sZ, sS]
 refine ghA 6 _ hT hS ?_
 simp only [Act.put, gA, gS, gZ, sI, sZ, sS]
 refine ghA 7 _ hT hS ?_
 simp only [Act.put, gA, gS, gZ, sI, sZ, sS]
 refine ghA 8 _ hT hS ?_
 simp only [Act.put, gA, gS, gZ, sI, sZ, sS]
 refine ghA 9 _ hT hS ?_
 simp only [Act.put, gA, gS, gZ, sI, sZ, sS]
 refine ghA 10 _ hT hS ?_
 simp only [Act.put, gA, gS, gZ, sI, sZ, sS]
 refine ghA 11 _ hT hS ?_
 simp only [Act.put, gA, gS, gZ, sI, sZ, sS]
 refine ghA 12 (.bool true) hT hS ?_
 simp only [Act.put, gA, gS, gZ, sI, sZ, sS]
 refine ghA 13 (.bool true) hT hS ?_
 simp only [Act.put, gA, gS, gZ, sI, sZ, sS]
 refine ghA 14 _ hT hS ?_
 simp only [Act.put, gA, gS, gZ, sI, sZ, sS]
 refine ghA 15 _ hT hS ?_
 simp only [Act.put, gA, gS, gZ, sI, sZ, sS]
 refine gl 16 21 37 20 (w.heap.size + 1) 2 PV (by kernel_rfl) (by kernel_rfl) (by kernel_rfl) (fun _ _ _ h => h) hT hS (by kernel_rfl) (fun _ h => h.2.2.2.1) uV rfl iP ?_
 simp only [Act.put, gA, gS, gZ, sI, sZ, sS]
 refine gl 17 22 37 2 w.heap.size 0 VV (by kernel_rfl) (by kernel_rfl) (by kernel_rfl) (fun _ _ _ h => h) hT hS (by kernel_rfl) (fun _ h => h.2.2.2.2.1) uV rfl iV ?_
 simp only [Act.put, gA, gS, gZ, sI, sZ, sS]
 refine wpAnyT_one (i := 18) rfl (by kernel_rfl) (by kernel_rfl) (fun K hK => ?_)
 refine wpx_call _ _ (by kernel_rfl) ((HW.out w1).mono ?_)
 rintro e w2 ⟨rfl, hb2⟩
 refine ⟨_, rfl, ?_⟩
 have hbW2 := hbW.trans (hb2.mono hbW.size)
 replace hT := HTV.out w2 (hE.farM hbW2) (hV.farM hbW2)
 have hB2 := hB.trans (hbW2.mono hB.size)
 refine hK.out _ _ hT (fun _ => hS) ?_
 clear hK K
 try simp only [Act.put, gA, gS, gZ, sI, sZ, sS]
 refine ghA 19 (.bool WI) hT hS ?_
 simp only [Act.put, gA, gS, gZ, sI, sZ, sS]
 refine ghA 20 _ hT hS ?_
 simp only [Act.put, gA, gS, gZ, sI, sZ, sS]
 refine wpAnyT_done (by kernel_rfl) ?_ _
 go_wp2
 go_ret
 exact ⟨ret_bC HH.out.symm, hB2⟩
set_option maxHeartbeats 8000000 in
theorem rready_any (v : List Int) (e : Ev) (w : World) (hvl : v.length = 8) (hv : ∀ x ∈ v, 0 ≤ x ∧ x < 4294967296) (hp : e.past.length = 8) (ha : 0 ≤ e.da) (hs : 0 ≤ e.ds) (hs2 : e.ds < 4294967296) (hpa : 0 ≤ e.pa) (hps : 0 ≤ e.ps) :
    Calls Tryz.prog 16 #[.agg (row .u32 v), .agg e.cells.toArray] w fun x w' => x = .returned (.bool (readyB v e)) ∧ Below w.heap.size w w' := by
 have h0 := (CellsAt.new w 37 (v.map (Value.int .u32))).alloc (.cells e.cells.toArray 44)
 have h1 := CellsAt.new (w.alloc (.cells (v.map (Value.int .u32)).toArray 37)) 44 e.cells
 rw [World.size_alloc] at h1
 have hB0 : Below w.heap.size w ((w.alloc (.cells (v.map (Value.int .u32)).toArray 37)).alloc (.cells e.cells.toArray 44)) := ((Below.refl _ _).alloc (Nat.le_refl _) _).alloc (by simp) _
 have HR : Veil (∀ W, Calls Tryz.prog 42 #[.agg e.cells.toArray] W fun x w' => x = .returned (.bool (rightB e)) ∧ Below W.heap.size W w') := ⟨fun W => rright_any e W hp ha hs hs2 hpa hps⟩
 have HW : Veil (∀ W, Calls Tryz.prog 43 #[.agg (e.past.map (Value.int .u32)).toArray, .agg (v.map (Value.int .u32)).toArray] W fun x w' => x = .returned (.bool (withinB e.past v)) ∧ Below W.heap.size W w') := ⟨fun W => rwithin_any e.past v W hp hvl⟩
 have HT : Veil (∀ W, CellsAt W (w.heap.size + 1) 44 e.cells → CellsAt W w.heap.size 37 (v.map (Value.int .u32)) → W.rangeAt (w.heap.size + 1) 0 e.cells ∧ W.cell? ⟨w.heap.size + 1, 0, none⟩ = some (.int .u8 e.da) ∧ W.cell? ⟨w.heap.size + 1, 1, none⟩ = some (.int .u32 e.ds) ∧ W.rangeAt (w.heap.size + 1) 2 (e.past.map (Value.int .u32)) ∧ W.rangeAt w.heap.size 0 (v.map (Value.int .u32))) := ⟨fun W h1 h0 => ⟨h1.wholeM, h1.cell 0, h1.cell 1, by have := h1.range 2 8; rw [(ev_parts e hp).2.1] at this; exact this, h0.wholeM⟩⟩
 have HRD : Veil (rightB e = true → e.da < 8 ∧ 1 ≤ e.ds ∧ e.ds ≤ 1048576) := ⟨fun h => by
  have h := (Bool.and_eq_true_iff.1 h).1
  unfold rightDotB at h
  simp only [Bool.and_eq_true, decide_eq_true_eq, Bool.not_eq_true', beq_eq_false_iff_ne] at h
  exact ⟨h.1, by have := h.2.1; omega, h.2.2.1⟩⟩
 have HVC : Veil (∀ W, CellsAt W w.heap.size 37 (v.map (Value.int .u32)) → ∀ j : Nat, j < 8 → W.cell? ⟨w.heap.size, j, none⟩ = some (.int .u32 (v[j]?.getD 0))) := ⟨fun W h j hj => by rw [h.cell j, List.getElem?_map, List.getElem?_eq_getElem (by omega)]; rfl⟩
 have HVI : Veil (∀ j : Nat, j < 8 → 0 ≤ v[j]?.getD 0 ∧ v[j]?.getD 0 < 4294967296) := ⟨fun j hj => by rw [List.getElem?_eq_getElem (by omega)]; exact hv _ (List.getElem_mem _)⟩
 have HH : Veil (readyB v e = (rightB e && ((v[e.da.toNat]?.getD 0 == e.ds - 1) && withinB e.past v))) := ⟨rfl⟩
 have iE : (Tryz.prog.info? 44).map (·.size) = some e.cells.length := by rw [(ev_cell15 e hp).2.2.2.2]; kernel_rfl
 have iP : (Tryz.prog.info? 37).map (·.size) = some (e.past.map (Value.int .u32)).length := by rw [List.length_map, hp]; exact sizeV8c
 have iV : (Tryz.prog.info? 37).map (·.size) = some (v.map (Value.int .u32)).length := by rw [List.length_map, hvl]; exact sizeV8c
 have uV := Tryz.underlying37
 have uE := Tryz.underlying44
 have hrow : (row .u32 v) = (v.map (Value.int .u32)).toArray := rfl
 rw [hrow]
 clear hrow hp hs hpa hps hv hvl
 obtain ⟨dn, hDA⟩ := Int.eq_ofNat_of_zero_le ha
 rw [hDA] at HT HRD HH
 clear hDA ha
 rw [Int.toNat_natCast] at HH
 generalize readyB v e = RY at HH ⊢
 generalize rightB e = RB at HR HRD HH
 generalize withinB e.past v = WI at HW HH
 generalize e.past.map (Value.int .u32) = PV at HW HT iP
 generalize v.map (Value.int .u32) = VV at h0 h1 hB0 HW HT HVC iV ⊢
 generalize e.ds = DS at hs2 HT HRD HH
 generalize e.cells = EC at h0 h1 hB0 HR HT iE ⊢
 cases RB
 · replace HH : Veil (RY = false) := ⟨by rw [HH.out]; rfl⟩
   go_enter Tryz.func16, Tryz.ntmps16
   go_upto_region 1 with fail
   refine forget (p := fun y => Code.wp _ _ _ _ y) (fun W => Below w.heap.size w W ∧ CellsAt W (w.heap.size + 1) 44 EC ∧ CellsAt W w.heap.size 37 VV) ⟨hB0, h1, h0⟩ ?_
   clear hB0 h0 h1
   rintro W ⟨hB, hE, hV⟩
   have hr := HR.out W.drew
   refine wp_region_gateT (fun w' => w'.rangeAt (w.heap.size + 1) 0 EC ∧ w'.cell? ⟨w.heap.size + 1, 0, none⟩ = some (.int .u8 (dn : Int)) ∧ w'.cell? ⟨w.heap.size + 1, 1, none⟩ = some (.int .u32 DS) ∧ w'.rangeAt (w.heap.size + 1) 2 PV ∧ w'.rangeAt w.heap.size 0 VV) (fun _ => True) 99 (by kernel_rfl) ?_
   have hT : (fun w' : World => w'.rangeAt (w.heap.size + 1) 0 EC ∧ w'.cell? ⟨w.heap.size + 1, 0, none⟩ = some (.int .u8 (dn : Int)) ∧ w'.cell? ⟨w.heap.size + 1, 1, none⟩ = some (.int .u32 DS) ∧ w'.rangeAt (w.heap.size + 1) 2 PV ∧ w'.rangeAt w.heap.size 0 VV) W.drew := HT.out W.drew hE hV
   have hS := trivial
   refine gl 0 5 44 3 (w.heap.size + 1) 0 EC (by kernel_rfl) (by kernel_rfl) (by kernel_rfl) (fun _ _ _ h => h) hT hS (by kernel_rfl) (fun _ h => h.1) uE rfl iE ?_
   simp only [Act.put, gA, gS, gZ, sI, sZ, sS]
   refine wpAnyT_one (i := 1) rfl (by kernel_rfl) (by kernel_rfl) (fun K hK => ?_)
   refine wpx_call _ _ (by kernel_rfl) (hr.mono ?_)
   rintro e w1 ⟨rfl, hb1⟩
   refine ⟨_, rfl, ?_⟩
   have hbW : Below W.heap.size W w1 := Below.trans (Below.refl _ W).drew hb1
   replace hT := HT.out w1 (hE.farM hbW) (hV.farM hbW)
   have hB1 := hB.trans (hbW.mono hB.size)
   refine hK.out _ _ hT (fun _ => hS) ?_
   clear hK K
   try simp only [Act.put, gA, gS, gZ, sI, sZ, sS]
   refine ghA 2 _ hT hS ?_
   simp only [Act.put, gA, gS, gZ, sI, sZ, sS]
   refine gs 3 hT hS ?_
   simp only [Act.put, gA, gS, gZ, sI, sZ, sS]
   refine gs 4 hT hS ?_
   simp only [Act.put, gA, gS, gZ, sI, sZ, sS]
   refine gs 5 hT hS ?_
   simp only [Act.put, gA, gS, gZ, sI, sZ, sS]
   refine gs 6 hT hS ?_
   simp only [Act.put, gA, gS, gZ, sI, sZ, sS]
   refine gs 7 hT hS ?_
   simp only [Act.put, gA, gS, gZ, sI, sZ, sS]
   refine gs 8 hT hS ?_
   simp only [Act.put, gA, gS, gZ, sI, sZ, sS]
   refine gs 9 hT hS ?_
   simp only [Act.put, gA, gS, gZ, sI, sZ, sS]
   refine gs 10 hT hS ?_
   simp only [Act.put, gA, gS, gZ, sI, sZ, sS]
   refine gs 11 hT hS ?_
   simp only [Act.put, gA, gS, gZ, sI, sZ, sS]
   refine gs 12 hT hS ?_
   simp only [Act.put, gA, gS, gZ, sI, sZ, sS]
   refine ghA 13 (.bool false) hT hS ?_
   simp only [Act.put, gA, gS, gZ, sI, sZ, sS]
   refine ghA 14 _ hT hS ?_
   simp only [Act.put, gA, gS, gZ, sI, sZ, sS]
   refine gs 15 hT hS ?_
   simp only [Act.put, gA, gS, gZ, sI, sZ, sS]
   refine gs 16 hT hS ?_
   simp only [Act.put, gA, gS, gZ, sI, sZ, sS]
   refine gs 17 hT hS ?_
   simp only [Act.put, gA, gS, gZ, sI, sZ, sS]
   refine gs 18 hT hS ?_
   simp only [Act.put, gA, gS, gZ, sI, sZ, sS]
   refine ghA 19 (.bool false) hT hS ?_
   simp only [Act.put, gA, gS, gZ, sI, sZ, sS]
   refine ghA 20 _ hT hS ?_
   simp only [Act.put, gA, gS, gZ, sI, sZ, sS]
   refine wpAnyT_done (by kernel_rfl) ?_ _
   go_wp2
   go_ret
   exact ⟨ret_bC HH.out.symm, hB1⟩
 obtain ⟨hd8, hs1, hsm⟩ := HRD.out rfl
 have hd8' : dn < 8 := by omega
 have hdi : (0 : Int) ≤ (dn : Int) := by omega
 obtain ⟨hq0, hq1⟩ := HVI.out dn hd8'
 have HTV : Veil (∀ W, CellsAt W (w.heap.size + 1) 44 EC → CellsAt W w.heap.size 37 VV → W.rangeAt (w.heap.size + 1) 0 EC ∧ W.cell? ⟨w.heap.size + 1, 0, none⟩ = some (.int .u8 (dn : Int)) ∧ W.cell? ⟨w.heap.size + 1, 1, none⟩ = some (.int .u32 DS) ∧ W.rangeAt (w.heap.size + 1) 2 PV ∧ W.rangeAt w.heap.size 0 VV ∧ W.cell? ⟨w.heap.size, dn, none⟩ = some (.int .u32 (v[dn]?.getD 0))) := ⟨fun W h1 h0 => by
  obtain ⟨a, b, c, d, f⟩ := HT.out W h1 h0
  exact ⟨a, b, c, d, f, HVC.out W h0 dn hd8'⟩⟩
 obtain ⟨VQ, hVQ⟩ : ∃ q, v[dn]?.getD 0 = q := ⟨_, rfl⟩
 rw [hVQ] at hq0 hq1 HH HTV
 clear hVQ HVI HVC HT HRD
 obtain ⟨VS, hVS⟩ : ∃ q, IntKind.u32.wrap (VQ + 1) = q := ⟨_, rfl⟩
 have wn : IntKind.u32.wrap (VQ + 1) = VS := hVS
 rw [IntKind.wrap_u32] at hVS
 by_cases hk : VQ = DS - 1
 rotate_left
 · have k3 : (DS == VS) = false := by simp; omega
   replace HH : Veil (RY = false) := ⟨by rw [HH.out, show (VQ == DS - 1) = false by simpa using hk]; rfl⟩
   clear hk hVS
   go_enter Tryz.func16, Tryz.ntmps16
   go_upto_region 1 with fail
   refine forget (p := fun y => Code.wp _ _ _ _ y) (fun W => Below w.heap.size w W ∧ CellsAt W (w.heap.size + 1) 44 EC ∧ CellsAt W w.heap.size 37 VV) ⟨hB0, h1, h0⟩ ?_
   clear hB0 h0 h1
   rintro W ⟨hB, hE, hV⟩
   have hr := HR.out W.drew
   refine wp_region_gateT (fun w' => w'.rangeAt (w.heap.size + 1) 0 EC ∧ w'.cell? ⟨w.heap.size + 1, 0, none⟩ = some (.int .u8 (dn : Int)) ∧ w'.cell? ⟨w.heap.size + 1, 1, none⟩ = some (.int .u32 DS) ∧ w'.rangeAt (w.heap.size + 1) 2 PV ∧ w'.rangeAt w.heap.size 0 VV ∧ w'.cell? ⟨w.heap.size, dn, none⟩ = some (.int .u32 VQ)) (fun _ => True) 99 (by kernel_rfl) ?_
   have hT : (fun w' : World => w'.rangeAt (w.heap.size + 1) 0 EC ∧ w'.cell? ⟨w.heap.size + 1, 0, none⟩ = some (.int .u8 (dn : Int)) ∧ w'.cell? ⟨w.heap.size + 1, 1, none⟩ = some (.int .u32 DS) ∧ w'.rangeAt (w.heap.size + 1) 2 PV ∧ w'.rangeAt w.heap.size 0 VV ∧ w'.cell? ⟨w.heap.size, dn, none⟩ = some (.int .u32 VQ)) W.drew := HTV.out W.drew hE hV
   have hS := trivial
   refine gl 0 5 44 3 (w.heap.size + 1) 0 EC (by kernel_rfl) (by kernel_rfl) (by kernel_rfl) (fun _ _ _ h => h) hT hS (by kernel_rfl) (fun _ h => h.1) uE rfl iE ?_
   simp only [Act.put, gA, gS, gZ, sI, sZ, sS]
   refine wpAnyT_one (i := 1) rfl (by kernel_rfl) (by kernel_rfl) (fun K hK => ?_)
   refine wpx_call _ _ (by kernel_rfl) (hr.mono ?_)
   rintro e w1 ⟨rfl, hb1⟩
   refine ⟨_, rfl, ?_⟩
   have hbW : Below W.heap.size W w1 := Below.trans (Below.refl _ W).drew hb1
   replace hT := HTV.out w1 (hE.farM hbW) (hV.farM hbW)
   have hB1 := hB.trans (hbW.mono hB.size)
   refine hK.out _ _ hT (fun _ => hS) ?_
   clear hK K
   try simp only [Act.put, gA, gS, gZ, sI, sZ, sS]
   refine ghA 2 _ hT hS ?_
   simp only [Act.put, gA, gS, gZ, sI, sZ, sS]
   refine ghA 3 _ hT hS ?_
   simp only [Act.put, gA, gS, gZ, sI, sZ, sS]
   refine ghA 4 _ hT hS ?_
   simp only [Act.put, gA, gS, gZ, sI, sZ, sS]
   refine ghA 5 _ hT hS ?_
   simp only [Act.put, gA, gS, gZ, sI, sZ, sS]
   refine ghA 6 _ hT hS ?_
   simp only [Act.put, gA, gS, gZ, sI, sZ, sS]
   refine ghA 7 _ hT hS ?_
   simp only [Act.put, gA, gS, gZ, sI, sZ, sS]
   refine ghA 8 _ hT hS ?_
   simp only [Act.put, gA, gS, gZ, sI, sZ, sS]
   refine ghA 9 _ hT hS ?_
   simp only [Act.put, gA, gS, gZ, sI, sZ, sS]
   refine ghA 10 _ hT hS ?_
   simp only [Act.put, gA, gS, gZ, sI, sZ, sS]
   refine ghA 11 _ hT hS ?_
   simp only [Act.put, gA, gS, gZ, sI, sZ, sS]
   refine ghA 12 (.bool false) hT hS ?_
   simp only [Act.put, gA, gS, gZ, sI, sZ, sS]
   refine ghA 13 (.bool false) hT hS ?_
   simp only [Act.put, gA, gS, gZ, sI, sZ, sS]
   refine ghA 14 _ hT hS ?_
   simp only [Act.put, gA, gS, gZ, sI, sZ, sS]
   refine gs 15 hT hS ?_
   simp only [Act.put, gA, gS, gZ, sI, sZ, sS]
   refine gs 16 hT hS ?_
   simp only [Act.put, gA, gS, gZ, sI, sZ, sS]
   refine gs 17 hT hS ?_
   simp only [Act.put, gA, gS, gZ, sI, sZ, sS]
   refine gs 18 hT hS ?_
   simp only [Act.put, gA, gS, gZ, sI, sZ, sS]
   refine ghA 19 (.bool false) hT hS ?_
   simp only [Act.put, gA, gS, gZ, sI, sZ, sS]
   refine ghA 20 _ hT hS ?_
   simp only [Act.put, gA, gS, gZ, sI, sZ, sS]
   refine wpAnyT_done (by kernel_rfl) ?_ _
   go_wp2
   go_ret
   exact ⟨ret_bC HH.out.symm, hB1⟩
 have k3 : (DS == VS) = true := by simp; omega
 replace HH : Veil (RY = WI) := ⟨by rw [HH.out, show (VQ == DS - 1) = true by simp [hk]]; rfl⟩
 clear hk hVS
 go_enter Tryz.func16, Tryz.ntmps16
 go_upto_region 1 with fail
 refine forget (p := fun y => Code.wp _ _ _ _ y) (fun W => Below w.heap.size w W ∧ CellsAt W (w.heap.size + 1) 44 EC ∧ CellsAt W w.heap.size 37 VV) ⟨hB0, h1, h0⟩ ?_
 clear hB0 h0 h1
 rintro W ⟨hB, hE, hV⟩
 have hr := HR.out W.drew
 refine wp_region_gateT (fun w' => w'.rangeAt (w.heap.size + 1) 0 EC ∧ w'.cell? ⟨w.heap.size + 1, 0, none⟩ = some (.int .u8 (dn : Int)) ∧ w'.cell? ⟨w.heap.size + 1, 1, none⟩ = some (.int .u32 DS) ∧ w'.rangeAt (w.heap.size + 1) 2 PV ∧ w'.rangeAt w.heap.size 0 VV ∧ w'.cell? ⟨w.heap.size, dn, none⟩ = some (.int .u32 VQ)) (fun _ => True) 99 (by kernel_rfl) ?_
 have hT : (fun w' : World => w'.rangeAt (w.heap.size + 1) 0 EC ∧ w'.cell? ⟨w.heap.size + 1, 0, none⟩ = some (.int .u8 (dn : Int)) ∧ w'.cell? ⟨w.heap.size + 1, 1, none⟩ = some (.int .u32 DS) ∧ w'.rangeAt (w.heap.size + 1) 2 PV ∧ w'.rangeAt w.heap.size 0 VV ∧ w'.cell? ⟨w.heap.size, dn, none⟩ = some (.int .u32 VQ)) W.drew := HTV.out W.drew hE hV
 have hS := trivial
 refine gl 0 5 44 3 (w.heap.size + 1) 0 EC (by kernel_rfl) (by kernel_rfl) (by kernel_rfl) (fun _ _ _ h => h) hT hS (by kernel_rfl) (fun _ h => h.1) uE rfl iE ?_
 simp only [Act.put, gA, gS, gZ, sI, sZ, sS]
 refine wpAnyT_one (i := 1) rfl (by kernel_rfl) (by kernel_rfl) (fun K hK => ?_)
 refine wpx_call _ _ (by kernel_rfl) (hr.mono ?_)
 rintro e w1 ⟨rfl, hb1⟩
 refine ⟨_, rfl, ?_⟩
 have hbW : Below W.heap.size W w1 := Below.trans (Below.refl _ W).drew hb1
 replace hT := HTV.out w1 (hE.farM hbW) (hV.farM hbW)
 have hB1 := hB.trans (hbW.mono hB.size)
 refine hK.out _ _ hT (fun _ => hS) ?_
 clear hK K
 try simp only [Act.put, gA, gS, gZ, sI, sZ, sS]
 refine ghA 2 _ hT hS ?_
 simp only [Act.put, gA, gS, gZ, sI, sZ, sS]
 refine ghA 3 _ hT hS ?_
 simp only [Act.put, gA, gS, gZ, sI, sZ, sS]
 refine ghA 4 _ hT hS ?_
 simp only [Act.put, gA, gS, gZ, sI, sZ, sS]
 refine ghA 5 _ hT hS ?_
 simp only [Act.put, gA, gS, gZ, sI, sZ, sS]
 refine ghA 6 _ hT hS ?_
 simp only [Act.put, gA, gS, gZ, sI, sZ, sS]
 refine ghA 7 _ hT hS ?_
 simp only [Act.put, gA, gS, gZ, sI, sZ, sS]
 refine ghA 8 _ hT hS ?_
 simp only [Act.put, gA, gS, gZ, sI, sZ, sS]
 refine ghA 9 _ hT hS ?_
 simp only [Act.put, gA, gS, gZ, sI, sZ, sS]
 refine ghA 10 _ hT hS ?_
 simp only [Act.put, gA, gS, gZ, sI, sZ, sS]
 refine ghA 11 _ hT hS ?_
 simp only [Act.put, gA, gS, gZ, sI, sZ, sS]
 refine ghA 12 (.bool true) hT hS ?_
 simp only [Act.put, gA, gS, gZ, sI, sZ, sS]
 refine ghA 13 (.bool true) hT hS ?_
 simp only [Act.put, gA, gS, gZ, sI, sZ, sS]
 refine ghA 14 _ hT hS ?_
 simp only [Act.put, gA, gS, gZ, sI, sZ, sS]
 refine ghA 15 _ hT hS ?_
 simp only [Act.put, gA, gS, gZ, sI, sZ, sS]
 refine gl 16 21 37 20 (w.heap.size + 1) 2 PV (by kernel_rfl) (by kernel_rfl) (by kernel_rfl) (fun _ _ _ h => h) hT hS (by kernel_rfl) (fun _ h => h.2.2.2.1) uV rfl iP ?_
 simp only [Act.put, gA, gS, gZ, sI, sZ, sS]
 refine gl 17 22 37 2 w.heap.size 0 VV (by kernel_rfl) (by kernel_rfl) (by kernel_rfl) (fun _ _ _ h => h) hT hS (by kernel_rfl) (fun _ h => h.2.2.2.2.1) uV rfl iV ?_
 simp only [Act.put, gA, gS, gZ, sI, sZ, sS]
 refine wpAnyT_one (i := 18) rfl (by kernel_rfl) (by kernel_rfl) (fun K hK => ?_)
 refine wpx_call _ _ (by kernel_rfl) ((HW.out w1).mono ?_)
 rintro e w2 ⟨rfl, hb2⟩
 refine ⟨_, rfl, ?_⟩
 have hbW2 := hbW.trans (hb2.mono hbW.size)
 replace hT := HTV.out w2 (hE.farM hbW2) (hV.farM hbW2)
 have hB2 := hB.trans (hbW2.mono hB.size)
 refine hK.out _ _ hT (fun _ => hS) ?_
 clear hK K
 try simp only [Act.put, gA, gS, gZ, sI, sZ, sS]
 refine ghA 19 (.bool WI) hT hS ?_
 simp only [Act.put, gA, gS, gZ, sI, sZ, sS]
 refine ghA 20 _ hT hS ?_
 simp only [Act.put, gA, gS, gZ, sI, sZ, sS]
 refine wpAnyT_done (by kernel_rfl) ?_ _
 go_wp2
 go_ret
 exact ⟨ret_bC HH.out.symm, hB2⟩
set_option maxHeartbeats 2000000 in
theorem rbefore_any (e x : Ev) (w : World) (hp : e.past.length = 8) (hp2 : x.past.length = 8) (ha : 0 ≤ e.da) (hs : 0 ≤ e.ds) :
    Calls Tryz.prog 49 #[.agg e.cells.toArray, .agg x.cells.toArray] w fun r w' => r = .returned (.bool (hasB x.past e.da e.ds)) ∧ Below w.heap.size w w' := by
 have h0 := (CellsAt.new w 44 e.cells).alloc (.cells x.cells.toArray 44)
 have h1 := CellsAt.new (w.alloc (.cells e.cells.toArray 44)) 44 x.cells
 rw [World.size_alloc] at h1
 have hB0 : Below w.heap.size w ((w.alloc (.cells e.cells.toArray 44)).alloc (.cells x.cells.toArray 44)) := ((Below.refl _ _).alloc (Nat.le_refl _) _).alloc (by simp) _
 have HC : Veil (∀ W, Calls Tryz.prog 48 #[.agg (x.past.map (Value.int .u32)).toArray, .agg (dotC e.da e.ds).toArray] W fun r w' => r = .returned (.bool (hasB x.past e.da e.ds)) ∧ Below W.heap.size W w') := ⟨fun W => rhas_any x.past e.da e.ds W hp2 ha hs⟩
 have rD := h0.range 0 2
 rw [ev_dot e hp] at rD
 have rP := h1.range 2 8
 rw [(ev_parts x hp2).2.1] at rP
 have iP : (Tryz.prog.info? 37).map (·.size) = some (x.past.map (Value.int .u32)).length := by rw [List.length_map, hp2]; exact sizeV8c
 have iD : (Tryz.prog.info? 40).map (·.size) = some (dotC e.da e.ds).length := sizeDot6
 have uV := Tryz.underlying37
 have uD := Tryz.underlying40
 clear hp hp2 ha hs h0 h1
 generalize hasB x.past e.da e.ds = HB at HC ⊢
 generalize dotC e.da e.ds = DC at HC rD iD
 generalize x.past.map (Value.int .u32) = PV at HC rP iP
 generalize e.cells = EC at hB0 rD rP ⊢
 generalize x.cells = XC at hB0 rD rP ⊢
 go_enter Tryz.func49, Tryz.ntmps49
 go_upto_region 1 with fail
 refine forget (p := fun y => Code.wp _ _ _ _ y) (fun W => Below w.heap.size w W ∧ W.rangeAt w.heap.size 0 DC ∧ W.rangeAt (w.heap.size + 1) 2 PV) ⟨hB0, rD, rP⟩ ?_
 clear hB0 rD rP
 rintro W ⟨hB, rD, rP⟩
 have hc := HC.out W
 go_wp2_with (first
  | (refine wpList_ldv rfl 37 _ rfl (w.heap.size + 1) 2 rfl PV rP uV rfl iP ?_)
  | (refine wpList_ldv rfl 40 _ rfl w.heap.size 0 rfl DC rD uD rfl iD ?_)
  | (go_at_call 48; refine hc.mono ?_; rintro e w1 ⟨rfl, hb1⟩; clear hc))
 go_ret
 exact ⟨rfl, hB.trans (hb1.mono hB.size)⟩
end Go.Proofs.YtmbdohnmbkpfaaaGreat
