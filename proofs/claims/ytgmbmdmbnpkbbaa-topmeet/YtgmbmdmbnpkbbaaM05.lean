/- Evm Cv5 Cv6 Gate5 Gx -/
import Derived.Test.YtgmbmdmbnpkbbaaM01
import Derived.Test.YtgmbmdmbnpkbbaaM02
import Derived.Test.YtgmbmdmbnpkbbaaM04
import Derived.Great.BuildSlice
namespace Go.Proofs.Ytgmbmdmbnpkbbaa
open Go.RowKit
set_option maxRecDepth 20000
theorem wp_stvE {P : Program} {o : Oper} {a : Act} {w : World} {K : Act → World → Prop} {Q : Exit → Act → World → Prop} (ty : TypeId) (x y : Operand) (ho : o.op = .store ty x y)
    (g : Nat) (hx : a.eval x = .pointer (some ⟨g, 0, none⟩)) {t : TypeId} {old cs : List Value} (hy : a.eval y = .agg cs.toArray) (hg : CellsAt w g t old)
    (hi : (P.info? ty).map (·.size) = some cs.length) (hl : old.length = cs.length) (h1 : ∀ v ∈ cs, v.oneCell' = true)
    (h : K (a.put o.dst undef) (w.setRow g cs.toArray)) : o.wp P a w K Q := by
  unfold Oper.wp execOp
  simp only [ho, hx, hy, Instr.storeAt, Instr.sureAddr, Sem.run_bind, Sem.run_pure, Result.andThen_ok, run_storeVar_cells w g ty t old cs hg hl hi h1]
  exact h
theorem run_storeVar_mid {P : Program} (w : World) (g o : Nat) (ty t : TypeId) (old cs : List Value) (hg : CellsAt w g t old) (hl : o + cs.length ≤ old.length) (hi : (P.info? ty).map (·.size) = some cs.length) (h1 : ∀ v ∈ cs, v.oneCell' = true) :
    (storeVar ty ⟨g, o, none⟩ (.agg cs.toArray)).run P w = .ok () (w.setRow g (old.take o ++ cs ++ old.drop (o + cs.length)).toArray) := by
  have hst := run_storeCells_at P g o t cs 0 old.toArray w hg (by simp; omega) h1
  cases hq : P.info? ty with
  | none => simp [hq] at hi
  | some i =>
    have hs : i.size = cs.length := by simpa [hq] using hi
    have hsz : cs.toArray.size = i.size := by simp [hs]
    simp only [Nat.add_zero] at hst
    simp [storeVar, sizeOf, typeInfo, hq, Value.cells, hs, hst]
theorem wpList_stm {P : Program} {ops : Array Oper} {rest : List Oper} {o : Oper} {a : Act} {w : World} {Q : Exit → Act → World → Prop} (hgd : o.guard = none) (ty : TypeId) (x y : Operand) (ho : o.op = .store ty x y)
    (g off : Nat) (hx : a.eval x = .pointer (some ⟨g, off, none⟩)) {t : TypeId} {old cs : List Value} (hy : a.eval y = .agg cs.toArray) (hg : CellsAt w g t old)
    (hi : (P.info? ty).map (·.size) = some cs.length) (hl : off + cs.length ≤ old.length) (h1 : ∀ v ∈ cs, v.oneCell' = true)
    (h : wpList P ops Q rest (a.put o.dst undef) (w.setRow g (old.take off ++ cs ++ old.drop (off + cs.length)).toArray)) : wpList P ops Q (o :: rest) a w :=
  wpList_plain hgd fun _ hK => by
    unfold Oper.wp execOp
    simp only [ho, hx, hy, Instr.storeAt, Instr.sureAddr, Sem.run_bind, Sem.run_pure, Result.andThen_ok, run_storeVar_mid w g off ty t old cs hg hl hi h1]
    exact hK _ _ h
theorem results_cells {P : Program} {fn : Func} {p : Tmp} {ty t : TypeId} {d : TypeDesc} (h : fn.results = #[.cell p ty]) (tmps : Array Value) {w : World} {g : Nat} {cs : List Value} (hp : tmps.getD p undef = .pointer (some ⟨g, 0, none⟩)) (hg : CellsAt w g t cs)
    (hu : P.underlying ty = some d) (hd : d.isRow = true) (hi : (P.info? ty).map (·.size) = some cs.length) : (results fn tmps).run P w = .ok (.agg cs.toArray) w :=
  results_cell_row h tmps w g t cs.toArray (0, 0) d hp hg hu (by cases d <;> first | rfl | (cases hd)) (by rw [hi]; simp)
theorem CellsAt.farM {w w' : World} {g : Nat} {t : TypeId} {cs : List Value} (h : CellsAt w g t cs) (hb : Below w.heap.size w w') : CellsAt w' g t cs := h.congr (hb.block _ h.lt)
theorem CellsAt.wholeM {w : World} {g : Nat} {t : TypeId} {cs : List Value} (h : CellsAt w g t cs) : w.rangeAt g 0 cs := fun j v hv => by rw [Nat.zero_add, h.cell]; exact hv
theorem CellsAt.setRowM {w : World} {g g' : Nat} {t : TypeId} {cs : List Value} (h : CellsAt w g t cs) (cs' : Array Value) (hne : g ≠ g') : CellsAt (w.setRow g' cs') g t cs := by
  unfold CellsAt at h ⊢; rw [setRow_other w g' g cs' hne]; exact h
set_option linter.unusedSimpArgs false
set_option maxHeartbeats 16000000 in
theorem cright_any (e : Ev) (w : World) (hp : e.past.length = 8) (ha : 0 ≤ e.da) (hs : 0 ≤ e.ds) (hs2 : e.ds < 4294967296) (hpa : 0 ≤ e.pa) (hps : 0 ≤ e.ps) :
    Calls Try.prog 45 #[.agg e.cells.toArray] w fun x w' => x = .returned (.bool (rightB e)) ∧ Below w.heap.size w w' := by
  have h0 := CellsAt.new w 32 e.cells
  have hB0 : Below w.heap.size w (w.alloc (.cells e.cells.toArray 32)) := (Below.refl _ _).alloc (Nat.le_refl _) _
  have HRD : Veil (∀ W, Calls Try.prog 54 #[.agg e.cells.toArray] W fun x w' => x = .returned (.bool (rightDotB e)) ∧ Below W.heap.size W w') := ⟨fun W => crightDot_any e W hp ha hs hs2⟩
  have HRP : Veil (∀ W, Calls Try.prog 55 #[.agg e.cells.toArray] W fun x w' => x = .returned (.bool (rightParB e)) ∧ Below W.heap.size W w') := ⟨fun W => crightPar_any e W hp hpa hps⟩
  have HNM : Veil (∀ W, Calls Try.prog 56 #[.agg e.cells.toArray] W fun x w' => x = .returned (.bool (noMemB e)) ∧ Below W.heap.size W w') := ⟨fun W => cnoMem_any e W hp⟩
  have HNT : Veil (∀ W, Calls Try.prog 57 #[.agg e.cells.toArray] W fun x w' => x = .returned (.bool (noTextB e)) ∧ Below W.heap.size W w') := ⟨fun W => cnoText_any e W hp⟩
  have HCH : Veil (∀ W, Calls Try.prog 37 #[.agg (e.past.map (Value.int .u32)).toArray, .agg (dotC e.pa e.ps).toArray] W fun x w' => x = .returned (.bool (hasB e.past e.pa e.ps)) ∧ Below W.heap.size W w') := ⟨fun W => chas_any e.past e.pa e.ps W hp hpa hps⟩
  have HH : Veil (rightB e = (rightDotB e && (if e.kind = 1 then ((decide (1 ≤ e.char) && decide (e.char ≤ 127)) && rightParB e) && noMemB e else if e.kind = 2 then ((hasB e.past e.pa e.ps && !e.right) && (e.char == 0)) && noMemB e else if e.kind = 3 then ((decide (e.who < 8) && decide (1 ≤ e.role)) && decide (e.role ≤ 3)) && noTextB e else if e.kind = 4 then (decide (e.who < 8) && (e.role == 0)) && noTextB e else false))) := ⟨rfl⟩
  have HF : Veil (∀ W, CellsAt W w.heap.size 32 e.cells → W.cell? ⟨w.heap.size, 10, none⟩ = some (.int .u8 e.kind) ∧ W.cell? ⟨w.heap.size, 13, none⟩ = some (.bool e.right) ∧ W.cell? ⟨w.heap.size, 14, none⟩ = some (.int .u8 e.char) ∧ W.cell? ⟨w.heap.size, 15, none⟩ = some (.int .u8 e.who) ∧ W.cell? ⟨w.heap.size, 16, none⟩ = some (.int .u8 e.role) ∧ W.rangeAt w.heap.size 11 (dotC e.pa e.ps) ∧ W.rangeAt w.heap.size 2 (e.past.map (Value.int .u32)) ∧ W.rangeAt w.heap.size 0 e.cells) := ⟨fun W h => by
    obtain ⟨_, q2, q10, q11, q13, q14, q15, q16⟩ := ev_parts e hp
    refine ⟨(h.cell 10).trans q10, (h.cell 13).trans q13, (h.cell 14).trans q14, (h.cell 15).trans q15, (h.cell 16).trans q16, ?_, ?_, h.wholeM⟩
    · have := h.range 11 2; rw [q11] at this; exact this
    · have := h.range 2 8; rw [q2] at this; exact this⟩
  have iE : (Try.prog.info? 32).map (·.size) = some e.cells.length := by rw [(ev_cell15 e hp).2.2.2.2]; kernel_rfl
  have iV : (Try.prog.info? 28).map (·.size) = some (e.past.map (Value.int .u32)).length := by rw [List.length_map, hp]; exact sizeV8c
  have iD : (Try.prog.info? 26).map (·.size) = some (dotC e.pa e.ps).length := sizeDot
  have uD := Try.underlying26
  have uV := Try.underlying28
  have uE := Try.underlying32
  clear hp ha hs hs2 hpa hps
  generalize rightB e = RB at HH ⊢
  generalize rightDotB e = rd at HRD HH
  generalize rightParB e = rp at HRP HH
  generalize noMemB e = nm at HNM HH
  generalize noTextB e = nt at HNT HH
  generalize hasB e.past e.pa e.ps = hb at HCH HH
  generalize dotC e.pa e.ps = DP at HCH HF iD
  generalize e.past.map (Value.int .u32) = PV at HCH HF iV
  generalize e.cells = EC at h0 hB0 HRD HRP HNM HNT HF iE ⊢
  generalize e.kind = KD at HF HH
  generalize e.right = ri at HF HH
  generalize e.char = CH at HF HH
  generalize e.who = WO at HF HH
  generalize e.role = RO at HF HH
  have r0 := h0.wholeM
  have hrd := HRD.out (w.alloc (.cells EC.toArray 32))
  clear HRD
  have HB : Veil (∀ W w1, Below w.heap.size w W → Below W.heap.size W w1 → Below w.heap.size w w1) := ⟨fun W w1 h h2 => h.trans (h2.mono h.size)⟩
  have H1 : Veil (∀ w1, Below (w.alloc (.cells EC.toArray 32)).heap.size (w.alloc (.cells EC.toArray 32)) w1 → Below w.heap.size w w1 ∧ CellsAt w1 w.heap.size 32 EC) := ⟨fun w1 h => ⟨hB0.trans (h.mono hB0.size), h0.farM h⟩⟩
  clear h0 hB0
  cases rd
  · go_enter Try.func45, Try.ntmps45
    go_wp2_with (first
      | (refine wpList_ldv rfl 32 _ rfl w.heap.size 0 rfl EC r0 uE rfl iE ?_)
      | (go_at_call 54; refine hrd.mono ?_; rintro e w1 ⟨rfl, hb1⟩))
    go_ret
    exact ⟨by rw [HH.out]; rfl, (H1.out w1 hb1).1⟩
  go_enter Try.func45, Try.ntmps45
  go_upto_region 3 with (first
    | (refine wpList_ldv rfl 32 _ rfl w.heap.size 0 rfl EC r0 uE rfl iE ?_)
    | (go_at_call 54; refine hrd.mono ?_; rintro e w1 ⟨rfl, hb1⟩))
  refine forget (p := fun y => Code.wp _ _ _ _ y) (fun W => Below w.heap.size w W ∧ CellsAt W w.heap.size 32 EC) (H1.out w1 hb1) ?_
  clear hb1 hrd r0 H1
  clear w1
  rintro W ⟨hB, hE⟩
  obtain ⟨c10, c13, c14, c15, c16, rD, rV, rE⟩ := HF.out W hE
  have hh := HCH.out W
  by_cases k1 : KD = 1
  · subst k1
    by_cases k2 : CH ≥ 1
    rotate_left
    · clear hh
      have HR : Veil (RB = false) := ⟨by rw [HH.out]; have k2' : ¬ 1 ≤ CH := (by omega); simp [k2']⟩
      go_wp2
      go_ret
      exact ⟨ret_bC HR.out.symm, hB⟩
    by_cases k3 : CH ≤ 127
    rotate_left
    · clear hh
      have HR : Veil (RB = false) := ⟨by rw [HH.out]; simp [k3]⟩
      go_wp2
      go_ret
      exact ⟨ret_bC HR.out.symm, hB⟩
    have hrp := HRP.out W
    have HR : Veil (RB = (rp && nm)) := ⟨by rw [HH.out]; have k2' : 1 ≤ CH := (by omega); simp [k2', k3]⟩
    clear hh
    cases rp
    · go_wp2_with (first
        | (refine wpList_ldgv (by kernel_rfl) 32 _ rfl w.heap.size 0 rfl EC rE uE rfl iE ?_)
        | (go_at_call 55; refine hrp.mono ?_; rintro e w1 ⟨rfl, hb1⟩; replace hB := HB.out W w1 hB hb1; clear hrp rE))
      go_ret
      exact ⟨ret_bC HR.out.symm, hB⟩
    · go_wp2_with (first
        | (refine wpList_ldgv (by kernel_rfl) 32 _ rfl w.heap.size 0 rfl EC rE1 uE rfl iE ?_)
        | (refine wpList_ldgv (by kernel_rfl) 32 _ rfl w.heap.size 0 rfl EC rE uE rfl iE ?_)
        | (go_at_call 55; refine hrp.mono ?_; rintro e w1 ⟨rfl, hb1⟩; have rE1 := (hE.farM hb1).wholeM; have hn := HNM.out w1; replace hB := HB.out W w1 hB hb1; clear hrp)
        | (go_at_call 56; refine hn.mono ?_; rintro e w2 ⟨rfl, hb2⟩; replace hB := HB.out _ w2 hB hb2))
      go_ret
      exact ⟨ret_bC HR.out.symm, hB⟩
  have k1' : (KD == 1) = false := by simpa using k1
  by_cases k2 : KD = 2
  · subst k2
    cases hb
    · have HR : Veil (RB = false) := ⟨by rw [HH.out]; simp⟩
      go_wp2_with (first
        | (refine wpList_ldv rfl 28 _ rfl w.heap.size 2 rfl PV rV uV rfl iV ?_)
        | (refine wpList_ldv rfl 26 _ rfl w.heap.size 11 rfl DP rD uD rfl iD ?_)
        | (go_at_call 37; refine hh.mono ?_; rintro e w1 ⟨rfl, hb1⟩; obtain ⟨c10, c13, c14, c15, c16, rD1, rV1, rE1⟩ := HF.out w1 (hE.farM hb1); replace hB := HB.out W w1 hB hb1; clear hh))
      go_ret
      exact ⟨ret_bC HR.out.symm, hB⟩
    cases ri
    rotate_left
    · have HR : Veil (RB = false) := ⟨by rw [HH.out]; simp⟩
      go_wp2_with (first
        | (refine wpList_ldv rfl 28 _ rfl w.heap.size 2 rfl PV rV uV rfl iV ?_)
        | (refine wpList_ldv rfl 26 _ rfl w.heap.size 11 rfl DP rD uD rfl iD ?_)
        | (go_at_call 37; refine hh.mono ?_; rintro e w1 ⟨rfl, hb1⟩; obtain ⟨c10, c13, c14, c15, c16, rD1, rV1, rE1⟩ := HF.out w1 (hE.farM hb1); replace hB := HB.out W w1 hB hb1; clear hh))
      go_ret
      exact ⟨ret_bC HR.out.symm, hB⟩
    by_cases k3 : CH = 0
    · have k3' : (CH == 0) = true := by simp [k3]
      clear k3
      have HR : Veil (RB = nm) := ⟨by rw [HH.out, k3']; simp⟩
      go_wp2_with (first
        | (refine wpList_ldv rfl 28 _ rfl w.heap.size 2 rfl PV rV uV rfl iV ?_)
        | (refine wpList_ldv rfl 26 _ rfl w.heap.size 11 rfl DP rD uD rfl iD ?_)
        | (refine wpList_ldgv (by kernel_rfl) 32 _ rfl w.heap.size 0 rfl EC rE1 uE rfl iE ?_)
        | (go_at_call 37; refine hh.mono ?_; rintro e w1 ⟨rfl, hb1⟩; obtain ⟨c10, c13, c14, c15, c16, rD1, rV1, rE1⟩ := HF.out w1 (hE.farM hb1); have hn := HNM.out w1; replace hB := HB.out W w1 hB hb1; clear hh)
        | (go_at_call 56; refine hn.mono ?_; rintro e w2 ⟨rfl, hb2⟩; replace hB := HB.out _ w2 hB hb2))
      go_ret
      exact ⟨ret_bC HR.out.symm, hB⟩
    · have k3' : (CH == 0) = false := by simpa using k3
      clear k3
      have HR : Veil (RB = false) := ⟨by rw [HH.out, k3']; simp⟩
      go_wp2_with (first
        | (refine wpList_ldv rfl 28 _ rfl w.heap.size 2 rfl PV rV uV rfl iV ?_)
        | (refine wpList_ldv rfl 26 _ rfl w.heap.size 11 rfl DP rD uD rfl iD ?_)
        | (go_at_call 37; refine hh.mono ?_; rintro e w1 ⟨rfl, hb1⟩; obtain ⟨c10, c13, c14, c15, c16, rD1, rV1, rE1⟩ := HF.out w1 (hE.farM hb1); have hn := HNM.out w1; replace hB := HB.out W w1 hB hb1; clear hh))
      go_ret
      exact ⟨ret_bC HR.out.symm, hB⟩
  have k2' : (KD == 2) = false := by simpa using k2
  clear hh
  have hnt := HNT.out W
  by_cases k3 : KD = 3
  · subst k3
    by_cases k4 : WO < 8
    rotate_left
    · have HR : Veil (RB = false) := ⟨by rw [HH.out]; simp [k4]⟩
      go_wp2
      go_ret
      exact ⟨ret_bC HR.out.symm, hB⟩
    by_cases k5 : RO ≥ 1
    rotate_left
    · have HR : Veil (RB = false) := ⟨by rw [HH.out]; have k5' : ¬ 1 ≤ RO := (by omega); simp [k5']⟩
      go_wp2
      go_ret
      exact ⟨ret_bC HR.out.symm, hB⟩
    by_cases k6 : RO ≤ 3
    rotate_left
    · have HR : Veil (RB = false) := ⟨by rw [HH.out]; simp [k6]⟩
      go_wp2
      go_ret
      exact ⟨ret_bC HR.out.symm, hB⟩
    have HR : Veil (RB = nt) := ⟨by rw [HH.out]; have k5' : 1 ≤ RO := (by omega); simp [k4, k5', k6]⟩
    go_wp2_with (first
      | (refine wpList_ldgv (by kernel_rfl) 32 _ rfl w.heap.size 0 rfl EC rE uE rfl iE ?_)
      | (go_at_call 57; refine hnt.mono ?_; rintro e w1 ⟨rfl, hb1⟩; replace hB := HB.out W w1 hB hb1; clear hnt))
    go_ret
    exact ⟨ret_bC HR.out.symm, hB⟩
  have k3' : (KD == 3) = false := by simpa using k3
  by_cases k4 : KD = 4
  · subst k4
    by_cases k5 : WO < 8
    rotate_left
    · have HR : Veil (RB = false) := ⟨by rw [HH.out]; simp [k5]⟩
      go_wp2
      go_ret
      exact ⟨ret_bC HR.out.symm, hB⟩
    by_cases k6 : RO = 0
    rotate_left
    · have k6' : (RO == 0) = false := by simpa using k6
      clear k6
      have HR : Veil (RB = false) := ⟨by rw [HH.out, k6']; simp⟩
      go_wp2
      go_ret
      exact ⟨ret_bC HR.out.symm, hB⟩
    have k6' : (RO == 0) = true := by simp [k6]
    clear k6
    have HR : Veil (RB = nt) := ⟨by rw [HH.out, k6']; simp [k5]⟩
    go_wp2_with (first
      | (refine wpList_ldgv (by kernel_rfl) 32 _ rfl w.heap.size 0 rfl EC rE uE rfl iE ?_)
      | (go_at_call 57; refine hnt.mono ?_; rintro e w1 ⟨rfl, hb1⟩; replace hB := HB.out W w1 hB hb1; clear hnt))
    go_ret
    exact ⟨ret_bC HR.out.symm, hB⟩
  have k4' : (KD == 4) = false := by simpa using k4
  have HKF : Veil (RB = false) := ⟨by rw [HH.out, if_neg k1, if_neg k2, if_neg k3, if_neg k4]; rfl⟩
  clear k1 k2 k3 k4
  go_wp2
  go_ret
  exact ⟨ret_bC HKF.out.symm, hB⟩
open Go Go.RowKit
section
variable {P : Program} {ops : Array Oper} {Q : Exit → Act → World → Prop} {md : Region.Mode} {S : World → Prop} {D : Nat}
end
theorem meet {α : Prop} (R : Nat → Value → World → Prop) (C : Nat → Value → World → Prop) (use : Veil (∀ g v w, R g v w → C g v w) → α) (prove : ∀ g v w, R g v w → C g v w) : α := use ⟨prove⟩
section
variable {P : Program} {o : Oper} {a : Act} {w : World} {K : Act → World → Prop} {Q : Exit → Act → World → Prop}
theorem wpx_call (f : FuncId) (args : Array Value) (hrun : (execOp a.eval o).run P w = .ok (.enter f args) w)
    (hc : Calls P f args w fun e w' => ∃ v, e = .returned v ∧ K (a.put o.dst v) w') : o.wp P a w K Q := by
  unfold Oper.wp
  rw [hrun, Oper.upon_enter]
  refine hc.mono fun e w'' hh => ?_
  obtain ⟨v, rfl, hk⟩ := hh
  exact hk
theorem wpx_look (t : TypeId) (m x : Operand) (b : Bool) (ho : o.op = .lookup t m x b) (mv xv v : Value) (w' : World) (hm : a.eval m = mv) (hx : a.eval x = xv) (hrun : (Instr.lookup t mv xv b).run P w = .ok v w') (h : K (a.put o.dst v) w') : o.wp P a w K Q := by
  unfold Oper.wp execOp
  simp only [ho, hm, hx, Sem.run_bind, hrun, Result.andThen_ok, Sem.run_pure]
  exact h
theorem wpx_upd (t : TypeId) (m x y : Operand) (ho : o.op = .mapUpdate t m x y) (mv xv yv : Value) (w' : World) (hm : a.eval m = mv) (hx : a.eval x = xv) (hy : a.eval y = yv) (hrun : (Instr.mapUpdate t mv xv yv).run P w = .ok () w') (h : K (a.put o.dst undef) w') : o.wp P a w K Q := by
  unfold Oper.wp execOp
  simp only [ho, hm, hx, hy, Sem.run_bind, hrun, Result.andThen_ok, Sem.run_pure]
  exact h
theorem wpx_copy (d s : Operand) (dT sT : TypeId) (ho : o.op = .call { callee := .builtin .copy, args := #[d, s], argTypes := #[dT, sT] }) (dv sv v : Value) (w' : World) (hd : a.eval d = dv) (hs : a.eval s = sv) (hrun : (Builtin.copy_ #[dT, sT] o.type #[dv, sv]).run P w = .ok v w') (h : K (a.put o.dst v) w') : o.wp P a w K Q := by
  unfold Oper.wp execOp
  simp only [ho, resolve, invoke, builtin, Sem.run_bind, Sem.run_pure, Result.andThen_ok, List.map_toArray, List.map_cons, List.map_nil, hd, hs, hrun]
  exact h
theorem wpx_app (d s : Operand) (dT sT : TypeId) (ho : o.op = .call { callee := .builtin .append, args := #[d, s], argTypes := #[dT, sT] }) (dv sv v : Value) (w' : World) (hd : a.eval d = dv) (hs : a.eval s = sv) (hrun : (Builtin.append_ #[dT, sT] o.type #[dv, sv]).run P w = .ok v w') (h : K (a.put o.dst v) w') : o.wp P a w K Q := by
  unfold Oper.wp execOp
  simp only [ho, resolve, invoke, builtin, Sem.run_bind, Sem.run_pure, Result.andThen_ok, List.map_toArray, List.map_cons, List.map_nil, hd, hs, hrun]
  exact h
end
end Go.Proofs.Ytgmbmdmbnpkbbaa
