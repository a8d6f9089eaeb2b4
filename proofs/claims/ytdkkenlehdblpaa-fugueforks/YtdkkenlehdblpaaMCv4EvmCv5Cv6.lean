/- Which events are right: 'rightDot', 'rightParent', 'Right' of causal. (Written by mkcv4.py.) A store of many cells within a region; ways that meet behind a region. Which events are right: 'Right' of causal. Which events are right: 'none', 'Right' of causal's reference. (Written by mkcv6.py.) -/
import Derived.Test.YtdkkenlehdblpaaMEqdCv3Evl
import Derived.Test.YtdkkenlehdblpaaMGate3Gate4
import Derived.Test.YtdkkenlehdblpaaEv0
import Derived.Test.YtdkkenlehdblpaaGate2
namespace Go.Proofs.Ytdkkenlehdblpaa
open Go.RowKit
set_option maxRecDepth 20000
set_option linter.unusedSimpArgs false

/-- Are the first n numbers none above MaxSeq? -/
def pastTo (l : List Int) : Nat → Bool
  | 0 => true
  | n + 1 => pastTo l n && decide (l[n]?.getD 0 ≤ 1048576)
theorem pastTo_false (l : List Int) (k : Nat) : ∀ {n : Nat}, k < n → ¬ l[k]?.getD 0 ≤ 1048576 → pastTo l n = false
  | 0, h, _ => absurd h (Nat.not_lt_zero _)
  | n + 1, h, hl => by
    unfold pastTo
    by_cases e : k = n
    · subst e; simp [hl]
    · rw [pastTo_false l k (n := n) (by omega) hl]; rfl
/-- Is an event's dot one, and does its past fit to it? -/
def rightDotB (e : Ev) : Bool := decide (e.da < 8) && (!(e.ds == 0) && (decide (e.ds ≤ 1048576) && ((e.past[e.da.toNat]?.getD 0 == e.ds - 1) && pastTo e.past 8)))
/-- Does it stand under the root, or under what its author had seen? -/
def rightParB (e : Ev) : Bool := (((e.pa == 0) && (e.ps == 0)) && e.right) || hasB e.past e.pa e.ps
/-- Which events are right. -/
def rightKB (e : Ev) : Bool :=
  if e.kind = 1 then ((decide (1 ≤ e.char) && decide (e.char ≤ 127)) && rightParB e) && noMemB e
  else if e.kind = 2 then ((hasB e.past e.pa e.ps && !e.right) && (e.char == 0)) && noMemB e
  else if e.kind = 3 then ((decide (e.who < 8) && decide (1 ≤ e.role)) && decide (e.role ≤ 3)) && noTextB e
  else if e.kind = 4 then (decide (e.who < 8) && (e.role == 0)) && noTextB e
  else false
def rightB (e : Ev) : Bool := rightDotB e && rightKB e
theorem CellsAt.setRowO7 {w : World} {g g' : Nat} {t : TypeId} {cs : List Value} (h : CellsAt w g t cs) (cs' : Array Value) (hne : g ≠ g') : CellsAt (w.setRow g' cs') g t cs := by
  unfold CellsAt at h ⊢
  simp only [World.setRow, Array.getElem?_modify]
  rw [if_neg (fun e => hne e.symm)]; exact h
theorem ev_dot (e : Ev) (hp : e.past.length = 8) : (e.cells.drop 0).take 2 = dotC e.da e.ds := (ev_parts e hp).1
theorem ev_pastAt (e : Ev) (hp : e.past.length = 8) (j : Nat) (hj : j < 8) : e.cells[2 + j]? = some (.int .u32 (e.past[j]?.getD 0)) := by
  have h := ev_past e hp
  have hj' : j < e.past.length := by omega
  have h2 : ((e.cells.drop 2).take 8)[j]? = (e.past.map (Value.int .u32))[j]? := by rw [h]
  rw [List.getElem?_take_of_lt hj, List.getElem?_drop, List.getElem?_map, List.getElem?_eq_getElem hj'] at h2
  rw [h2, List.getElem?_eq_getElem hj']; rfl
end Go.Proofs.Ytdkkenlehdblpaa

namespace Go.Proofs.Ytdkkenlehdblpaa
open Go.RowKit
set_option maxRecDepth 20000

theorem wp_stvE {P : Program} {o : Oper} {a : Act} {w : World} {K : Act → World → Prop} {Q : Exit → Act → World → Prop} (ty : TypeId) (x y : Operand) (ho : o.op = .store ty x y)
    (g : Nat) (hx : a.eval x = .pointer (some ⟨g, 0, none⟩)) {t : TypeId} {old cs : List Value} (hy : a.eval y = .agg cs.toArray) (hg : CellsAt w g t old)
    (hi : (P.info? ty).map (·.size) = some cs.length) (hl : old.length = cs.length) (h1 : ∀ v ∈ cs, v.oneCell' = true)
    (h : K (a.put o.dst undef) (w.setRow g cs.toArray)) : o.wp P a w K Q := by
  unfold Oper.wp execOp
  simp only [ho, hx, hy, Instr.storeAt, Instr.sureAddr, Sem.run_bind, Sem.run_pure, Result.andThen_ok, run_storeVar_cells w g ty t old cs hg hl hi h1]
  exact h
theorem wp_meetE {P : Program} {c : Code} {Q : Exit → Act → World → Prop} {a : Act} {w : World} (R : Act → World → Prop) (h1 : Code.wp P c (fun ex a w => match ex with | .normal => R a w | _ => False) a w) (h2 : ∀ a w, R a w → Q .normal a w) : Code.wp P c Q a w :=
  Code.wp_mono (fun e a w q => by cases e <;> first | exact h2 _ _ q | exact q.elim) h1
theorem run_storeVar_mid {P : Program} (w : World) (g o : Nat) (ty t : TypeId) (old cs : List Value) (hg : CellsAt w g t old) (hl : o + cs.length ≤ old.length) (hi : (P.info? ty).map (·.size) = some cs.length) (h1 : ∀ v ∈ cs, v.oneCell' = true) :
    (storeVar ty ⟨g, o, none⟩ (.agg cs.toArray)).run P w = .ok () (w.setRow g (old.take o ++ cs ++ old.drop (o + cs.length)).toArray) := by
  have hst := run_storeCells_at P g o t cs 0 old.toArray w hg (by simp; omega) h1
  cases hq : P.info? ty with
  | none => simp [hq] at hi
  | some i =>
    have hs : i.size = cs.length := by simpa [hq] using hi
    have hsz : cs.toArray.size = i.size := by simp [hs]
    simp only [Nat.add_zero] at hst
    simp [storeVar, sizeOf, typeInfo, hq, Value.cells, hs, hst]
theorem wpList_stm {P : Program} {ops : Array Oper} {rest : List Oper} {o : Oper} {a : Act} {w : World} {Q : Exit → Act → World → Prop} (hgd : o.guard = none) (ty : TypeId) (x y : Operand) (ho : o.op = .store ty x y)
    (g off : Nat) (hx : a.eval x = .pointer (some ⟨g, off, none⟩)) {t : TypeId} {old cs : List Value} (hy : a.eval y = .agg cs.toArray) (hg : CellsAt w g t old)
    (hi : (P.info? ty).map (·.size) = some cs.length) (hl : off + cs.length ≤ old.length) (h1 : ∀ v ∈ cs, v.oneCell' = true)
    (h : wpList P ops Q rest (a.put o.dst undef) (w.setRow g (old.take off ++ cs ++ old.drop (off + cs.length)).toArray)) : wpList P ops Q (o :: rest) a w :=
  wpList_plain hgd fun _ hK => by
    unfold Oper.wp execOp
    simp only [ho, hx, hy, Instr.storeAt, Instr.sureAddr, Sem.run_bind, Sem.run_pure, Result.andThen_ok, run_storeVar_mid w g off ty t old cs hg hl hi h1]
    exact hK _ _ h
theorem wp_stmE {P : Program} {o : Oper} {a : Act} {w : World} {K : Act → World → Prop} {Q : Exit → Act → World → Prop} (ty : TypeId) (x y : Operand) (ho : o.op = .store ty x y)
    (g off : Nat) (hx : a.eval x = .pointer (some ⟨g, off, none⟩)) {t : TypeId} {old cs : List Value} (hy : a.eval y = .agg cs.toArray) (hg : CellsAt w g t old)
    (hi : (P.info? ty).map (·.size) = some cs.length) (hl : off + cs.length ≤ old.length) (h1 : ∀ v ∈ cs, v.oneCell' = true)
    (h : K (a.put o.dst undef) (w.setRow g (old.take off ++ cs ++ old.drop (off + cs.length)).toArray)) : o.wp P a w K Q := by
  unfold Oper.wp execOp
  simp only [ho, hx, hy, Instr.storeAt, Instr.sureAddr, Sem.run_bind, Sem.run_pure, Result.andThen_ok, run_storeVar_mid w g off ty t old cs hg hl hi h1]
  exact h
theorem results_cells {P : Program} {fn : Func} {p : Tmp} {ty t : TypeId} {d : TypeDesc} (h : fn.results = #[.cell p ty]) (tmps : Array Value) {w : World} {g : Nat} {cs : List Value} (hp : tmps.getD p undef = .pointer (some ⟨g, 0, none⟩)) (hg : CellsAt w g t cs)
    (hu : P.underlying ty = some d) (hd : d.isRow = true) (hi : (P.info? ty).map (·.size) = some cs.length) : (results fn tmps).run P w = .ok (.agg cs.toArray) w :=
  results_cell_row h tmps w g t cs.toArray (0, 0) d hp hg hu (by cases d <;> first | rfl | (cases hd)) (by rw [hi]; simp)
theorem CellsAt.farM {w w' : World} {g : Nat} {t : TypeId} {cs : List Value} (h : CellsAt w g t cs) (hb : Below w.heap.size w w') : CellsAt w' g t cs := h.congr (hb.block _ h.lt)
theorem CellsAt.wholeM {w : World} {g : Nat} {t : TypeId} {cs : List Value} (h : CellsAt w g t cs) : w.rangeAt g 0 cs := fun j v hv => by rw [Nat.zero_add, h.cell]; exact hv
theorem CellsAt.setRowM {w : World} {g g' : Nat} {t : TypeId} {cs : List Value} (h : CellsAt w g t cs) (cs' : Array Value) (hne : g ≠ g') : CellsAt (w.setRow g' cs') g t cs := by
  unfold CellsAt at h ⊢; rw [setRow_other w g' g cs' hne]; exact h
end Go.Proofs.Ytdkkenlehdblpaa

namespace Go.Proofs.Ytdkkenlehdblpaa
open Go.RowKit
set_option maxRecDepth 20000
set_option linter.unusedSimpArgs false

end Go.Proofs.Ytdkkenlehdblpaa

namespace Go.Proofs.Ytdkkenlehdblpaa
open Go.RowKit
set_option maxRecDepth 20000
set_option linter.unusedSimpArgs false

theorem sizeDot6 : (Try.prog.info? 32).map (·.size) = some 2 := by kernel_rfl
theorem rb_of (e : Ev) : rightB e = (rightDotB e && rightKB e) := rfl
end Go.Proofs.Ytdkkenlehdblpaa
