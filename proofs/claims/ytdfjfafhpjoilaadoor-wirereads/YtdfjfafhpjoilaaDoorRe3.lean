/- The readers of wire: an event. (Written by mkre3.py.) -/
import Derived.Test.YtdfjfafhpjoilaaDoorRe2
import Derived.Test.YtdfjfafhpjoilaaDoorWr3
namespace Go.Proofs.YtdfjfafhpjoilaaDoor
open Go.RowKit
set_option maxRecDepth 20000
set_option linter.unusedSimpArgs false

theorem run_storeVar_mid {P : Program} (w : World) (g o : Nat) (ty t : TypeId) (old cs : List Value) (hg : CellsAt w g t old) (hl : o + cs.length ≤ old.length) (hi : (P.info? ty).map (·.size) = some cs.length) (h1 : ∀ v ∈ cs, v.oneCell' = true) :
    (storeVar ty ⟨g, o, none⟩ (.agg cs.toArray)).run P w = .ok () (w.setRow g (old.take o ++ cs ++ old.drop (o + cs.length)).toArray) := by
  have hst := run_storeCells_at P g o t cs 0 old.toArray w hg (by simp; omega) h1
  cases hq : P.info? ty with
  | none => simp [hq] at hi
  | some i =>
    have hs : i.size = cs.length := by simpa [hq] using hi
    have hsz : cs.toArray.size = i.size := by simp [hs]
    simp only [Nat.add_zero] at hst
    simp [storeVar, sizeOf, typeInfo, hq, Value.cells, hs, hst]
theorem wpList_stm {P : Program} {ops : Array Oper} {rest : List Oper} {o : Oper} {a : Act} {w : World} {Q : Exit → Act → World → Prop} (hgd : o.guard = none) (ty : TypeId) (x y : Operand) (ho : o.op = .store ty x y)
    (g off : Nat) (hx : a.eval x = .pointer (some ⟨g, off, none⟩)) {t : TypeId} {old cs : List Value} (hy : a.eval y = .agg cs.toArray) (hg : CellsAt w g t old)
    (hi : (P.info? ty).map (·.size) = some cs.length) (hl : off + cs.length ≤ old.length) (h1 : ∀ v ∈ cs, v.oneCell' = true)
    (h : wpList P ops Q rest (a.put o.dst undef) (w.setRow g (old.take off ++ cs ++ old.drop (off + cs.length)).toArray)) : wpList P ops Q (o :: rest) a w :=
  wpList_plain hgd fun _ hK => by
    unfold Oper.wp execOp
    simp only [ho, hx, hy, Instr.storeAt, Instr.sureAddr, Sem.run_bind, Sem.run_pure, Result.andThen_ok, run_storeVar_mid w g off ty t old cs hg hl hi h1]
    exact hK _ _ h
/-- What bytes say as an event. -/
def pastZ (z : List Int) : List Int := (List.range 8).map fun j => at4 z (5 + 4 * j)
def evOf (z : List Int) : Ev := ⟨at1 z 0, at4 z 1, pastZ z, at1 z 37, at1 z 38, at4 z 39, at1 z 43 == 1, at1 z 44, at1 z 45, at1 z 46⟩
def evOk (z : List Int) : Prop := 58 ≤ z.length ∧ at1 z 43 ≤ 1 ∧ ∀ j, j < 11 → at1 z (47 + j) = 0
theorem pastZ_length (z : List Int) : (pastZ z).length = 8 := by simp [pastZ]
theorem pastZ_get (z : List Int) (j : Nat) (hj : j < 8) : (pastZ z)[j]?.getD 0 = at4 z (5 + 4 * j) := by
  unfold pastZ
  rw [List.getElem?_map, List.getElem?_range hj]; rfl
theorem past_set (P : List Int) (hP : P.length = 8) (j : Nat) (hj : j < 8) : (P.take j ++ List.replicate (8 - j) 0).set j (P[j]?.getD 0) = P.take (j + 1) ++ List.replicate (8 - (j + 1)) 0 := by
  have hl : (P.take j).length = j := by rw [List.length_take]; omega
  obtain ⟨m, hm⟩ : ∃ m, 8 - j = m + 1 := ⟨8 - j - 1, by omega⟩
  have hm2 : 8 - (j + 1) = m := by omega
  rw [hm, hm2]
  have := set_next (P.take j) m (P[j]?.getD 0)
  rw [hl] at this
  rw [this, take_next P j (by omega)]
def evZ : Ev := ⟨0, 0, List.replicate 8 0, 0, 0, 0, false, 0, 0, 0⟩
theorem ev_split (e : Ev) : e.cells = (dotC e.da e.ds ++ e.past.map (Value.int .u32)) ++ ([.int .u8 e.kind] ++ dotC e.pa e.ps ++ [.bool e.right, .int .u8 e.char, .int .u8 e.who, .int .u8 e.role]) := rfl
theorem ev_pre (e : Ev) (h : e.past.length = 8) : (dotC e.da e.ds ++ e.past.map (Value.int .u32)).length = 10 := by simp [dotC, h]
theorem ev_len (e : Ev) (h : e.past.length = 8) : e.cells.length = 17 := by rw [ev_split, List.length_append, ev_pre e h]; simp [dotC]
theorem ev_get (e : Ev) (h : e.past.length = 8) (j : Nat) (hj : 10 ≤ j) : e.cells[j]? = ([.int .u8 e.kind] ++ dotC e.pa e.ps ++ [.bool e.right, .int .u8 e.char, .int .u8 e.who, .int .u8 e.role] : List Value)[j - 10]? := by rw [ev_split, List.getElem?_append_right (by rw [ev_pre e h]; exact hj), ev_pre e h]
theorem ev_set (e : Ev) (h : e.past.length = 8) (j : Nat) (hj : 10 ≤ j) (v : Value) : e.cells.set j v = (dotC e.da e.ds ++ e.past.map (Value.int .u32)) ++ ([.int .u8 e.kind] ++ dotC e.pa e.ps ++ [.bool e.right, .int .u8 e.char, .int .u8 e.who, .int .u8 e.role] : List Value).set (j - 10) v := by rw [ev_split, List.set_append_right _ _ (by rw [ev_pre e h]; exact hj), ev_pre e h]
theorem ev_setPast (e : Ev) (h : e.past.length = 8) (j : Nat) (hj : j < 8) (v : Int) : e.cells.set (2 + j) (.int .u32 v) = ({ e with past := e.past.set j v } : Ev).cells := by
  rw [ev_split, ev_split, List.set_append_left _ _ (by rw [ev_pre e h]; omega), List.set_append_right _ _ (by simp [dotC])]
  congr 2
  rw [List.map_set]
  congr 1
  simp [dotC]
theorem ev_setDot (e : Ev) (a s : Int) : e.cells.take 0 ++ dotC a s ++ e.cells.drop (0 + (dotC a s).length) = ({ e with da := a, ds := s } : Ev).cells := rfl
theorem ev_setPar (e : Ev) (h : e.past.length = 8) (a s : Int) : e.cells.take 11 ++ dotC a s ++ e.cells.drop (11 + (dotC a s).length) = ({ e with pa := a, ps := s } : Ev).cells := by
  have hp := ev_pre e h
  have e1 : e.cells.take 11 = (dotC e.da e.ds ++ e.past.map (Value.int .u32)) ++ [.int .u8 e.kind] := by
    rw [ev_split, show 11 = 10 + 1 from rfl, List.take_add, List.take_left' hp, List.drop_left' hp]; rfl
  have e2 : e.cells.drop (11 + (dotC a s).length) = [.bool e.right, .int .u8 e.char, .int .u8 e.who, .int .u8 e.role] := by
    rw [show 11 + (dotC a s).length = 10 + 3 from rfl, ← List.drop_drop, ev_split, List.drop_left' hp]; rfl
  rw [e1, e2, ev_split]
  simp only [List.append_assoc]
theorem ev_cell2 (e : Ev) (h : e.past.length = 8) (j : Nat) (hj : j < 8) : e.cells[2 + j]? = some (.int .u32 (e.past[j]?.getD 0)) := by
  rw [ev_split, List.getElem?_append_left (by rw [ev_pre e h]; omega), List.getElem?_append_right (by simp [dotC])]
  have e1 : 2 + j - (dotC e.da e.ds).length = j := by simp [dotC]
  rw [e1, List.getElem?_map, List.getElem?_eq_getElem (by omega)]; rfl
theorem ev_one (e : Ev) : ∀ v ∈ e.cells, v.oneCell' = true := by
  intro v hv
  rw [ev_split] at hv
  simp only [dotC, List.mem_append, List.mem_cons, List.not_mem_nil, or_false, List.mem_map] at hv
  rcases hv with ((rfl | rfl) | ⟨_, _, rfl⟩) | ((rfl | (rfl | rfl)) | (rfl | rfl | rfl | rfl)) <;> rfl
theorem sizeEv17 : (Tryd.prog.info? 65).map (·.size) = some 17 := by kernel_rfl

end Go.Proofs.YtdfjfafhpjoilaaDoor
