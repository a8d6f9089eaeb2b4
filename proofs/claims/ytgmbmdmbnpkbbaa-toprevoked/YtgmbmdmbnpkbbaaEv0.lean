/- Blocks of mixed cells; dots and events as cells. -/
import Derived.Test.YtgmbmdmbnpkbbaaGk
import Derived.Deep.MidRow
namespace Go.Proofs.Ytgmbmdmbnpkbbaa
open Go.RowKit
set_option maxRecDepth 20000
set_option linter.unusedSimpArgs false

/-- A part of a block, of whatever cells, as one value. -/
theorem wpList_ldv {P : Program} {ops : Array Oper} {rest : List Oper} {o : Oper} {a : Act} {w : World} {Q : Exit → Act → World → Prop} {d : TypeDesc} (hgd : o.guard = none) (ty : TypeId) (x : Operand) (ho : o.op = .load ty x)
    (g off : Nat) (hx : a.eval x = .pointer (some ⟨g, off, none⟩)) (cs : List Value) (hg : w.rangeAt g off cs)
    (hu : P.underlying ty = some d) (hd : d.isRow = true) (hi : (P.info? ty).map (·.size) = some cs.length)
    (h : wpList P ops Q rest (a.put o.dst (.agg cs.toArray)) w) : wpList P ops Q (o :: rest) a w :=
  wpList_plain hgd fun _ hK => wp_load_mid ty x ho g off hx cs _ hg hu hd hi (hK _ _ h)
/-- Block g holds the cells cs. -/
def CellsAt (w : World) (g : Nat) (t : TypeId) (cs : List Value) : Prop := w.heap[g]? = some (.cells cs.toArray t (0, 0))
theorem CellsAt.new (w : World) (t : TypeId) (cs : List Value) : CellsAt (w.alloc (.cells cs.toArray t)) w.heap.size t cs := heap_alloc_new w _
theorem CellsAt.lt {w : World} {g : Nat} {t : TypeId} {cs : List Value} (h : CellsAt w g t cs) : g < w.heap.size := (Array.getElem?_eq_some_iff.1 h).1
theorem CellsAt.cell {w : World} {g : Nat} {t : TypeId} {cs : List Value} (h : CellsAt w g t cs) (j : Nat) : w.cell? ⟨g, j, none⟩ = cs[j]? := by
  rw [cell_of_row w g j _ _ _ h]; simp
theorem CellsAt.alloc {w : World} {g : Nat} {t : TypeId} {cs : List Value} (h : CellsAt w g t cs) (o : Obj) : CellsAt (w.alloc o) g t cs := by
  have hl := h.lt
  unfold CellsAt at h ⊢; rw [Below.heap_alloc w o g hl]; exact h
theorem CellsAt.range {w : World} {g : Nat} {t : TypeId} {cs : List Value} (h : CellsAt w g t cs) (o n : Nat) : w.rangeAt g o ((cs.drop o).take n) := fun j v hv => by
  rw [h.cell]
  rw [List.getElem?_take] at hv
  split at hv
  · rw [List.getElem?_drop] at hv; exact hv
  · simp at hv

theorem CellsAt.frozen {w : World} {g : Nat} {t : TypeId} {cs : List Value} (h : CellsAt w g t cs) (j : Nat) : w.frozen? ⟨g, j, none⟩ = false := frozen_of_row w g j _ t h
theorem CellsAt.set {w : World} {g : Nat} {t : TypeId} {cs : List Value} (h : CellsAt w g t cs) (j : Nat) (v : Value) : CellsAt (w.setCell ⟨g, j, none⟩ v) g t (cs.set j v) := by
  unfold CellsAt at h ⊢
  simp only [World.setCell, Array.getElem?_modify, h]
  simp
theorem CellsAt.congr {w w' : World} {g : Nat} {t : TypeId} {cs : List Value} (h : CellsAt w g t cs) (he : w'.heap[g]? = w.heap[g]?) : CellsAt w' g t cs := he.trans h

def dotC (a s : Int) : List Value := [.int .u8 a, .int .u32 s]
/-- An event. -/
structure Ev where
  da : Int
  ds : Int
  past : List Int
  kind : Int
  pa : Int
  ps : Int
  right : Bool
  char : Int
  who : Int
  role : Int
def Ev.cells (e : Ev) : List Value := dotC e.da e.ds ++ e.past.map (Value.int .u32) ++ ([.int .u8 e.kind] ++ dotC e.pa e.ps ++ [.bool e.right, .int .u8 e.char, .int .u8 e.who, .int .u8 e.role])
theorem ev_parts (e : Ev) (hp : e.past.length = 8) : (e.cells.drop 0).take 2 = dotC e.da e.ds ∧ (e.cells.drop 2).take 8 = e.past.map (Value.int .u32) ∧ e.cells[10]? = some (.int .u8 e.kind) ∧ (e.cells.drop 11).take 2 = dotC e.pa e.ps ∧ e.cells[13]? = some (.bool e.right) ∧ e.cells[14]? = some (.int .u8 e.char) ∧ e.cells[15]? = some (.int .u8 e.who) ∧ e.cells[16]? = some (.int .u8 e.role) := by
  obtain ⟨da, ds, past, kind, pa, ps, right, char, who, role⟩ := e
  match past, hp with
  | [_, _, _, _, _, _, _, _], _ => exact ⟨rfl, rfl, rfl, rfl, rfl, rfl, rfl, rfl⟩
theorem sizeDot : (Try.prog.info? 26).map (·.size) = some 2 := by kernel_rfl
theorem sizeVec : (Try.prog.info? 28).map (·.size) = some 8 := by kernel_rfl
theorem sizeU32v : (Try.prog.info? 24).map (·.size) = some 1 := by kernel_rfl

theorem run_storeVar_cells {P : Program} (w : World) (g : Nat) (ty t : TypeId) (old cs : List Value) (hg : CellsAt w g t old) (hl : old.length = cs.length) (hi : (P.info? ty).map (·.size) = some cs.length) (h1 : ∀ v ∈ cs, v.oneCell' = true) :
    (storeVar ty ⟨g, 0, none⟩ (.agg cs.toArray)).run P w = .ok () (w.setRow g cs.toArray) := by
  have hst := run_storeCells_at P g 0 t cs 0 old.toArray w hg (by simp [hl]) h1
  cases hq : P.info? ty with
  | none => simp [hq] at hi
  | some i =>
    have hs : i.size = cs.length := by simpa [hq] using hi
    have hsz : cs.toArray.size = i.size := by simp [hs]
    have he : (List.take (0 + 0) old.toArray.toList ++ cs ++ List.drop (0 + 0 + cs.length) old.toArray.toList).toArray = cs.toArray := by
      simp [← hl]
    rw [he] at hst
    simp [storeVar, sizeOf, typeInfo, hq, Value.cells, hs, hst]
theorem wpList_stv {P : Program} {ops : Array Oper} {rest : List Oper} {o : Oper} {a : Act} {w : World} {Q : Exit → Act → World → Prop} (hgd : o.guard = none) (ty : TypeId) (x y : Operand) (ho : o.op = .store ty x y)
    (g : Nat) (hx : a.eval x = .pointer (some ⟨g, 0, none⟩)) {t : TypeId} {old cs : List Value} (hy : a.eval y = .agg cs.toArray) (hg : CellsAt w g t old)
    (hi : (P.info? ty).map (·.size) = some cs.length) (hl : old.length = cs.length) (h1 : ∀ v ∈ cs, v.oneCell' = true)
    (h : wpList P ops Q rest (a.put o.dst undef) (w.setRow g cs.toArray)) : wpList P ops Q (o :: rest) a w :=
  wpList_plain hgd fun _ hK => by
    unfold Oper.wp execOp
    simp only [ho, hx, hy, Instr.storeAt, Instr.sureAddr, Sem.run_bind, Sem.run_pure, Result.andThen_ok, run_storeVar_cells w g ty t old cs hg hl hi h1]
    exact hK _ _ h
theorem CellsAt.setRow {w : World} {g : Nat} {t : TypeId} {cs : List Value} (h : CellsAt w g t cs) (cs' : List Value) : CellsAt (w.setRow g cs'.toArray) g t cs' := by
  unfold CellsAt at h ⊢; exact setRow_heap w g _ _ t _ h
/-- A wrap. -/
structure Wp where
  too : Int
  ea : Int
  es : Int
  data : List Int
def Wp.cells (e : Wp) : List Value := [.int .u8 e.too] ++ dotC e.ea e.es ++ e.data.map (Value.int .u8)
theorem wp_parts (e : Wp) (h : e.data.length = 48) : e.cells.length = 51 ∧ e.cells[0]? = some (.int .u8 e.too) ∧ (e.cells.drop 1).take 2 = dotC e.ea e.es ∧ (e.cells.drop 3).take 48 = e.data.map (Value.int .u8) ∧ ∀ v ∈ e.cells, v.oneCell' = true := by
  have hd : (e.data.map (Value.int .u8)).length = 48 := by rw [List.length_map, h]
  refine ⟨by unfold Wp.cells; simp [dotC, h], rfl, rfl, ?_, ?_⟩
  · show (e.data.map (Value.int .u8)).take 48 = _
    exact List.take_of_length_le (by omega)
  · intro v hv
    unfold Wp.cells dotC at hv
    simp only [List.mem_append, List.mem_cons, List.not_mem_nil, or_false, List.mem_map] at hv
    rcases hv with (rfl | rfl | rfl) | ⟨x, _, rfl⟩ <;> rfl

end Go.Proofs.Ytgmbmdmbnpkbbaa

