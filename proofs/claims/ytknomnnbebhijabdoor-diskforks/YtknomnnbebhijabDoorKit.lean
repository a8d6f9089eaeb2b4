/- Small laws on rows of numbers that lie in one block: a whole row read, stored, copied, handed back; what is kept below. -/
import Derived.Test.YtknomnnbebhijabDoorMPureLeaf
import Derived.Laws.Rows
import Derived.Laws.CopyRow
import Derived.Laws.CopyOwn
import Derived.Deep.WholeRow
namespace Go.Proofs.YtknomnnbebhijabDoor.S
open Go.RowKit

/-- Block g holds the row l, and may be written. -/
def Holds (w : World) (g : Nat) (k : IntKind) (t : TypeId) (l : List Int) : Prop := w.heap[g]? = some (.cells (row k l) t (0, 0))

theorem Holds.lt {w : World} {g : Nat} {k : IntKind} {t : TypeId} {l : List Int} (h : Holds w g k t l) : g < w.heap.size := by
  unfold Holds at h
  exact (Array.getElem?_eq_some_iff.1 h).1
theorem Holds.cell {w : World} {g : Nat} {k : IntKind} {t : TypeId} {l : List Int} (h : Holds w g k t l) (j : Nat) (hj : j < l.length) : w.cell? ⟨g, j, none⟩ = some (.int k (l[j]?.getD 0)) := by
  rw [cell_of_row w g j _ t _ h, row_get k l j hj]
theorem Holds.frozen {w : World} {g : Nat} {k : IntKind} {t : TypeId} {l : List Int} (h : Holds w g k t l) (j : Nat) : w.frozen? ⟨g, j, none⟩ = false := frozen_of_row w g j _ t h
theorem Holds.drewN {w : World} {g : Nat} {k : IntKind} {t : TypeId} {l : List Int} (h : Holds w g k t l) (n : Nat) : Holds (w.drewN n) g k t l := by
  unfold Holds at h ⊢; simpa using h
theorem Holds.drew {w : World} {g : Nat} {k : IntKind} {t : TypeId} {l : List Int} (h : Holds w g k t l) : Holds w.drew g k t l := by
  unfold Holds at h ⊢; rw [heap_drew]; exact h
theorem Holds.alloc {w : World} {g : Nat} {k : IntKind} {t : TypeId} {l : List Int} (h : Holds w g k t l) (o : Obj) : Holds (w.alloc o) g k t l := by
  have hl := h.lt
  unfold Holds at h ⊢; rw [Below.heap_alloc w o g hl]; exact h
theorem Holds.below {w w' : World} {B g : Nat} {k : IntKind} {t : TypeId} {l : List Int} (h : Holds w g k t l) (hb : Below B w w') (hg : g < B) : Holds w' g k t l := by
  unfold Holds at h ⊢; rw [hb.block g hg]; exact h
theorem Holds.set {w : World} {g : Nat} {k : IntKind} {t : TypeId} {l : List Int} (h : Holds w g k t l) (j : Nat) (v : Int) : Holds (w.setCell ⟨g, j, none⟩ (.int k v)) g k t (l.set j v) := by
  unfold Holds at h ⊢
  rw [heap_setCell_same w g j _ t _ h, row_set]
theorem Holds.setOther {w : World} {g : Nat} {k : IntKind} {t : TypeId} {l : List Int} (h : Holds w g k t l) (a : Addr) (v : Value) (hne : g ≠ a.block) : Holds (w.setCell a v) g k t l := by
  unfold Holds at h ⊢
  rw [heap_setCell_other w a g v hne]; exact h
theorem Holds.new (w : World) (k : IntKind) (t : TypeId) (l : List Int) : Holds (w.alloc (.cells (row k l) t)) w.heap.size k t l := heap_alloc_new w _
theorem Holds.setRow {w : World} {g : Nat} {k : IntKind} {t : TypeId} {l : List Int} (h : Holds w g k t l) (l' : List Int) : Holds (w.setRow g (row k l')) g k t l' := by
  unfold Holds at h ⊢; exact setRow_heap w g _ _ t _ h
theorem Holds.setRowOther {w : World} {g g' : Nat} {k : IntKind} {t : TypeId} {l : List Int} (h : Holds w g k t l) (cs : Array Value) (hne : g ≠ g') : Holds (w.setRow g' cs) g k t l := by
  unfold Holds at h ⊢; rw [setRow_other w g' g cs hne]; exact h

theorem drewN_size (w : World) (n : Nat) : (w.drewN n).heap.size = w.heap.size := by simp
theorem below_drewN {B : Nat} {a w : World} (h : Below B a w) (n : Nat) : Below B a (w.drewN n) := by
  induction n with
  | zero => exact h
  | succ n ih => exact ih.drew

section
variable {P : Program}
/-- A whole row of one type out of its block. -/
theorem wpList_ld {ops : Array Oper} {rest : List Oper} {o : Oper} {a : Act} {w : World} {Q : Exit → Act → World → Prop} (hgd : o.guard = none) (ty : TypeId) (x : Operand) (ho : o.op = .load ty x)
    (g : Nat) (hx : a.eval x = .pointer (some ⟨g, 0, none⟩)) {k : IntKind} {t : TypeId} {l : List Int} (hg : Holds w g k t l) {n : Nat} {e : TypeId}
    (hu : P.underlying ty = some (.array n e)) (hi : (P.info? ty).map (·.size) = some n) (hl : l.length = n)
    (h : wpList P ops Q rest (a.put o.dst (.agg (row k l))) w) : wpList P ops Q (o :: rest) a w :=
  wpList_load_row hgd ty x ho g hx t (row k l) (0, 0) _ hg hu rfl (by rw [hi, row_size, hl]) h

theorem run_storeVar_row (w : World) (g : Nat) (ty t : TypeId) (k : IntKind) (old l : List Int) (hg : Holds w g k t old) (hl : old.length = l.length) (hi : (P.info? ty).map (·.size) = some l.length) :
    (storeVar ty ⟨g, 0, none⟩ (.agg (row k l))).run P w = .ok () (w.setRow g (row k l)) := by
  have hst := run_storeCells_at P g 0 t (row k l).toList 0 (row k old) w hg (by simp [row, hl]) (fun v hv => by
    have := row_one k l
    exact (Array.all_eq_true_iff_forall_mem.1 this) v (by simpa using hv))
  cases hq : P.info? ty with
  | none => simp [hq] at hi
  | some i =>
    have hs : i.size = l.length := by simpa [hq] using hi
    have hsz : (row k l).size = i.size := by rw [row_size, hs]
    have he : (List.take (0 + 0) (row k old).toList ++ (row k l).toList ++ List.drop (0 + 0 + (row k l).toList.length) (row k old).toList).toArray = row k l := by
      simp [row, hl]
    rw [he] at hst
    simp [storeVar, sizeOf, typeInfo, hq, Value.cells, hsz, hst]

/-- A whole row of one type into its block. -/
theorem wpList_st {ops : Array Oper} {rest : List Oper} {o : Oper} {a : Act} {w : World} {Q : Exit → Act → World → Prop} (hgd : o.guard = none) (ty : TypeId) (x y : Operand) (ho : o.op = .store ty x y)
    (g : Nat) (hx : a.eval x = .pointer (some ⟨g, 0, none⟩)) {k : IntKind} {t : TypeId} {old l : List Int} (hy : a.eval y = .agg (row k l)) (hg : Holds w g k t old)
    (hi : (P.info? ty).map (·.size) = some l.length) (hl : old.length = l.length)
    (h : wpList P ops Q rest (a.put o.dst undef) (w.setRow g (row k l))) : wpList P ops Q (o :: rest) a w :=
  wpList_plain hgd fun _ hK => by
    unfold Oper.wp execOp
    simp only [ho, hx, hy, Instr.storeAt, Instr.sureAddr, Sem.run_bind, Sem.run_pure, Result.andThen_ok, run_storeVar_row w g ty t k old l hg hl hi]
    exact hK _ _ h

/-- A row handed back out of the result's own cell. -/
theorem results_holds {fn : Func} {p : Tmp} {ty : TypeId} (h : fn.results = #[.cell p ty]) (tmps : Array Value) {w : World} {g : Nat} {k : IntKind} {t : TypeId} {l : List Int}
    (hp : tmps.getD p undef = .pointer (some ⟨g, 0, none⟩)) (hg : Holds w g k t l) {n : Nat} {e : TypeId}
    (hu : P.underlying ty = some (.array n e)) (hi : (P.info? ty).map (·.size) = some n) (hl : l.length = n) :
    (results fn tmps).run P w = .ok (.agg (row k l)) w :=
  results_cell_row h tmps w g t (row k l) (0, 0) _ hp hg hu rfl (by rw [hi, row_size, hl])
end

theorem size8 : (Tryd.prog.info? 66).map (·.size) = some 8 := by kernel_rfl
theorem sizeSt : (Tryd.prog.info? 67).map (·.size) = some 8 := by kernel_rfl
theorem size16 : (Tryd.prog.info? 78).map (·.size) = some 16 := by kernel_rfl
theorem size64 : (Tryd.prog.info? 76).map (·.size) = some 64 := by kernel_rfl
theorem sizeKey : (Tryd.prog.info? 60).map (·.size) = some 32 := by kernel_rfl
end Go.Proofs.YtknomnnbebhijabDoor.S
