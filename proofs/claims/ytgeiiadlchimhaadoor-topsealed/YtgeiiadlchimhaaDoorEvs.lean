/- Two events that are the same, compared. -/
import Derived.Test.YtgeiiadlchimhaaDoorRe6
import Derived.Laws.StructEq
namespace Go.Proofs.YtgeiiadlchimhaaDoor
open Go.RowKit
set_option maxRecDepth 20000
set_option linter.unusedSimpArgs false

/-- A guarded load of many cells, the guard on. -/
theorem wpList_ldgv {P : Program} {ops : Array Oper} {rest : List Oper} {o : Oper} {a : Act} {w : World} {Q : Exit → Act → World → Prop} {d : TypeDesc} (hw : Region.wanted o (yielded ops a.tmps) = true) (ty : TypeId) (x : Operand) (ho : o.op = .load ty x)
    (g off : Nat) (hx : a.eval x = .pointer (some ⟨g, off, none⟩)) (cs : List Value) (hg : w.rangeAt g off cs)
    (hu : P.underlying ty = some d) (hd : d.isRow = true) (hi : (P.info? ty).map (·.size) = some cs.length)
    (h : wpList P ops Q rest (a.put o.dst (.agg cs.toArray)) w) : wpList P ops Q (o :: rest) a w :=
  wpList_step fun K hK => by
    rw [if_pos hw]
    exact wp_load_mid ty x ho g off hx cs _ hg hu hd hi (hK _ _ h)
theorem CellsAt.far5 {w w' : World} {g : Nat} {t : TypeId} {cs : List Value} (h : CellsAt w g t cs) (hb : Below w.heap.size w w') : CellsAt w' g t cs := by
  have hl := h.lt
  unfold CellsAt at h ⊢; rw [hb.block g hl]; exact h
theorem event_same5 (E : Ev) (h : E.past.length = 8) (wx : World) : (binOp BinOp.eql 34 (.agg E.cells.toArray) (.agg E.cells.toArray)).run Tryd.prog wx = .ok (.bool true) wx := by
  obtain ⟨da, ds, past, kind, pa, ps, right, char, who, role⟩ := E
  obtain ⟨p0, p1, p2, p3, p4, p5, p6, p7, rfl⟩ := list8 past h
  have hr : (Op.equalIn 9999 30 (.agg (row .u32 [p0, p1, p2, p3, p4, p5, p6, p7])) (.agg (row .u32 [p0, p1, p2, p3, p4, p5, p6, p7]))).run Tryd.prog wx = .ok true wx := by
    have := run_equalIn_rows (P := Tryd.prog) wx 9997 .u32 [p0, p1, p2, p3, p4, p5, p6, p7] [p0, p1, p2, p3, p4, p5, p6, p7] Tryd.underlying30 Tryd.underlying26 (by kernel_rfl) (by kernel_rfl) rfl rfl
    rw [this, beq_self_eq_true]
  simp only [row, List.map_cons, List.map_nil] at hr
  rw [run_eql_struct]
  simp [Ev.cells, dotC, go_sem, hr]
end Go.Proofs.YtgeiiadlchimhaaDoor
