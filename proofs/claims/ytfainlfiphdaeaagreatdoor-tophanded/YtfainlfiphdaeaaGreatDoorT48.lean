/- Evs -/
import Derived.Test.YtfainlfiphdaeaaGreatDoorT09
import Derived.Test.YtfainlfiphdaeaaGreatDoorT34
import Derived.Laws.StructEq
namespace Go.Proofs.YtfainlfiphdaeaaGreatDoor
open Go.RowKit
set_option maxRecDepth 20000
set_option linter.unusedSimpArgs false
theorem event_same5 (E : Ev) (h : E.past.length = 8) (wx : World) : (binOp BinOp.eql 33 (.agg E.cells.toArray) (.agg E.cells.toArray)).run Tryz.prog wx = .ok (.bool true) wx := by
  obtain ⟨da, ds, past, kind, pa, ps, right, char, who, role⟩ := E
  obtain ⟨p0, p1, p2, p3, p4, p5, p6, p7, rfl⟩ := list8 past h
  have hr : (Op.equalIn 9999 29 (.agg (row .u32 [p0, p1, p2, p3, p4, p5, p6, p7])) (.agg (row .u32 [p0, p1, p2, p3, p4, p5, p6, p7]))).run Tryz.prog wx = .ok true wx := by
    have := run_equalIn_rows (P := Tryz.prog) wx 9997 .u32 [p0, p1, p2, p3, p4, p5, p6, p7] [p0, p1, p2, p3, p4, p5, p6, p7] Tryz.underlying29 Tryz.underlying24 (by kernel_rfl) (by kernel_rfl) rfl rfl
    rw [this, beq_self_eq_true]
  simp only [row, List.map_cons, List.map_nil] at hr
  rw [run_eql_struct]
  simp [Ev.cells, dotC, go_sem, hr]
end Go.Proofs.YtfainlfiphdaeaaGreatDoor
