/- Dots, keys, wraps, rows of wraps, bytes: two of them compared. -/
import Derived.Test.YtdfjfafhpjoilaaDoorWr6
import Derived.Test.YtdfjfafhpjoilaaDoorEqd
import Derived.Test.YtdfjfafhpjoilaaDoorMGateGate2Gate5
import Derived.Laws.StructEq
namespace Go.Proofs.YtdfjfafhpjoilaaDoor
open Go.RowKit
set_option maxRecDepth 20000
set_option linter.unusedSimpArgs false
/-- Are rows of wraps the same? -/
noncomputable def wsB (a b : List Wp) : Bool := open Classical in decide (a = b)
theorem wsB_true {a b : List Wp} (h : a = b) : wsB a b = true := by unfold wsB; simp [h]
theorem wsB_false {a b : List Wp} (h : a ≠ b) : wsB a b = false := by unfold wsB; simp [h]
theorem take_differ {a b : List Wp} {j : Nat} (h1 : j < a.length) (h2 : j < b.length) (h : a[j] ≠ b[j]) : a ≠ b := fun e => by subst e; exact h rfl
theorem take_more {a b : List Wp} {j : Nat} (h1 : j < a.length) (h2 : j < b.length) (h : a[j] = b[j]) (h0 : a.take j = b.take j) : a.take (j + 1) = b.take (j + 1) := by
  rw [List.take_succ_eq_append_getElem h1, List.take_succ_eq_append_getElem h2, h0, h]
end Go.Proofs.YtdfjfafhpjoilaaDoor
