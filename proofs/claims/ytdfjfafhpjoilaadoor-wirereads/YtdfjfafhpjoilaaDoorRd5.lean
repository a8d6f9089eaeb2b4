/- The readers of wire: bytes that were filled up, as a whole. -/
import Derived.Test.YtdfjfafhpjoilaaDoorRd4
namespace Go.Proofs.YtdfjfafhpjoilaaDoor
open Go.RowKit
set_option maxRecDepth 20000
set_option linter.unusedSimpArgs false

theorem Box.other {w : World} {H : Nat} {t : TypeId} {v : Value} (h : Box w H t v) (a : Addr) (u : Value) (hne : H ≠ a.block) : Box (w.setCell a u) H t v := by
  unfold Box at h ⊢
  rw [heap_setCell_other w a H u hne]; exact h
theorem wrong_asserted (wx : World) : (Instr.typeAssert (.iface 67 (.agg #[])) 20 67 true).run Tryd.prog wx = .ok (.tuple #[.agg #[], .bool true]) wx := by kernel_rfl
theorem wrong_stored (wx : World) (g : Nat) : (Instr.storeAt 67 (.pointer (some ⟨g, 0, none⟩)) (.agg #[])).run Tryd.prog wx = .ok () wx := by kernel_rfl
theorem nilIface_eq (wx : World) : (binOp BinOp.eql 20 .nilIface .nilIface).run Tryd.prog wx = .ok (.bool true) wx := by kernel_rfl
theorem make_func (fn : Fn) (first cap : Array Value) (w : World) : (Instr.makeFunc fn first cap).run Tryd.prog w = .ok (.func fn first cap) w := rfl

end Go.Proofs.YtdfjfafhpjoilaaDoor
