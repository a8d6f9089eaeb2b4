/- A key, two bytes, that came in. -/
import Derived.Test.YtknomnnbebhijaaDoorBase
namespace Go.Proofs.YtknomnnbebhijaaDoor.S
set_option maxRecDepth 20000
open Go.ChangeShapes Go.WideShapes Go.ChangeAt Go.RowKit

theorem cellsKey : Tryd.prog.cellsOf 66 = 32 := by kernel_rfl
/-- A key that came in. -/
theorem open_key {H : Type} {enc : TypeId × Value → H} {W : World} {r : Reach} {base : Nat} {v : Value} {d : DataW H} {p : List MemPlace} (hv : Value.okWide Tryd.prog W r base 66 v) (h : DataW.Trod enc Tryd.prog W 0 (fun _ => true) true 66 v d p) :
    ∃ l : List Int, l.length = 32 ∧ v = .agg (row .u8 l) ∧ ∀ x ∈ l, 0 ≤ x ∧ x ≤ 255 := by
  obtain ⟨l, h1, h2, h3⟩ := open_row Tryd.underlying66 Tryd.underlying5 cellsU8 cellsKey hv h
  exact ⟨l, h1, h2, fun x hx => bounds_u8 (h3 x hx)⟩
end Go.Proofs.YtknomnnbebhijaaDoor.S
