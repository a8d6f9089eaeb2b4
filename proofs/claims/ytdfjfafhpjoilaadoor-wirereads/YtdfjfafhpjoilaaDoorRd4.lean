/- The readers of wire: what was filled up. -/
import Derived.Test.YtdfjfafhpjoilaaDoorRd3
import Derived.Test.YtdfjfafhpjoilaaDoorWpad
namespace Go.Proofs.YtdfjfafhpjoilaaDoor
open Go.RowKit
set_option maxRecDepth 20000
set_option linter.unusedSimpArgs false

/-- The length that bytes tell that were filled up. -/
def toldN (z : List Int) : Nat := (val2 (z[0]?.getD 0) (z[1]?.getD 0)).toNat
/-- Bytes that were filled up. -/
def unpadOk (z : List Int) : Prop := 2 ≤ z.length ∧ bucketN (toldN z) = (z.length : Int) ∧ ∀ j, j < z.length - (2 + toldN z) → (z.drop (2 + toldN z))[j]?.getD 0 = 0
def unpadL (z : List Int) : List Int := (z.drop 2).take (toldN z)
theorem told_val (z : List Int) (hz : ∀ v ∈ z, b8 v) : val2 (z[0]?.getD 0) (z[1]?.getD 0) = (toldN z : Int) ∧ toldN z ≤ 65535 := by
  have h0 := b8_get hz 0
  have h1 := b8_get hz 1
  unfold toldN val2
  omega
end Go.Proofs.YtdfjfafhpjoilaaDoor
