/- Bytes of a number, one by one. -/
import Derived.Test.YtnblcdpahpcglaaPz
namespace Go.Proofs.Ytnblcdpahpcglaa
open Go.RowKit
set_option maxRecDepth 20000

/-- So many bytes of a number, the lowest first. -/
def leB : Nat → Int → List Int
  | 0, _ => []
  | j + 1, n => n % 256 :: leB j (n / 256)
theorem le16_leB (n : Int) : le16 n = leB 16 n := by
  simp only [leB, le16]
  simp only [List.cons.injEq, and_true, true_and]
  refine ⟨by omega, by omega, by omega, by omega, by omega, by omega, by omega, by omega, by omega, by omega, by omega, by omega, by omega, by omega⟩
theorem le16_in (n : Int) : ∀ v ∈ le16 n, isB v := by
  intro v hv
  unfold le16 at hv
  simp only [List.mem_cons, List.not_mem_nil, or_false] at hv
  unfold isB
  omega
end Go.Proofs.Ytnblcdpahpcglaa
