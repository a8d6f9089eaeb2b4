/- 'live' of the statements on wire. -/
import Derived.Test.YtgepicbijpfhhaaWr6
import Derived.Test.YtgepicbijpfhhaaWb1
namespace Go.Proofs.Ytgepicbijpfhhaa
open Go.RowKit
set_option maxRecDepth 20000
set_option linter.unusedSimpArgs false

def fr0 : Fr := ⟨3, 0, 0, 0, List.replicate 32 0, .slice none 0 0, .slice none 0 0, List.replicate 32 0⟩
def ev0 : Ev := ⟨0, 0, List.replicate 8 0, 0, 0, 0, false, 0, 0, 0⟩
theorem wraps_nil (w : World) : WrapsAt w none 0 0 [] := ⟨rfl, by omega, by omega, fun _ => rfl, (fun e he => by cases he), .inl rfl⟩
theorem frame0_length : (frameL fr0 [] []).length = 79 := by decide
theorem frame0_third : (frameL fr0 [] [])[2]?.getD 0 = 3 := by decide

def fr00 : Fr := ⟨0, 0, 0, 0, List.replicate 32 0, .slice none 0 0, .slice none 0 0, List.replicate 32 0⟩
theorem zeroFrame_info : (Try.prog.info? 30).map (fun i => i.zero) = some (some (.agg fr00.cells.toArray)) := by kernel_rfl
theorem zeroFrame (wx : World) : (zeroValue 30).run Try.prog wx = .ok (.agg fr00.cells.toArray) wx := by
  have h := zeroFrame_info
  cases hq : Try.prog.info? 30 with
  | none => simp [hq] at h
  | some i =>
    have hz : i.zero = some (.agg fr00.cells.toArray) := by simpa [hq] using h
    simp [zeroValue, typeInfo, hq, hz]
theorem zeroFrame_has : ∃ Z : Array Value, (∀ wx, (zeroValue 30).run Try.prog wx = .ok (.agg Z) wx) ∧ ¬ Z = #[] ∧ Z.setIfInBounds 0 (.int .u8 3) = fr0.cells.toArray ∧ Z = fr00.cells.toArray :=
  ⟨_, zeroFrame, by intro h; have := congrArg Array.size h; revert this; decide, by rfl, rfl⟩

end Go.Proofs.Ytgepicbijpfhhaa
