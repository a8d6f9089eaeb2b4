/- The reference of wire: a number's bytes, a dot's bytes. -/
import Derived.Test.YtkgbcnfkakdncaaDoorGd
import Derived.Test.YtkgbcnfkakdncaaDoorWr6
namespace Go.Proofs.YtkgbcnfkakdncaaDoor
open Go.RowKit
set_option maxRecDepth 20000
set_option linter.unusedSimpArgs false

theorem OwnB.newW (w : World) (l : List Int) (hl : l.length ≤ 4000000) : OwnB (w.alloc (.cells (row .u8 l) 5)) w.heap.size (.slice (some ⟨w.heap.size, 0, none⟩) l.length l.length) l := OwnB.ofHolds (Holds.new w .u8 5 l) (Nat.le_refl _) hl
set_option maxHeartbeats 1000000 in
theorem refFour_any (n : Int) (w : World) :
    Calls Tryd.prog 15 #[.int .u32 n] w fun e w' => ∃ v, e = .returned v ∧ OwnB w' w.heap.size v (be4 n) ∧ Below w.heap.size w w' := by
  have e1 : IntKind.u8.wrap (n / 16777216) = n / 16777216 % 256 := by simp [IntKind.wrap, IntKind.bits, IntKind.signed]
  have e2 : IntKind.u8.wrap (n / 65536) = n / 65536 % 256 := by simp [IntKind.wrap, IntKind.bits, IntKind.signed]
  have e3 : IntKind.u8.wrap (n / 256) = n / 256 % 256 := by simp [IntKind.wrap, IntKind.bits, IntKind.signed]
  have e4 : IntKind.u8.wrap n = n % 256 := by simp [IntKind.wrap, IntKind.bits, IntKind.signed]
  have hO := OwnB.newW w (be4 n) (by simp [be4])
  have hB : Below w.heap.size w (w.alloc (.cells (row .u8 (be4 n)) 5)) := (Below.refl _ _).alloc (Nat.le_refl _) _
  go_enter Tryd.func15, Tryd.ntmps15
  go_wp2
  go_ret
  exact ⟨_, rfl, hO, hB⟩

end Go.Proofs.YtkgbcnfkakdncaaDoor
