/- 'live' of the statements on sha: what must be whatever is asked: the digest of no bytes by the kernel's own reckoning. -/
import Derived.Test.YtknomnnbebhijabDoorSum
namespace Go.Proofs.YtknomnnbebhijabDoor.S
open Go.RowKit
set_option maxRecDepth 100000

theorem sum_nil : sumL [] = [227, 176, 196, 66, 152, 252, 28, 20, 154, 251, 244, 200, 153, 111, 185, 36, 39, 174, 65, 228, 100, 155, 147, 76, 164, 149, 153, 27, 120, 82, 184, 85] := by kernel_rfl



theorem padNil (w : World) :
    Calls Tryd.prog 40 #[.slice none 0 0] w fun e w' => ∃ g, e = .returned (.slice (some ⟨g, 0, none⟩) 64 64) ∧ Below w.heap.size w w' :=
  by
  have h := pad_any none 0 0 [] w (bytes_nil w) (by omega)
  have e : padSize ([] : List Int).length = 64 := by decide
  rw [e] at h
  exact h.mono fun _ _ ⟨g, h1, _, _, h2⟩ => ⟨g, h1, h2⟩

theorem index_start (wx : World) : (Instr.index 67 (.agg #[.int .u32 1779033703, .int .u32 3144134277, .int .u32 1013904242, .int .u32 2773480762, .int .u32 1359893119, .int .u32 2600822924, .int .u32 528734635, .int .u32 1541459225]) (.int .i64 0)).run Tryd.prog wx = .ok (.int .u32 1779033703) wx :=
  run_index_row wx 67 65 8 .u32 startL 0 Tryd.underlying67 Tryd.underlying65 size1u32 rfl (by omega)

end Go.Proofs.YtknomnnbebhijabDoor.S
