/- Open of Seal; 'few' and 'live' of the statements on aead. -/
import Derived.Test.YtgepicbijpfhhaaAn5
import Derived.Lib.SlBytesConst
namespace Go.Proofs.Ytgepicbijpfhhaa
open Go.RowKit
set_option maxRecDepth 20000
set_option linter.unusedSimpArgs false

theorem sealL_length (k n o b : List Int) : (sealL k n o b).length = b.length + 16 := by
  unfold sealL
  rw [List.length_append, xorL_length, show (tagL k n o (xorL k n 1 b)).length = 16 from polyL_length _ _]
theorem seal_take (k n o b : List Int) (m : Nat) (hm : m = b.length) : (sealL k n o b).take m = xorL k n 1 b := by
  unfold sealL
  rw [List.take_left' (by rw [xorL_length, hm])]
theorem seal_drop (k n o b : List Int) (m : Nat) (hm : m = b.length) : (sealL k n o b).drop m = tagL k n o (xorL k n 1 b) := by
  unfold sealL
  rw [List.drop_left' (by rw [xorL_length, hm])]
theorem sealL_in (k n o b : List Int) (ho : ∀ v ∈ o, isB v) (hb : ∀ v ∈ b, isB v) : ∀ v ∈ sealL k n o b, isB v := by
  intro v hv
  unfold sealL at hv
  rcases List.mem_append.1 hv with h | h
  · exact xorL_in k n 1 b hb v h
  · exact tagL_in k n o _ ho (xorL_in k n 1 b hb) v h
/-- What was sealed is opened. -/
theorem back_any (k n : List Int) (x : Option Addr) (len cap : Nat) (o : List Int) (y : Option Addr) (ly cy : Nat) (b : List Int) (w : World) (hk : k.length = 32) (hn : n.length = 12) (hx : Bytes w x len cap o) (hy : Bytes w y ly cy (sealL k n o b)) (hl1 : len ≤ 100000) (hl2 : b.length ≤ 99000) (huo : ∀ v ∈ o, isB v) (hub : ∀ v ∈ b, isB v) :
    Calls Try.prog 9 #[.agg (row .u8 k), .agg (row .u8 n), .slice x len cap, .slice y ly cy] w fun e w' => ∃ g, e = .returned (.tuple #[.slice (some ⟨g, 0, none⟩) b.length b.length, .int .i64 0]) ∧ w.heap.size ≤ g ∧ Holds w' g .u8 5 b ∧ Below w.heap.size w w' := by
  have hl : ly = b.length + 16 := by rw [hy.len_eq, sealL_length]
  have h := open_ok k n x len cap o y ly cy (sealL k n o b) w hk hn hx hy hl1 (by omega) (by omega) huo (sealL_in k n o b huo hub) (by rw [seal_take k n o b _ (by omega), seal_drop k n o b _ (by omega)])
  rw [seal_take k n o b _ (by omega), xor_twice k n 1 b hub, show ly - 16 = b.length by omega] at h
  exact h
end Go.Proofs.Ytgepicbijpfhhaa
