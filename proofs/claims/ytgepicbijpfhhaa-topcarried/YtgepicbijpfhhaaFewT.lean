/- 'few' of the statements through the layers. -/
import Derived.Test.YtgepicbijpfhhaaGb
namespace Go.Proofs.Ytgepicbijpfhhaa
open Go.RowKit

theorem fewT_any (x : Option Addr) (len cap n : Nat) (z : List Int) (w : World) (h : Bytes w x len cap z) (hn : 0 < n) (hn2 : n ≤ 1000000) :
    Calls Try.prog 4 #[.slice x len cap, .int .i64 n] w fun e w' => e = .returned (.slice x (min len n) cap) ∧ w = w' := by
  have hle := h.le
  have htop := h.top
  by_cases hlt : n < len
  · obtain ⟨b, off, rfl⟩ : ∃ b off, x = some ⟨b, off, none⟩ := by
      rcases h.at_ with h0 | ⟨b, off, hx, _⟩
      · omega
      · exact ⟨b, off, hx⟩
    rw [Nat.min_eq_right (by omega)]
    go_enter Try.func4, Try.ntmps4
    go_wp2
    go_ret
    exact ⟨rfl, rfl⟩
  · rw [Nat.min_eq_left (by omega)]
    go_enter Try.func4, Try.ntmps4
    go_wp2
    go_ret
    exact ⟨rfl, rfl⟩
end Go.Proofs.Ytgepicbijpfhhaa
