/- 'few' of the statements through the layers. -/
import Derived.Test.YtoebbfifebpnbadDoorOwn
namespace Go.Proofs.YtoebbfifebpnbadDoor
open Go.RowKit

theorem fewS_any (x : Option Addr) (len cap n : Nat) (z : List Int) (w : World) (h : Bytes w x len cap z) (hn : 0 < n) (hn2 : n ≤ 1000000) :
    Calls Tryd.prog 4 #[.slice x len cap, .int .i64 n] w fun e w' => e = .returned (.slice x (min len n) cap) ∧ w = w' := by
  have hle := h.le
  have htop := h.top
  by_cases hlt : n < len
  · obtain ⟨b, off, rfl⟩ : ∃ b off, x = some ⟨b, off, none⟩ := by
      rcases h.at_ with h0 | ⟨b, off, hx, _⟩
      · omega
      · exact ⟨b, off, hx⟩
    rw [Nat.min_eq_right (by omega)]
    go_enter Tryd.func4, Tryd.ntmps4
    go_wp2
    go_ret
    exact ⟨rfl, rfl⟩
  · rw [Nat.min_eq_left (by omega)]
    go_enter Tryd.func4, Tryd.ntmps4
    go_wp2
    go_ret
    exact ⟨rfl, rfl⟩
theorem Bytes.fewM {w : World} {x : Option Addr} {len cap : Nat} {z : List Int} (h : Bytes w x len cap z) (n : Nat) : Bytes w x (min len n) cap (z.take n) := by
  have hz := h.len_eq
  refine ⟨by rw [List.length_take]; omega, by have := h.le; omega, h.top, h.nil, ?_⟩
  rcases h.at_ with h0 | ⟨b, off, hx, hc⟩
  · exact .inl (by omega)
  · exact .inr ⟨b, off, hx, fun j hj => by rw [List.getElem?_take_of_lt (by omega)]; exact hc j (by omega)⟩
end Go.Proofs.YtoebbfifebpnbadDoor
