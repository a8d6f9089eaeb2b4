/- 'few' of the statements through the layers. -/
import Derived.Test.YtoebbfifebpnbaaDoorOwn
namespace Go.Proofs.YtoebbfifebpnbaaDoor
open Go.RowKit

theorem Bytes.fewM {w : World} {x : Option Addr} {len cap : Nat} {z : List Int} (h : Bytes w x len cap z) (n : Nat) : Bytes w x (min len n) cap (z.take n) := by
  have hz := h.len_eq
  refine ⟨by rw [List.length_take]; omega, by have := h.le; omega, h.top, h.nil, ?_⟩
  rcases h.at_ with h0 | ⟨b, off, hx, hc⟩
  · exact .inl (by omega)
  · exact .inr ⟨b, off, hx, fun j hj => by rw [List.getElem?_take_of_lt (by omega)]; exact hc j (by omega)⟩
end Go.Proofs.YtoebbfifebpnbaaDoor
