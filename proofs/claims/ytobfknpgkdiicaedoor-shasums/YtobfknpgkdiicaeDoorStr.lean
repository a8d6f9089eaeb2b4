/- Bytes as a string; 'few'; what is known of bytes of the call's own. -/
import Derived.Test.YtobfknpgkdiicaeDoorRefPad
import Derived.Laws.BytesString
import Derived.Laws.BytesArg
namespace Go.Proofs.YtobfknpgkdiicaeDoor
open Go.RowKit

theorem conv_bytes {w : World} {x : Option Addr} {len cap : Nat} {z : List Int} (h : Bytes w x len cap z) : (convert 24 9 (.slice x len cap)).run Tryd.prog w = .ok (.string (strOfNums z)) w := by
  rw [run_convert_bytes_string w 24 9 5 x len cap Tryd.underlying24 Tryd.underlying5 Tryd.underlying9]
  have hz := h.len_eq
  have hcase : ∀ a : Addr, x = some a → (∀ j u, (z.map (Value.int .u8))[j]? = some u → w.cell? (a.add j) = some u) → (Conv.bytesToString (.slice x len cap)).run Tryd.prog w = .ok (.string (strOfNums z)) w := fun a hx hsrc => by
    subst hx
    have hl := run_loadCells_list (P := Tryd.prog) w a (z.map (Value.int .u8)) hsrc
    rw [List.length_map, ← hz] at hl
    rw [run_bytesToString w a len cap z hl, foldl_push_bytes]
    simp [strOfNums]
  rcases h.at_ with h0 | ⟨b, off, hx, hc⟩
  · have hz0 : z = [] := List.length_eq_zero_iff.1 (by omega)
    cases x with
    | none =>
      subst hz0 h0
      simp only [Conv.bytesToString, Sem.run_pure]; rfl
    | some a => exact hcase a rfl (fun j u hu => by subst hz0; simp at hu)
  · exact hcase _ hx (fun j u hu => by
      have hj : j < len := by have := (List.getElem?_eq_some_iff.1 hu).1; simpa [hz] using this
      rw [Addr.add_mid', hc j hj, ← hu, List.getElem?_map, List.getElem?_eq_getElem (by omega)]; rfl)

theorem few_any (x : Option Addr) (len cap n : Nat) (z : List Int) (w : World) (h : Bytes w x len cap z) (hn : 0 < n) (hn2 : n ≤ 1000000) :
    Calls Tryd.prog 8 #[.slice x len cap, .int .i64 n] w fun e w' => e = .returned (.slice x (min len n) cap) ∧ w = w' := by
  have hle := h.le
  have htop := h.top
  by_cases hlt : n < len
  · obtain ⟨b, off, rfl⟩ : ∃ b off, x = some ⟨b, off, none⟩ := by
      rcases h.at_ with h0 | ⟨b, off, hx, _⟩
      · omega
      · exact ⟨b, off, hx⟩
    rw [Nat.min_eq_right (by omega)]
    go_enter Tryd.func8, Tryd.ntmps8
    go_wp2
    go_ret
    exact ⟨rfl, rfl⟩
  · rw [Nat.min_eq_left (by omega)]
    go_enter Tryd.func8, Tryd.ntmps8
    go_wp2
    go_ret
    exact ⟨rfl, rfl⟩
theorem Bytes.few {w : World} {x : Option Addr} {len cap : Nat} {z : List Int} (h : Bytes w x len cap z) (n : Nat) : Bytes w x (min len n) cap (z.take n) := by
  have hz := h.len_eq
  refine ⟨by rw [List.length_take]; omega, by have := h.le; omega, h.top, h.nil, ?_⟩
  rcases h.at_ with h0 | ⟨b, off, hx, hc⟩
  · exact .inl (by omega)
  · exact .inr ⟨b, off, hx, fun j hj => by rw [List.getElem?_take_of_lt (by omega)]; exact hc j (by omega)⟩
end Go.Proofs.YtobfknpgkdiicaeDoor
