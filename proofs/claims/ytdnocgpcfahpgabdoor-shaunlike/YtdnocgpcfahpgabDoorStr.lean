/- Bytes as a string; 'few'; what is known of bytes of the call's own. -/
import Derived.Test.YtdnocgpcfahpgabDoorRefPad
import Derived.Laws.BytesString
import Derived.Laws.BytesArg
namespace Go.Proofs.YtdnocgpcfahpgabDoor
open Go.RowKit

theorem conv_bytes {w : World} {x : Option Addr} {len cap : Nat} {z : List Int} (h : Bytes w x len cap z) : (convert 22 9 (.slice x len cap)).run Tryd.prog w = .ok (.string (strOfNums z)) w := by
  rw [run_convert_bytes_string w 22 9 5 x len cap Tryd.underlying22 Tryd.underlying5 Tryd.underlying9]
  have hz := h.len_eq
  have hcase : ∀ a : Addr, x = some a → (∀ j u, (z.map (Value.int .u8))[j]? = some u → w.cell? (a.add j) = some u) → (Conv.bytesToString (.slice x len cap)).run Tryd.prog w = .ok (.string (strOfNums z)) w := fun a hx hsrc => by
    subst hx
    have hl := run_loadCells_list (P := Tryd.prog) w a (z.map (Value.int .u8)) hsrc
    rw [List.length_map, ← hz] at hl
    rw [run_bytesToString w a len cap z hl, foldl_push_bytes]
    simp [strOfNums]
  rcases h.at_ with h0 | ⟨b, off, hx, hc⟩
  · have hz0 : z = [] := List.length_eq_zero_iff.1 (by omega)
    cases x with
    | none =>
      subst hz0 h0
      simp only [Conv.bytesToString, Sem.run_pure]; rfl
    | some a => exact hcase a rfl (fun j u hu => by subst hz0; simp at hu)
  · exact hcase _ hx (fun j u hu => by
      have hj : j < len := by have := (List.getElem?_eq_some_iff.1 hu).1; simpa [hz] using this
      rw [Addr.add_mid', hc j hj, ← hu, List.getElem?_map, List.getElem?_eq_getElem (by omega)]; rfl)

theorem Holds.bytes {w : World} {g : Nat} {t : TypeId} {l : List Int} {n : Nat} (h : Holds w g .u8 t l) (hn : n = l.length) (hl : l.length ≤ 4000000) : Bytes w (some ⟨g, 0, none⟩) n n l := by
  subst hn
  exact ⟨rfl, Nat.le_refl _, by omega, (fun h => by cases h), .inr ⟨g, 0, rfl, fun j hj => by rw [Nat.zero_add]; exact h.cell j hj⟩⟩
theorem OwnB.bytes {w : World} {base : Nat} {x : Option Addr} {n cap : Nat} {z : List Int} (h : OwnB w base (.slice x n cap) z) : n = z.length ∧ Bytes w x n cap z := by
  rcases h.2 with ⟨h1, h0⟩ | ⟨g, cap', cur, h1, _, hg, hc, hm, hs, ht⟩
  · have hz : z = [] := List.length_eq_zero_iff.1 h0
    cases h1
    subst hz
    exact ⟨rfl, bytes_nil w⟩
  · cases h1
    refine ⟨rfl, rfl, hc, by simpa [maxLen] using hm, (fun h => by cases h), .inr ⟨g, 0, rfl, fun j hj => ?_⟩⟩
    rw [Nat.zero_add, cell_of_row w g j _ _ _ hg, ← Array.getElem?_toList]
    have e : (cur.toList.take (z.length * 1))[j]? = (z.map (Value.int .u8))[j]? := by rw [ht]
    rw [Nat.mul_one, List.getElem?_take_of_lt hj, List.getElem?_map, List.getElem?_eq_getElem hj] at e
    rw [e, List.getElem?_eq_getElem hj]; rfl

theorem few_any (x : Option Addr) (len cap n : Nat) (z : List Int) (w : World) (h : Bytes w x len cap z) (hn : 0 < n) (hn2 : n ≤ 1000000) :
    Calls Tryd.prog 9 #[.slice x len cap, .int .i64 n] w fun e w' => e = .returned (.slice x (min len n) cap) ∧ w = w' := by
  have hle := h.le
  have htop := h.top
  by_cases hlt : n < len
  · obtain ⟨b, off, rfl⟩ : ∃ b off, x = some ⟨b, off, none⟩ := by
      rcases h.at_ with h0 | ⟨b, off, hx, _⟩
      · omega
      · exact ⟨b, off, hx⟩
    rw [Nat.min_eq_right (by omega)]
    go_enter Tryd.func9, Tryd.ntmps9
    go_wp2
    go_ret
    exact ⟨rfl, rfl⟩
  · rw [Nat.min_eq_left (by omega)]
    go_enter Tryd.func9, Tryd.ntmps9
    go_wp2
    go_ret
    exact ⟨rfl, rfl⟩
theorem Bytes.few {w : World} {x : Option Addr} {len cap : Nat} {z : List Int} (h : Bytes w x len cap z) (n : Nat) : Bytes w x (min len n) cap (z.take n) := by
  have hz := h.len_eq
  refine ⟨by rw [List.length_take]; omega, by have := h.le; omega, h.top, h.nil, ?_⟩
  rcases h.at_ with h0 | ⟨b, off, hx, hc⟩
  · exact .inl (by omega)
  · exact .inr ⟨b, off, hx, fun j hj => by rw [List.getElem?_take_of_lt (by omega)]; exact hc j (by omega)⟩
end Go.Proofs.YtdnocgpcfahpgabDoor
