/- Bytes as a string. -/
import Derived.Test.YtoebbfifebpnbaaDoorOwn
import Derived.Laws.BytesString
import Derived.Laws.BytesArg
namespace Go.Proofs.YtoebbfifebpnbaaDoor
open Go.RowKit

theorem conv_bytes {w : World} {x : Option Addr} {len cap : Nat} {z : List Int} (h : Bytes w x len cap z) : (convert 24 9 (.slice x len cap)).run Tryd.prog w = .ok (.string (strOfNums z)) w := by
  rw [run_convert_bytes_string w 24 9 5 x len cap Tryd.underlying24 Tryd.underlying5 Tryd.underlying9]
  have hz := h.len_eq
  have hcase : ∀ a : Addr, x = some a → (∀ j u, (z.map (Value.int .u8))[j]? = some u → w.cell? (a.add j) = some u) → (Conv.bytesToString (.slice x len cap)).run Tryd.prog w = .ok (.string (strOfNums z)) w := fun a hx hsrc => by
    subst hx
    have hl := run_loadCells_list (P := Tryd.prog) w a (z.map (Value.int .u8)) hsrc
    rw [List.length_map, ← hz] at hl
    rw [run_bytesToString w a len cap z hl, foldl_push_bytes]
    simp [strOfNums]
  rcases h.at_ with h0 | ⟨b, off, hx, hc⟩
  · have hz0 : z = [] := List.length_eq_zero_iff.1 (by omega)
    cases x with
    | none =>
      subst hz0 h0
      simp only [Conv.bytesToString, Sem.run_pure]; rfl
    | some a => exact hcase a rfl (fun j u hu => by subst hz0; simp at hu)
  · exact hcase _ hx (fun j u hu => by
      have hj : j < len := by have := (List.getElem?_eq_some_iff.1 hu).1; simpa [hz] using this
      rw [Addr.add_mid', hc j hj, ← hu, List.getElem?_map, List.getElem?_eq_getElem (by omega)]; rfl)

theorem strOfNums_inj (a b : List Int) (ha : ∀ v ∈ a, 0 ≤ v ∧ v ≤ 255) (hb : ∀ v ∈ b, 0 ≤ v ∧ v ≤ 255) (h : (strOfNums a).toList = (strOfNums b).toList) : a = b := by
  rw [ByteArray.toList_eq, ByteArray.toList_eq] at h
  have h2 : (a.map fun n => UInt8.ofNat n.toNat) = (b.map fun n => UInt8.ofNat n.toNat) := by rw [← strOfNums_data, ← strOfNums_data]; exact h
  have hl : a.length = b.length := by have := congrArg List.length h2; simpa using this
  apply List.ext_getElem hl
  intro i h1 h3
  have e : UInt8.ofNat a[i].toNat = UInt8.ofNat b[i].toNat := by
    have := congrArg (fun l => l[i]?) h2
    simpa [h1, h3] using this
  have ba := ha _ (List.getElem_mem h1)
  have bb := hb _ (List.getElem_mem h3)
  have e2 := congrArg UInt8.toNat e
  simp at e2
  omega
theorem strEq (z b : List Int) (hz : ∀ v ∈ z, 0 ≤ v ∧ v ≤ 255) (hb : ∀ v ∈ b, 0 ≤ v ∧ v ≤ 255) : ((strOfNums z).toList == (strOfNums b).toList) = (z == b) := by
  by_cases he : z = b
  · subst he; rw [beq_self_eq_true, beq_self_eq_true]
  · have e2 : (z == b) = false := by rw [beq_eq_false_iff_ne]; exact he
    rw [e2, beq_eq_false_iff_ne]
    intro h
    exact he (strOfNums_inj _ _ hz hb h)
end Go.Proofs.YtoebbfifebpnbaaDoor
