/- Xor of xor are the bytes. -/
import Derived.Test.YtgeiiadlchimhaaDoorCx
namespace Go.Proofs.YtgeiiadlchimhaaDoor
open Go.RowKit

theorem bits_xor_nat8 (a b : Nat) (ha : a < 256) (hb : b < 256) : bits .xor .u8 (a : Int) (b : Int) = ((a ^^^ b : Nat) : Int) := by
  show IntKind.u8.wrap ((BitVec.ofInt 8 (a : Int) ^^^ BitVec.ofInt 8 (b : Int)).toNat : Int) = _
  rw [BitVec.toNat_xor, BitVec.toNat_ofInt, BitVec.toNat_ofInt]
  have e1 : ((a : Int) % (2 ^ 8 : Nat)).toNat = a := by simp; omega
  have e2 : ((b : Int) % (2 ^ 8 : Nat)).toNat = b := by simp; omega
  have hx : a ^^^ b < 2 ^ 8 := Nat.xor_lt_two_pow ha hb
  rw [e1, e2]
  simp [IntKind.wrap, IntKind.bits, IntKind.signed]
  omega
def U8 (x : Int) : Prop := 0 ≤ x ∧ x ≤ 255
theorem U8.nat {x : Int} (h : U8 x) : ∃ n : Nat, n < 256 ∧ x = n := ⟨x.toNat, by have := h.1; have := h.2; omega, by have := h.1; omega⟩
theorem xor_u8 {x y : Int} (hx : U8 x) (hy : U8 y) : U8 (bits .xor .u8 x y) := by
  obtain ⟨a, ha, rfl⟩ := hx.nat
  obtain ⟨b, hb, rfl⟩ := hy.nat
  rw [bits_xor_nat8 a b ha hb]
  have hx : a ^^^ b < 2 ^ 8 := Nat.xor_lt_two_pow ha hb
  exact ⟨by omega, by omega⟩
theorem xor_back8 {x y : Int} (hx : U8 x) (hy : U8 y) : bits .xor .u8 (bits .xor .u8 x y) y = x := by
  obtain ⟨a, ha, rfl⟩ := hx.nat
  obtain ⟨b, hb, rfl⟩ := hy.nat
  have hlt : a ^^^ b < 2 ^ 8 := Nat.xor_lt_two_pow ha hb
  rw [bits_xor_nat8 a b ha hb, bits_xor_nat8 _ b hlt hb, Nat.xor_assoc, Nat.xor_self, Nat.xor_zero]
theorem xor_zero8 {y : Int} (hy : U8 y) : bits .xor .u8 0 y = y := by
  obtain ⟨b, hb, rfl⟩ := hy.nat
  have := bits_xor_nat8 0 b (by omega) hb
  rw [Nat.zero_xor] at this
  exact this
theorem joinK_u8 (s : List Int) (k : Nat) : ∀ v ∈ joinK s k, U8 v := by
  induction k with
  | zero => intro v hv; cases hv
  | succ k ih =>
    intro v hv
    simp only [joinK, List.mem_append] at hv
    rcases hv with hv | hv
    · exact ih v hv
    · simp only [bytesL, List.mem_cons, List.not_mem_nil, or_false] at hv
      rcases hv with rfl | rfl | rfl | rfl <;> exact ⟨by omega, by omega⟩
theorem getD_u8 {l : List Int} (h : ∀ v ∈ l, U8 v) (i : Nat) : U8 (l[i]?.getD 0) := by
  by_cases hi : i < l.length
  · rw [List.getElem?_eq_getElem hi]; exact h _ (List.getElem_mem hi)
  · rw [List.getElem?_eq_none (by omega)]; exact ⟨by decide, by decide⟩
theorem strm_u8 (k n : List Int) (c : Int) (i : Nat) : U8 (strm k n c i) := getD_u8 (joinK_u8 _ 16) _
theorem xorL_get (k n : List Int) (c : Int) (z : List Int) (i : Nat) (h : i < z.length) : (xorL k n c z)[i]?.getD 0 = bits .xor .u8 (z[i]?.getD 0) (strm k n c i) := by
  simp [xorL, xorK, h]
theorem getD_ext {l m : List Int} (h : l.length = m.length) (hg : ∀ i, i < l.length → l[i]?.getD 0 = m[i]?.getD 0) : l = m := by
  apply List.ext_getElem h
  intro i h1 h2
  have := hg i h1
  simpa [h1, h2] using this
theorem xor_twice (k n : List Int) (c : Int) (z : List Int) (hz : ∀ v ∈ z, U8 v) : xorL k n c (xorL k n c z) = z := by
  refine getD_ext (by rw [xorL_length, xorL_length]) fun i hi => ?_
  rw [xorL_length, xorL_length] at hi
  rw [xorL_get _ _ _ _ _ (by rw [xorL_length]; exact hi), xorL_get _ _ _ _ _ hi, xor_back8 (getD_u8 hz i) (strm_u8 _ _ _ _)]
end Go.Proofs.YtgeiiadlchimhaaDoor
