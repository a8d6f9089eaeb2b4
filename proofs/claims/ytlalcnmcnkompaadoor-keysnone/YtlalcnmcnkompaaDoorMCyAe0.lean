/- Xor of xor are the bytes. Sealed bytes as the document has them: what the tag is of, the tag, sealed, opened. Pure. -/
import Derived.Test.YtlalcnmcnkompaaDoorMCiCx
import Derived.Test.YtlalcnmcnkompaaDoorMPzPz2
namespace Go.Proofs.YtlalcnmcnkompaaDoor
open Go.RowKit

theorem bits_xor_nat8 (a b : Nat) (ha : a < 256) (hb : b < 256) : bits .xor .u8 (a : Int) (b : Int) = ((a ^^^ b : Nat) : Int) := by
  show IntKind.u8.wrap ((BitVec.ofInt 8 (a : Int) ^^^ BitVec.ofInt 8 (b : Int)).toNat : Int) = _
  rw [BitVec.toNat_xor, BitVec.toNat_ofInt, BitVec.toNat_ofInt]
  have e1 : ((a : Int) % (2 ^ 8 : Nat)).toNat = a := by simp; omega
  have e2 : ((b : Int) % (2 ^ 8 : Nat)).toNat = b := by simp; omega
  have hx : a ^^^ b < 2 ^ 8 := Nat.xor_lt_two_pow ha hb
  rw [e1, e2]
  simp [IntKind.wrap, IntKind.bits, IntKind.signed]
  omega
def U8 (x : Int) : Prop := 0 ≤ x ∧ x ≤ 255
theorem U8.nat {x : Int} (h : U8 x) : ∃ n : Nat, n < 256 ∧ x = n := ⟨x.toNat, by have := h.1; have := h.2; omega, by have := h.1; omega⟩
theorem xor_u8 {x y : Int} (hx : U8 x) (hy : U8 y) : U8 (bits .xor .u8 x y) := by
  obtain ⟨a, ha, rfl⟩ := hx.nat
  obtain ⟨b, hb, rfl⟩ := hy.nat
  rw [bits_xor_nat8 a b ha hb]
  have hx : a ^^^ b < 2 ^ 8 := Nat.xor_lt_two_pow ha hb
  exact ⟨by omega, by omega⟩
theorem xor_back8 {x y : Int} (hx : U8 x) (hy : U8 y) : bits .xor .u8 (bits .xor .u8 x y) y = x := by
  obtain ⟨a, ha, rfl⟩ := hx.nat
  obtain ⟨b, hb, rfl⟩ := hy.nat
  have hlt : a ^^^ b < 2 ^ 8 := Nat.xor_lt_two_pow ha hb
  rw [bits_xor_nat8 a b ha hb, bits_xor_nat8 _ b hlt hb, Nat.xor_assoc, Nat.xor_self, Nat.xor_zero]
theorem xor_zero8 {y : Int} (hy : U8 y) : bits .xor .u8 0 y = y := by
  obtain ⟨b, hb, rfl⟩ := hy.nat
  have := bits_xor_nat8 0 b (by omega) hb
  rw [Nat.zero_xor] at this
  exact this
theorem joinK_u8 (s : List Int) (k : Nat) : ∀ v ∈ joinK s k, U8 v := by
  induction k with
  | zero => intro v hv; cases hv
  | succ k ih =>
    intro v hv
    simp only [joinK, List.mem_append] at hv
    rcases hv with hv | hv
    · exact ih v hv
    · simp only [bytesL, List.mem_cons, List.not_mem_nil, or_false] at hv
      rcases hv with rfl | rfl | rfl | rfl <;> exact ⟨by omega, by omega⟩
theorem getD_u8 {l : List Int} (h : ∀ v ∈ l, U8 v) (i : Nat) : U8 (l[i]?.getD 0) := by
  by_cases hi : i < l.length
  · rw [List.getElem?_eq_getElem hi]; exact h _ (List.getElem_mem hi)
  · rw [List.getElem?_eq_none (by omega)]; exact ⟨by decide, by decide⟩
theorem strm_u8 (k n : List Int) (c : Int) (i : Nat) : U8 (strm k n c i) := getD_u8 (joinK_u8 _ 16) _
theorem xorL_get (k n : List Int) (c : Int) (z : List Int) (i : Nat) (h : i < z.length) : (xorL k n c z)[i]?.getD 0 = bits .xor .u8 (z[i]?.getD 0) (strm k n c i) := by
  simp [xorL, xorK, h]
theorem getD_ext {l m : List Int} (h : l.length = m.length) (hg : ∀ i, i < l.length → l[i]?.getD 0 = m[i]?.getD 0) : l = m := by
  apply List.ext_getElem h
  intro i h1 h2
  have := hg i h1
  simpa [h1, h2] using this
theorem xor_twice (k n : List Int) (c : Int) (z : List Int) (hz : ∀ v ∈ z, U8 v) : xorL k n c (xorL k n c z) = z := by
  refine getD_ext (by rw [xorL_length, xorL_length]) fun i hi => ?_
  rw [xorL_length, xorL_length] at hi
  rw [xorL_get _ _ _ _ _ (by rw [xorL_length]; exact hi), xorL_get _ _ _ _ _ hi, xor_back8 (getD_u8 hz i) (strm_u8 _ _ _ _)]
end Go.Proofs.YtlalcnmcnkompaaDoor

namespace Go.Proofs.YtlalcnmcnkompaaDoor
open Go.RowKit
set_option maxRecDepth 20000

def fillN (n : Nat) : Nat := (16 - n % 16) % 16
def zerosL (n : Nat) : List Int := List.replicate n 0
def le8 (n : Nat) : List Int := leB 8 (n : Int)
theorem leB_length : ∀ (j : Nat) (n : Int), (leB j n).length = j
  | 0, _ => rfl
  | j + 1, n => by rw [leB, List.length_cons, leB_length j]
theorem leB_in : ∀ (j : Nat) (n : Int), ∀ v ∈ leB j n, isB v
  | 0, _, v, h => by simp [leB] at h
  | j + 1, n, v, h => by
    rcases List.mem_cons.1 h with rfl | h
    · unfold isB; omega
    · exact leB_in j _ v h
theorem le8_length (n : Nat) : (le8 n).length = 8 := leB_length 8 _
theorem le8_inj {m n : Nat} (hm : m ≤ 100000) (hn : n ≤ 100000) (h : le8 m = le8 n) : m = n := by
  unfold le8 at h
  simp only [leB, List.cons.injEq, and_true] at h
  omega
/-- The bytes that a tag is of. -/
def framedL (o s : List Int) : List Int := o ++ zerosL (fillN o.length) ++ s ++ zerosL (fillN s.length) ++ le8 o.length ++ le8 s.length
theorem zerosL_length (n : Nat) : (zerosL n).length = n := by simp [zerosL]
theorem zerosL_in (n : Nat) : ∀ v ∈ zerosL n, isB v := fun v hv => by
  rw [(List.mem_replicate.1 hv).2]; unfold isB; omega
theorem framedL_length (o s : List Int) : (framedL o s).length = o.length + fillN o.length + s.length + fillN s.length + 16 := by
  unfold framedL
  simp only [List.length_append, zerosL_length, le8_length]
theorem framedL_mod (o s : List Int) : (framedL o s).length % 16 = 0 := by
  rw [framedL_length]; unfold fillN; omega
theorem framedL_in (o s : List Int) (ho : ∀ v ∈ o, isB v) (hs : ∀ v ∈ s, isB v) : ∀ v ∈ framedL o s, isB v := by
  intro v hv
  unfold framedL at hv
  simp only [List.mem_append] at hv
  rcases hv with ((((h | h) | h) | h) | h) | h
  · exact ho v h
  · exact zerosL_in _ v h
  · exact hs v h
  · exact zerosL_in _ v h
  · exact leB_in _ _ v h
  · exact leB_in _ _ v h
theorem framed_inj (o s o' s' : List Int) (h1 : o.length ≤ 100000) (h2 : s.length ≤ 100000) (h3 : o'.length ≤ 100000) (h4 : s'.length ≤ 100000) (h : framedL o s = framedL o' s') : o = o' ∧ s = s' := by
  unfold framedL at h
  obtain ⟨ha, hb⟩ := List.append_inj' h (by rw [le8_length, le8_length])
  obtain ⟨hc, hd⟩ := List.append_inj' ha (by rw [le8_length, le8_length])
  have e1 := le8_inj h1 h3 hd
  have e2 := le8_inj h2 h4 hb
  rw [e1, e2] at hc
  obtain ⟨he, -⟩ := List.append_inj' hc rfl
  obtain ⟨hf, hg⟩ := List.append_inj' he e2
  obtain ⟨hh, -⟩ := List.append_inj' hf rfl
  exact ⟨hh, hg⟩
/-- The key of the tag, the tag, what is sealed. -/
def onceL (k n : List Int) : List Int := (blockL k n 0).take 32
def tagL (k n o h : List Int) : List Int := polyL (onceL k n) (framedL o h)
def sealL (k n o b : List Int) : List Int := xorL k n 1 b ++ tagL k n o (xorL k n 1 b)
theorem onceL_length (k n : List Int) : (onceL k n).length = 32 := by
  unfold onceL; rw [List.length_take, blockL_length]; rfl
end Go.Proofs.YtlalcnmcnkompaaDoor
