/- The readers of wire: numbers. -/
import Derived.Test.YtkgbcnfkakdncaaDoorRd1
namespace Go.Proofs.YtkgbcnfkakdncaaDoor
open Go.RowKit
set_option maxRecDepth 20000
set_option linter.unusedSimpArgs false

abbrev b8 (x : Int) : Prop := 0 ≤ x ∧ x ≤ 255
theorem or_i64 (a b : Nat) (ha : a < 65536) (hb : b < 256) : bits .or .i64 ((a * 256 : Nat) : Int) (b : Int) = ((a * 256 + b : Nat) : Int) := by
  have h1 : (BitVec.ofInt 64 ((a * 256 : Nat) : Int)).toNat = a * 256 := by
    rw [BitVec.ofInt_natCast, BitVec.toNat_ofNat]; exact Nat.mod_eq_of_lt (by omega)
  have h2 : (BitVec.ofInt 64 (b : Int)).toNat = b := by
    rw [BitVec.ofInt_natCast, BitVec.toNat_ofNat]; exact Nat.mod_eq_of_lt (by omega)
  have h3 : a * 256 ||| b = a * 256 + b := by
    have := Nat.two_pow_add_eq_or_of_lt (i := 8) (b := b) (by omega) a
    rw [Nat.mul_comm] at this
    exact this.symm
  show IntKind.i64.wrap ((BitVec.ofInt 64 ((a * 256 : Nat) : Int) ||| BitVec.ofInt 64 (b : Int)).toNat : Int) = _
  rw [BitVec.toNat_or, h1, h2, h3, IntKind.wrap_i64]
  omega
theorem or_u32 (a b i m : Nat) (hm : 2 ^ i = m) (ha : a * m < 4294967296) (hi : m ≤ 4294967296) (hb : b < m) : bits .or .u32 ((a * m : Nat) : Int) (b : Int) = ((a * m + b : Nat) : Int) := by
  have h3 : a * m ||| b = a * m + b := by
    have := Nat.two_pow_add_eq_or_of_lt (i := i) (b := b) (by omega) a
    rw [hm, Nat.mul_comm] at this
    exact this.symm
  have hx : a * m ||| b < 2 ^ 32 := Nat.or_lt_two_pow (by omega) (by omega)
  have h1 : (BitVec.ofInt 32 ((a * m : Nat) : Int)).toNat = a * m := by
    rw [BitVec.ofInt_natCast, BitVec.toNat_ofNat]; exact Nat.mod_eq_of_lt (by omega)
  have h2 : (BitVec.ofInt 32 (b : Int)).toNat = b := by
    rw [BitVec.ofInt_natCast, BitVec.toNat_ofNat]; exact Nat.mod_eq_of_lt (by omega)
  show IntKind.u32.wrap ((BitVec.ofInt 32 ((a * m : Nat) : Int) ||| BitVec.ofInt 32 (b : Int)).toNat : Int) = _
  rw [BitVec.toNat_or, h1, h2]
  rw [h3] at hx ⊢
  rw [IntKind.wrap_u32]
  omega
def val2 (a b : Int) : Int := a * 256 + b
def val4 (a b c d : Int) : Int := a * 16777216 + b * 65536 + c * 256 + d
theorem val2_or (a b : Int) (ha : b8 a) (hb : b8 b) : bits .or .i64 (a * 256) b = val2 a b := by
  have := or_i64 a.toNat b.toNat (by omega) (by omega)
  have e1 : ((a.toNat * 256 : Nat) : Int) = a * 256 := by omega
  have e2 : (b.toNat : Int) = b := by omega
  rw [e1, e2] at this
  rw [this]; unfold val2; omega
theorem val4_f1 (p q : Nat) : p * 16777216 + q * 65536 = (p * 256 + q) * 65536 := by rw [Nat.add_mul, Nat.mul_assoc]
theorem val4_f2 (p q r : Nat) : (p * 256 + q) * 65536 + r * 256 = ((p * 256 + q) * 256 + r) * 256 := by rw [Nat.add_mul _ r, Nat.mul_assoc]
theorem val4_or (a b c d : Int) (ha : b8 a) (hb : b8 b) (hc : b8 c) (hd : b8 d) : bits .or .u32 (bits .or .u32 (bits .or .u32 (a * 16777216) (b * 65536)) (c * 256)) d = val4 a b c d := by
  obtain ⟨p, rfl⟩ : ∃ n : Nat, a = n := ⟨a.toNat, by omega⟩
  obtain ⟨q, rfl⟩ : ∃ n : Nat, b = n := ⟨b.toNat, by omega⟩
  obtain ⟨r, rfl⟩ : ∃ n : Nat, c = n := ⟨c.toNat, by omega⟩
  obtain ⟨t, rfl⟩ : ∃ n : Nat, d = n := ⟨d.toNat, by omega⟩
  have hp : p < 256 := by omega
  have hq : q < 256 := by omega
  have hr : r < 256 := by omega
  have ht : t < 256 := by omega
  clear ha hb hc hd
  have e1 : (p : Int) * 16777216 = ((p * 16777216 : Nat) : Int) := by rw [Int.natCast_mul]; rfl
  have e2 : (q : Int) * 65536 = ((q * 65536 : Nat) : Int) := by rw [Int.natCast_mul]; rfl
  have e3 : (r : Int) * 256 = ((r * 256 : Nat) : Int) := by rw [Int.natCast_mul]; rfl
  rw [e1, e2, e3, or_u32 p (q * 65536) 24 16777216 (by decide +kernel) (by omega) (by omega) (by omega), val4_f1, or_u32 (p * 256 + q) (r * 256) 16 65536 (by decide +kernel) (by omega) (by omega) (by omega), val4_f2, or_u32 ((p * 256 + q) * 256 + r) t 8 256 (by decide +kernel) (by omega) (by omega) (by omega)]
  unfold val4
  omega

/-- The first bytes of a reading, as cells. -/
theorem first_cells {w : World} {x : Option Addr} {k : Nat} {z : List Int} (h : Bytes w x k k (z.take k)) (h0 : 0 < k) : ∃ b off, x = some ⟨b, off, none⟩ ∧ ∀ j, j < k → w.cell? ⟨b, off + j, none⟩ = some (.int .u8 (z[j]?.getD 0)) := by
  rcases h.at_ with h1 | ⟨b, off, hx, hc⟩
  · omega
  · refine ⟨b, off, hx, fun j hj => ?_⟩
    have := hc j hj
    rw [List.getElem?_take_of_lt hj] at this
    exact this
theorem b8_get {z : List Int} (hz : ∀ v ∈ z, b8 v) (j : Nat) : b8 (z[j]?.getD 0) := by
  by_cases h : j < z.length
  · rw [List.getElem?_eq_getElem h]; exact hz _ (List.getElem_mem h)
  · rw [List.getElem?_eq_none (by omega)]; exact ⟨by decide, by decide⟩
end Go.Proofs.YtkgbcnfkakdncaaDoor
