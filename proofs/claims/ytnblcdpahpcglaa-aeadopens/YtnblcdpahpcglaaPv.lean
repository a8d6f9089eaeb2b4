/- What the limbs are as numbers: carried, folded, multiplied. -/
import Derived.Test.YtnblcdpahpcglaaPd
namespace Go.Proofs.Ytnblcdpahpcglaa
open Go

/-- Five limbs as a number. -/
def V5 (a b c d e : Int) : Int := a + b * 67108864 + c * 4503599627370496 + d * 302231454903657293676544 + e * 20282409603651670423947251286016
theorem wraps_u64 (n : Int) (h₀ : 0 ≤ n) (h₁ : n < 2 ^ 64) : IntKind.u64.wrap n = n := by rw [IntKind.wrap_u64]; omega
theorem and26 (x : Int) (h0 : 0 ≤ x) (h1 : x < 18446744073709551616) : bits .and .u64 x 67108863 = x % 67108864 := bits_mask .u64 64 (by decide) wraps_u64 26 (by omega) x h0 (by omega)

theorem carry5 (a b c d e : Int) (R : List Int) (ha : 0 ≤ a ∧ a < 4611686018427387904) (hb : 0 ≤ b ∧ b < 4611686018427387904) (hc : 0 ≤ c ∧ c < 4611686018427387904) (hd : 0 ≤ d ∧ d < 4611686018427387904) (he : 0 ≤ e ∧ e < 4611686018427387904) :
    ∃ x0 x1 x2 x3 x4, carryK (a :: b :: c :: d :: e :: R) 4 = x0 :: x1 :: x2 :: x3 :: x4 :: R ∧ (0 ≤ x0 ∧ x0 < 67108864) ∧ (0 ≤ x1 ∧ x1 < 67108864) ∧ (0 ≤ x2 ∧ x2 < 67108864) ∧ (0 ≤ x3 ∧ x3 < 67108864) ∧ (0 ≤ x4 ∧ x4 ≤ e + 137438953472) ∧ V5 x0 x1 x2 x3 x4 = V5 a b c d e := by
  have h : carryK (a :: b :: c :: d :: e :: R) 4 = bits .and .u64 a 67108863 :: bits .and .u64 ((b + a / 67108864) % 18446744073709551616) 67108863 :: bits .and .u64 ((c + (b + a / 67108864) % 18446744073709551616 / 67108864) % 18446744073709551616) 67108863 :: bits .and .u64 ((d + (c + (b + a / 67108864) % 18446744073709551616 / 67108864) % 18446744073709551616 / 67108864) % 18446744073709551616) 67108863 :: ((e + (d + (c + (b + a / 67108864) % 18446744073709551616 / 67108864) % 18446744073709551616 / 67108864) % 18446744073709551616 / 67108864) % 18446744073709551616) :: R := rfl
  rw [h]
  obtain ⟨y1, h1⟩ : ∃ q, (b + a / 67108864) % 18446744073709551616 = q := ⟨_, rfl⟩
  rw [h1]
  obtain ⟨y2, h2⟩ : ∃ q, (c + y1 / 67108864) % 18446744073709551616 = q := ⟨_, rfl⟩
  rw [h2]
  obtain ⟨y3, h3⟩ : ∃ q, (d + y2 / 67108864) % 18446744073709551616 = q := ⟨_, rfl⟩
  rw [h3]
  obtain ⟨y4, h4⟩ : ∃ q, (e + y3 / 67108864) % 18446744073709551616 = q := ⟨_, rfl⟩
  rw [h4]
  have e1 : y1 = b + a / 67108864 := by omega
  have b1 : 0 ≤ y1 ∧ y1 < 4611686155866341376 := by omega
  have e2 : y2 = c + y1 / 67108864 := by omega
  have b2 : 0 ≤ y2 ∧ y2 < 4611686155866341376 := by omega
  have e3 : y3 = d + y2 / 67108864 := by omega
  have b3 : 0 ≤ y3 ∧ y3 < 4611686155866341376 := by omega
  have e4 : y4 = e + y3 / 67108864 := by omega
  refine ⟨_, _, _, _, _, rfl, ?_⟩
  rw [and26 a (by omega) (by omega), and26 y1 (by omega) (by omega), and26 y2 (by omega) (by omega), and26 y3 (by omega) (by omega)]
  clear h h1 h2 h3 h4
  refine ⟨by omega, by omega, by omega, by omega, by omega, ?_⟩
  unfold V5
  omega

theorem fold5 (a b c d e : Int) (R : List Int) (ha : 0 ≤ a ∧ a < 1152921504606846976) (hb : 0 ≤ b ∧ b < 1152921504606846976) (hc : 0 ≤ c ∧ c < 1152921504606846976) (hd : 0 ≤ d ∧ d < 1152921504606846976) (he : 0 ≤ e ∧ e < 1152921504606846976) :
    ∃ r0 r1 r2 r3 r4 q, foldL (a :: b :: c :: d :: e :: R) = r0 :: r1 :: r2 :: r3 :: r4 :: R ∧ (0 ≤ r0 ∧ r0 < 67108864) ∧ (0 ≤ r1 ∧ r1 < 67112960) ∧ (0 ≤ r2 ∧ r2 < 67108864) ∧ (0 ≤ r3 ∧ r3 < 67108864) ∧ (0 ≤ r4 ∧ r4 < 67108864) ∧ V5 a b c d e = V5 r0 r1 r2 r3 r4 + q * 1361129467683753853853498429727072845819 := by
  obtain ⟨x0, x1, x2, x3, x4, hx, b0, b1, b2, b3, b4, hv⟩ := carry5 a b c d e R (by omega) (by omega) (by omega) (by omega) (by omega)
  unfold foldL
  rw [hx]
  simp only [List.set_cons_zero, List.set_cons_succ, List.getElem?_cons_zero, List.getElem?_cons_succ, Option.getD_some]
  obtain ⟨ov, hov⟩ : ∃ q, x4 / 67108864 = q := ⟨_, rfl⟩
  rw [hov]
  have bo : 0 ≤ ov ∧ ov < 17179873280 := by omega
  obtain ⟨y0, hy0⟩ : ∃ q, (x0 + 5 * ov % 18446744073709551616) % 18446744073709551616 = q := ⟨_, rfl⟩
  rw [hy0]
  have e0 : y0 = x0 + 5 * ov := by omega
  obtain ⟨y1, hy1⟩ : ∃ q, (x1 + y0 / 67108864) % 18446744073709551616 = q := ⟨_, rfl⟩
  rw [hy1]
  have e1 : y1 = x1 + y0 / 67108864 := by omega
  refine ⟨_, _, _, _, _, ov, rfl, ?_⟩
  rw [and26 y0 (by omega) (by omega), and26 x4 (by omega) (by omega)]
  clear hy0 hy1 hx
  refine ⟨by omega, by omega, by omega, by omega, by omega, ?_⟩
  rw [← hv]
  unfold V5
  omega

theorem prod5 (x0 x1 x2 x3 x4 y0 y1 y2 y3 y4 : Int) :
    V5 x0 x1 x2 x3 x4 * V5 y0 y1 y2 y3 y4 = V5 (x0 * y0 + 5 * x1 * y4 + 5 * x2 * y3 + 5 * x3 * y2 + 5 * x4 * y1) (x0 * y1 + x1 * y0 + 5 * x2 * y4 + 5 * x3 * y3 + 5 * x4 * y2) (x0 * y2 + x1 * y1 + x2 * y0 + 5 * x3 * y4 + 5 * x4 * y3) (x0 * y3 + x1 * y2 + x2 * y1 + x3 * y0 + 5 * x4 * y4) (x0 * y4 + x1 * y3 + x2 * y2 + x3 * y1 + x4 * y0)
      + ((x1 * y4 + x2 * y3 + x3 * y2 + x4 * y1) + (x2 * y4 + x3 * y3 + x4 * y2) * 67108864 + (x3 * y4 + x4 * y3) * 4503599627370496 + 302231454903657293676544 * (x4 * y4)) * 1361129467683753853853498429727072845819 := by
  unfold V5
  grind

theorem mul_bd (x y X Y : Int) (hx : 0 ≤ x ∧ x < X) (hy : 0 ≤ y ∧ y < Y) : 0 ≤ x * y ∧ x * y ≤ X * Y := by
  refine ⟨Int.mul_nonneg hx.1 hy.1, ?_⟩
  exact Int.mul_le_mul (by omega) (by omega) hy.1 (by omega)

set_option maxRecDepth 20000 in
set_option maxHeartbeats 1000000 in
theorem outer5 (x0 x1 x2 x3 x4 y0 y1 y2 y3 y4 : Int) (R : List Int) :
    outerK (x0 :: x1 :: x2 :: x3 :: x4 :: R) [y0, y1, y2, y3, y4] 5 = [(x0 * y0 + 5 * x1 * y4 + 5 * x2 * y3 + 5 * x3 * y2 + 5 * x4 * y1) % 18446744073709551616, (x0 * y1 + x1 * y0 + 5 * x2 * y4 + 5 * x3 * y3 + 5 * x4 * y2) % 18446744073709551616, (x0 * y2 + x1 * y1 + x2 * y0 + 5 * x3 * y4 + 5 * x4 * y3) % 18446744073709551616, (x0 * y3 + x1 * y2 + x2 * y1 + x3 * y0 + 5 * x4 * y4) % 18446744073709551616, (x0 * y4 + x1 * y3 + x2 * y2 + x3 * y1 + x4 * y0) % 18446744073709551616] := by
  have hm : ∀ x y : Int, (5 * x % 18446744073709551616 * y) % 18446744073709551616 = (5 * x * y) % 18446744073709551616 := fun x y => by
    rw [Int.mul_emod, Int.emod_emod_of_dvd _ (Int.dvd_refl _), ← Int.mul_emod]
  simp [outerK, innerK, stepP, hm, Int.emod_add_emod, Int.add_emod_emod]
end Go.Proofs.Ytnblcdpahpcglaa
