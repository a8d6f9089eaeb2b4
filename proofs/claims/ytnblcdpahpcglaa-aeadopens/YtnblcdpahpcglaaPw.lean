/- The tag as a number: blocks are added, multiplied, settled. -/
import Derived.Test.YtnblcdpahpcglaaPv
import Derived.Test.YtnblcdpahpcglaaPh
namespace Go.Proofs.Ytnblcdpahpcglaa
open Go

/-- A byte. -/
def isB (v : Int) : Prop := 0 ≤ v ∧ v ≤ 255
/-- A limb that is folded: of 26 bits, the second one a little more. -/
def Fold5 (a b c d e : Int) : Prop := (0 ≤ a ∧ a < 67108864) ∧ (0 ≤ b ∧ b < 67112960) ∧ (0 ≤ c ∧ c < 67108864) ∧ (0 ≤ d ∧ d < 67108864) ∧ (0 ≤ e ∧ e < 67108864)
def Limb5 (a b c d e : Int) : Prop := (0 ≤ a ∧ a < 67108864) ∧ (0 ≤ b ∧ b < 67108864) ∧ (0 ≤ c ∧ c < 67108864) ∧ (0 ≤ d ∧ d < 67108864) ∧ (0 ≤ e ∧ e < 67108864)

theorem times_val (x0 x1 x2 x3 x4 y0 y1 y2 y3 y4 : Int) (R : List Int) (hx : (0 ≤ x0 ∧ x0 < 268435456) ∧ (0 ≤ x1 ∧ x1 < 268435456) ∧ (0 ≤ x2 ∧ x2 < 268435456) ∧ (0 ≤ x3 ∧ x3 < 268435456) ∧ (0 ≤ x4 ∧ x4 < 268435456)) (hy : Limb5 y0 y1 y2 y3 y4) :
    ∃ r0 r1 r2 r3 r4 q, timesL (x0 :: x1 :: x2 :: x3 :: x4 :: R) [y0, y1, y2, y3, y4] = r0 :: r1 :: r2 :: r3 :: r4 :: R ∧ Fold5 r0 r1 r2 r3 r4 ∧ V5 x0 x1 x2 x3 x4 * V5 y0 y1 y2 y3 y4 = V5 r0 r1 r2 r3 r4 + q * 1361129467683753853853498429727072845819 := by
  obtain ⟨hx0, hx1, hx2, hx3, hx4⟩ := hx
  obtain ⟨hy0, hy1, hy2, hy3, hy4⟩ := hy
  have hp := prod5 x0 x1 x2 x3 x4 y0 y1 y2 y3 y4
  have ho := outer5 x0 x1 x2 x3 x4 y0 y1 y2 y3 y4 R
  have m00 := mul_bd x0 y0 _ _ hx0 hy0
  have m01 := mul_bd x0 y1 _ _ hx0 hy1
  have m02 := mul_bd x0 y2 _ _ hx0 hy2
  have m03 := mul_bd x0 y3 _ _ hx0 hy3
  have m04 := mul_bd x0 y4 _ _ hx0 hy4
  have m10 := mul_bd x1 y0 _ _ hx1 hy0
  have m11 := mul_bd x1 y1 _ _ hx1 hy1
  have m12 := mul_bd x1 y2 _ _ hx1 hy2
  have m13 := mul_bd x1 y3 _ _ hx1 hy3
  have m14 := mul_bd x1 y4 _ _ hx1 hy4
  have m20 := mul_bd x2 y0 _ _ hx2 hy0
  have m21 := mul_bd x2 y1 _ _ hx2 hy1
  have m22 := mul_bd x2 y2 _ _ hx2 hy2
  have m23 := mul_bd x2 y3 _ _ hx2 hy3
  have m24 := mul_bd x2 y4 _ _ hx2 hy4
  have m30 := mul_bd x3 y0 _ _ hx3 hy0
  have m31 := mul_bd x3 y1 _ _ hx3 hy1
  have m32 := mul_bd x3 y2 _ _ hx3 hy2
  have m33 := mul_bd x3 y3 _ _ hx3 hy3
  have m34 := mul_bd x3 y4 _ _ hx3 hy4
  have m40 := mul_bd x4 y0 _ _ hx4 hy0
  have m41 := mul_bd x4 y1 _ _ hx4 hy1
  have m42 := mul_bd x4 y2 _ _ hx4 hy2
  have m43 := mul_bd x4 y3 _ _ hx4 hy3
  have m44 := mul_bd x4 y4 _ _ hx4 hy4
  simp only [Int.mul_assoc] at hp ho
  generalize x0 * y0 = a00 at *
  generalize x0 * y1 = a01 at *
  generalize x0 * y2 = a02 at *
  generalize x0 * y3 = a03 at *
  generalize x0 * y4 = a04 at *
  generalize x1 * y0 = a10 at *
  generalize x1 * y1 = a11 at *
  generalize x1 * y2 = a12 at *
  generalize x1 * y3 = a13 at *
  generalize x1 * y4 = a14 at *
  generalize x2 * y0 = a20 at *
  generalize x2 * y1 = a21 at *
  generalize x2 * y2 = a22 at *
  generalize x2 * y3 = a23 at *
  generalize x2 * y4 = a24 at *
  generalize x3 * y0 = a30 at *
  generalize x3 * y1 = a31 at *
  generalize x3 * y2 = a32 at *
  generalize x3 * y3 = a33 at *
  generalize x3 * y4 = a34 at *
  generalize x4 * y0 = a40 at *
  generalize x4 * y1 = a41 at *
  generalize x4 * y2 = a42 at *
  generalize x4 * y3 = a43 at *
  generalize x4 * y4 = a44 at *
  have e0 : (a00 + 5 * a14 + 5 * a23 + 5 * a32 + 5 * a41) % 18446744073709551616 = a00 + 5 * a14 + 5 * a23 + 5 * a32 + 5 * a41 := Int.emod_eq_of_lt (by omega) (by omega)
  have e1 : (a01 + a10 + 5 * a24 + 5 * a33 + 5 * a42) % 18446744073709551616 = a01 + a10 + 5 * a24 + 5 * a33 + 5 * a42 := Int.emod_eq_of_lt (by omega) (by omega)
  have e2 : (a02 + a11 + a20 + 5 * a34 + 5 * a43) % 18446744073709551616 = a02 + a11 + a20 + 5 * a34 + 5 * a43 := Int.emod_eq_of_lt (by omega) (by omega)
  have e3 : (a03 + a12 + a21 + a30 + 5 * a44) % 18446744073709551616 = a03 + a12 + a21 + a30 + 5 * a44 := Int.emod_eq_of_lt (by omega) (by omega)
  have e4 : (a04 + a13 + a22 + a31 + a40) % 18446744073709551616 = a04 + a13 + a22 + a31 + a40 := Int.emod_eq_of_lt (by omega) (by omega)
  rw [e0, e1, e2, e3, e4] at ho
  obtain ⟨r0, r1, r2, r3, r4, q, hf, b0, b1, b2, b3, b4, hv⟩ := fold5 (a00 + 5 * a14 + 5 * a23 + 5 * a32 + 5 * a41) (a01 + a10 + 5 * a24 + 5 * a33 + 5 * a42) (a02 + a11 + a20 + 5 * a34 + 5 * a43) (a03 + a12 + a21 + a30 + 5 * a44) (a04 + a13 + a22 + a31 + a40) R (by omega) (by omega) (by omega) (by omega) (by omega)
  refine ⟨r0, r1, r2, r3, r4, q + (a14 + (a23 + (a32 + a41)) + (a24 + (a33 + a42)) * 67108864 + (a34 + a43) * 4503599627370496 + a44 * 302231454903657293676544), ?_, ⟨b0, b1, b2, b3, b4⟩, ?_⟩
  · unfold timesL
    rw [ho]
    exact hf
  · rw [hp, hv]
    clear hp hv ho hf e0 e1 e2 e3 e4 m00 m01 m02 m03 m04 m10 m11 m12 m13 m14 m20 m21 m22 m23 m24 m30 m31 m32 m33 m34 m40 m41 m42 m43 m44 b0 b1 b2 b3 b4
    omega

theorem add_val (x0 x1 x2 x3 x4 m0 m1 m2 m3 m4 : Int) (R : List Int) : addK (x0 :: x1 :: x2 :: x3 :: x4 :: R) [m0, m1, m2, m3, m4] 5 = (x0 + m0) % 18446744073709551616 :: (x1 + m1) % 18446744073709551616 :: (x2 + m2) % 18446744073709551616 :: (x3 + m3) % 18446744073709551616 :: (x4 + m4) % 18446744073709551616 :: R := rfl

theorem or_join (x y : Int) (i : Nat) (hx0 : 0 ≤ x) (hx : x % 2 ^ i = 0) (hx1 : x < 18446744073709551616) (hy0 : 0 ≤ y) (hy : y < 2 ^ i) (hy1 : y < 18446744073709551616) : bits .or .u64 y x = x + y := by
  rw [bits_or_comm]
  exact bits_join .u64 64 (by decide) wraps_u64 i x y hx0 hx (by omega) hy0 hy (by omega)

theorem half_val (z0 z1 z2 z3 z4 z5 z6 z7 : Int) (R : List Int) (h0 : isB z0) (h1 : isB z1) (h2 : isB z2) (h3 : isB z3) (h4 : isB z4) (h5 : isB z5) (h6 : isB z6) (h7 : isB z7) :
    halfK (z0 :: z1 :: z2 :: z3 :: z4 :: z5 :: z6 :: z7 :: R) 8 = z0 + z1 * 256 + z2 * 65536 + z3 * 16777216 + z4 * 4294967296 + z5 * 1099511627776 + z6 * 281474976710656 + z7 * 72057594037927936 := by
  unfold isB at *
  have e : halfK (z0 :: z1 :: z2 :: z3 :: z4 :: z5 :: z6 :: z7 :: R) 8 = bits .or .u64 (bits .or .u64 (bits .or .u64 (bits .or .u64 (bits .or .u64 (bits .or .u64 (bits .or .u64 (bits .or .u64 0 (z0 % 18446744073709551616 * 1 % 18446744073709551616)) (z1 % 18446744073709551616 * 256 % 18446744073709551616)) (z2 % 18446744073709551616 * 65536 % 18446744073709551616)) (z3 % 18446744073709551616 * 16777216 % 18446744073709551616)) (z4 % 18446744073709551616 * 4294967296 % 18446744073709551616)) (z5 % 18446744073709551616 * 1099511627776 % 18446744073709551616)) (z6 % 18446744073709551616 * 281474976710656 % 18446744073709551616)) (z7 % 18446744073709551616 * 72057594037927936 % 18446744073709551616) := by
    simp [halfK]
  rw [e]
  have m0 : z0 % 18446744073709551616 * 1 % 18446744073709551616 = z0 := by omega
  have m1 : z1 % 18446744073709551616 * 256 % 18446744073709551616 = z1 * 256 := by omega
  have m2 : z2 % 18446744073709551616 * 65536 % 18446744073709551616 = z2 * 65536 := by omega
  have m3 : z3 % 18446744073709551616 * 16777216 % 18446744073709551616 = z3 * 16777216 := by omega
  have m4 : z4 % 18446744073709551616 * 4294967296 % 18446744073709551616 = z4 * 4294967296 := by omega
  have m5 : z5 % 18446744073709551616 * 1099511627776 % 18446744073709551616 = z5 * 1099511627776 := by omega
  have m6 : z6 % 18446744073709551616 * 281474976710656 % 18446744073709551616 = z6 * 281474976710656 := by omega
  have m7 : z7 % 18446744073709551616 * 72057594037927936 % 18446744073709551616 = z7 * 72057594037927936 := by omega
  rw [m0, m1, m2, m3, m4, m5, m6, m7]
  rw [or_join z0 0 0 (by omega) (by omega) (by omega) (by omega) (by omega) (by omega)]
  rw [or_join (z1 * 256) (z0 + 0) 8 (by omega) (by omega) (by omega) (by omega) (by omega) (by omega)]
  rw [or_join (z2 * 65536) _ 16 (by omega) (by omega) (by omega) (by omega) (by omega) (by omega)]
  rw [or_join (z3 * 16777216) _ 24 (by omega) (by omega) (by omega) (by omega) (by omega) (by omega)]
  rw [or_join (z4 * 4294967296) _ 32 (by omega) (by omega) (by omega) (by omega) (by omega) (by omega)]
  rw [or_join (z5 * 1099511627776) _ 40 (by omega) (by omega) (by omega) (by omega) (by omega) (by omega)]
  rw [or_join (z6 * 281474976710656) _ 48 (by omega) (by omega) (by omega) (by omega) (by omega) (by omega)]
  rw [or_join (z7 * 72057594037927936) _ 56 (by omega) (by omega) (by omega) (by omega) (by omega) (by omega)]
  omega

/-- Sixteen bytes and a seventeenth, as a number. -/
def N16 (z0 z1 z2 z3 z4 z5 z6 z7 y0 y1 y2 y3 y4 y5 y6 y7 : Int) : Int :=
  (z0 + z1 * 256 + z2 * 65536 + z3 * 16777216 + z4 * 4294967296 + z5 * 1099511627776 + z6 * 281474976710656 + z7 * 72057594037927936) + (y0 + y1 * 256 + y2 * 65536 + y3 * 16777216 + y4 * 4294967296 + y5 * 1099511627776 + y6 * 281474976710656 + y7 * 72057594037927936) * 18446744073709551616

theorem num_val (z0 z1 z2 z3 z4 z5 z6 z7 y0 y1 y2 y3 y4 y5 y6 y7 t : Int) (h0 : isB z0) (h1 : isB z1) (h2 : isB z2) (h3 : isB z3) (h4 : isB z4) (h5 : isB z5) (h6 : isB z6) (h7 : isB z7)
    (g0 : isB y0) (g1 : isB y1) (g2 : isB y2) (g3 : isB y3) (g4 : isB y4) (g5 : isB y5) (g6 : isB y6) (g7 : isB y7) (ht : 0 ≤ t ∧ t ≤ 1) :
    ∃ a b c d e, numL [z0, z1, z2, z3, z4, z5, z6, z7, y0, y1, y2, y3, y4, y5, y6, y7, t] = [a, b, c, d, e] ∧ Limb5 a b c d e ∧ V5 a b c d e = N16 z0 z1 z2 z3 z4 z5 z6 z7 y0 y1 y2 y3 y4 y5 y6 y7 + t * 340282366920938463463374607431768211456 := by
  have hA := half_val z0 z1 z2 z3 z4 z5 z6 z7 [y0, y1, y2, y3, y4, y5, y6, y7, t] h0 h1 h2 h3 h4 h5 h6 h7
  have hB := half_val y0 y1 y2 y3 y4 y5 y6 y7 [t] g0 g1 g2 g3 g4 g5 g6 g7
  have e : numL [z0, z1, z2, z3, z4, z5, z6, z7, y0, y1, y2, y3, y4, y5, y6, y7, t] = [bits .and .u64 (halfK [z0, z1, z2, z3, z4, z5, z6, z7, y0, y1, y2, y3, y4, y5, y6, y7, t] 8) 67108863, bits .and .u64 (halfK [z0, z1, z2, z3, z4, z5, z6, z7, y0, y1, y2, y3, y4, y5, y6, y7, t] 8 / 67108864) 67108863, bits .and .u64 (bits .or .u64 (halfK [z0, z1, z2, z3, z4, z5, z6, z7, y0, y1, y2, y3, y4, y5, y6, y7, t] 8 / 4503599627370496) (halfK [y0, y1, y2, y3, y4, y5, y6, y7, t] 8 * 4096 % 18446744073709551616)) 67108863, bits .and .u64 (halfK [y0, y1, y2, y3, y4, y5, y6, y7, t] 8 / 16384) 67108863, bits .or .u64 (halfK [y0, y1, y2, y3, y4, y5, y6, y7, t] 8 / 1099511627776) (t % 18446744073709551616 * 16777216 % 18446744073709551616)] := rfl
  rw [e, hA, hB]
  unfold N16
  have bA : 0 ≤ (z0 + z1 * 256 + z2 * 65536 + z3 * 16777216 + z4 * 4294967296 + z5 * 1099511627776 + z6 * 281474976710656 + z7 * 72057594037927936) ∧ (z0 + z1 * 256 + z2 * 65536 + z3 * 16777216 + z4 * 4294967296 + z5 * 1099511627776 + z6 * 281474976710656 + z7 * 72057594037927936) < 18446744073709551616 := by unfold isB at *; omega
  have bB : 0 ≤ (y0 + y1 * 256 + y2 * 65536 + y3 * 16777216 + y4 * 4294967296 + y5 * 1099511627776 + y6 * 281474976710656 + y7 * 72057594037927936) ∧ (y0 + y1 * 256 + y2 * 65536 + y3 * 16777216 + y4 * 4294967296 + y5 * 1099511627776 + y6 * 281474976710656 + y7 * 72057594037927936) < 18446744073709551616 := by unfold isB at *; omega
  generalize (z0 + z1 * 256 + z2 * 65536 + z3 * 16777216 + z4 * 4294967296 + z5 * 1099511627776 + z6 * 281474976710656 + z7 * 72057594037927936) = A at *
  generalize (y0 + y1 * 256 + y2 * 65536 + y3 * 16777216 + y4 * 4294967296 + y5 * 1099511627776 + y6 * 281474976710656 + y7 * 72057594037927936) = B at *
  clear hA hB e h0 h1 h2 h3 h4 h5 h6 h7 g0 g1 g2 g3 g4 g5 g6 g7
  have t1 : t % 18446744073709551616 * 16777216 % 18446744073709551616 = t * 16777216 := by omega
  have B1 : B * 4096 % 18446744073709551616 = B % 4503599627370496 * 4096 := by omega
  rw [t1, B1, or_join (t * 16777216) (B / 1099511627776) 24 (by omega) (by omega) (by omega) (by omega) (by omega) (by omega), or_join (B % 4503599627370496 * 4096) (A / 4503599627370496) 12 (by omega) (by omega) (by omega) (by omega) (by omega) (by omega), and26 A (by omega) (by omega), and26 (A / 67108864) (by omega) (by omega), and26 _ (by omega) (by omega), and26 (B / 16384) (by omega) (by omega)]
  refine ⟨_, _, _, _, _, rfl, ⟨by omega, by omega, by omega, by omega, by omega⟩, ?_⟩
  unfold V5
  omega

/-- One block more, as numbers. -/
theorem take_val (x0 x1 x2 x3 x4 r0 r1 r2 r3 r4 : Int) (z0 z1 z2 z3 z4 z5 z6 z7 y0 y1 y2 y3 y4 y5 y6 y7 t : Int) (hx : Fold5 x0 x1 x2 x3 x4) (hr : Limb5 r0 r1 r2 r3 r4) (h0 : isB z0) (h1 : isB z1) (h2 : isB z2) (h3 : isB z3) (h4 : isB z4) (h5 : isB z5) (h6 : isB z6) (h7 : isB z7)
    (g0 : isB y0) (g1 : isB y1) (g2 : isB y2) (g3 : isB y3) (g4 : isB y4) (g5 : isB y5) (g6 : isB y6) (g7 : isB y7) (ht : 0 ≤ t ∧ t ≤ 1) :
    ∃ a b c d e q, takeL [x0, x1, x2, x3, x4, r0, r1, r2, r3, r4] [z0, z1, z2, z3, z4, z5, z6, z7, y0, y1, y2, y3, y4, y5, y6, y7, t] = [a, b, c, d, e, r0, r1, r2, r3, r4] ∧ Fold5 a b c d e ∧
      (V5 x0 x1 x2 x3 x4 + (N16 z0 z1 z2 z3 z4 z5 z6 z7 y0 y1 y2 y3 y4 y5 y6 y7 + t * 340282366920938463463374607431768211456)) * V5 r0 r1 r2 r3 r4 = V5 a b c d e + q * 1361129467683753853853498429727072845819 := by
  obtain ⟨m0, m1, m2, m3, m4, hn, hm, hv⟩ := num_val z0 z1 z2 z3 z4 z5 z6 z7 y0 y1 y2 y3 y4 y5 y6 y7 t h0 h1 h2 h3 h4 h5 h6 h7 g0 g1 g2 g3 g4 g5 g6 g7 ht
  have hm' := hm
  have hx' := hx
  unfold Limb5 at hm'
  unfold Fold5 at hx'
  have ha : addK [x0, x1, x2, x3, x4, r0, r1, r2, r3, r4] [m0, m1, m2, m3, m4] 5 = (x0 + m0) :: (x1 + m1) :: (x2 + m2) :: (x3 + m3) :: (x4 + m4) :: [r0, r1, r2, r3, r4] := by
    rw [add_val]
    rw [Int.emod_eq_of_lt (a := x0 + m0) (by omega) (by omega), Int.emod_eq_of_lt (a := x1 + m1) (by omega) (by omega), Int.emod_eq_of_lt (a := x2 + m2) (by omega) (by omega), Int.emod_eq_of_lt (a := x3 + m3) (by omega) (by omega), Int.emod_eq_of_lt (a := x4 + m4) (by omega) (by omega)]
  obtain ⟨a, b, c, d, e, q, ht', hf, hq⟩ := times_val (x0 + m0) (x1 + m1) (x2 + m2) (x3 + m3) (x4 + m4) r0 r1 r2 r3 r4 [r0, r1, r2, r3, r4] (by omega) hr
  refine ⟨a, b, c, d, e, q, ?_, hf, ?_⟩
  · have hd : ([x0, x1, x2, x3, x4, r0, r1, r2, r3, r4].drop 5).take 5 = [r0, r1, r2, r3, r4] := rfl
    unfold takeL
    rw [hd, hn, ha]
    exact ht'
  · have hs : V5 (x0 + m0) (x1 + m1) (x2 + m2) (x3 + m3) (x4 + m4) = V5 x0 x1 x2 x3 x4 + V5 m0 m1 m2 m3 m4 := by unfold V5; omega
    rw [← hq, hs, hv]
end Go.Proofs.Ytnblcdpahpcglaa
