/- Pw Px -/
import Derived.Test.YtlhajphjppjlgaaGreatDoorT12
import Derived.Test.YtlhajphjppjlgaaGreatDoorT14
namespace Go.Proofs.YtlhajphjppjlgaaGreatDoor
open Go
def isB (v : Int) : Prop := 0 ≤ v ∧ v ≤ 255
def Fold5 (a b c d e : Int) : Prop := (0 ≤ a ∧ a < 67108864) ∧ (0 ≤ b ∧ b < 67112960) ∧ (0 ≤ c ∧ c < 67108864) ∧ (0 ≤ d ∧ d < 67108864) ∧ (0 ≤ e ∧ e < 67108864)
def Limb5 (a b c d e : Int) : Prop := (0 ≤ a ∧ a < 67108864) ∧ (0 ≤ b ∧ b < 67108864) ∧ (0 ≤ c ∧ c < 67108864) ∧ (0 ≤ d ∧ d < 67108864) ∧ (0 ≤ e ∧ e < 67108864)
theorem times_val (x0 x1 x2 x3 x4 y0 y1 y2 y3 y4 : Int) (R : List Int) (hx : (0 ≤ x0 ∧ x0 < 268435456) ∧ (0 ≤ x1 ∧ x1 < 268435456) ∧ (0 ≤ x2 ∧ x2 < 268435456) ∧ (0 ≤ x3 ∧ x3 < 268435456) ∧ (0 ≤ x4 ∧ x4 < 268435456)) (hy : Limb5 y0 y1 y2 y3 y4) :
    ∃ r0 r1 r2 r3 r4 q, timesL (x0 :: x1 :: x2 :: x3 :: x4 :: R) [y0, y1, y2, y3, y4] = r0 :: r1 :: r2 :: r3 :: r4 :: R ∧ Fold5 r0 r1 r2 r3 r4 ∧ V5 x0 x1 x2 x3 x4 * V5 y0 y1 y2 y3 y4 = V5 r0 r1 r2 r3 r4 + q * 1361129467683753853853498429727072845819 := by
  obtain ⟨hx0, hx1, hx2, hx3, hx4⟩ := hx
  obtain ⟨hy0, hy1, hy2, hy3, hy4⟩ := hy
  have hp := prod5 x0 x1 x2 x3 x4 y0 y1 y2 y3 y4
  have ho := outer5 x0 x1 x2 x3 x4 y0 y1 y2 y3 y4 R
  have m00 := mul_bd x0 y0 _ _ hx0 hy0
  have m01 := mul_bd x0 y1 _ _ hx0 hy1
  have m02 := mul_bd x0 y2 _ _ hx0 hy2
  have m03 := mul_bd x0 y3 _ _ hx0 hy3
  have m04 := mul_bd x0 y4 _ _ hx0 hy4
  have m10 := mul_bd x1 y0 _ _ hx1 hy0
  have m11 := mul_bd x1 y1 _ _ hx1 hy1
  have m12 := mul_bd x1 y2 _ _ hx1 hy2
  have m13 := mul_bd x1 y3 _ _ hx1 hy3
  have m14 := mul_bd x1 y4 _ _ hx1 hy4
  have m20 := mul_bd x2 y0 _ _ hx2 hy0
  have m21 := mul_bd x2 y1 _ _ hx2 hy1
  have m22 := mul_bd x2 y2 _ _ hx2 hy2
  have m23 := mul_bd x2 y3 _ _ hx2 hy3
  have m24 := mul_bd x2 y4 _ _ hx2 hy4
  have m30 := mul_bd x3 y0 _ _ hx3 hy0
  have m31 := mul_bd x3 y1 _ _ hx3 hy1
  have m32 := mul_bd x3 y2 _ _ hx3 hy2
  have m33 := mul_bd x3 y3 _ _ hx3 hy3
  have m34 := mul_bd x3 y4 _ _ hx3 hy4
  have m40 := mul_bd x4 y0 _ _ hx4 hy0
  have m41 := mul_bd x4 y1 _ _ hx4 hy1
  have m42 := mul_bd x4 y2 _ _ hx4 hy2
  have m43 := mul_bd x4 y3 _ _ hx4 hy3
  have m44 := mul_bd x4 y4 _ _ hx4 hy4
  simp only [Int.mul_assoc] at hp ho
  generalize x0 * y0 = a00 at *
  generalize x0 * y1 = a01 at *
  generalize x0 * y2 = a02 at *
  generalize x0 * y3 = a03 at *
  generalize x0 * y4 = a04 at *
  generalize x1 * y0 = a10 at *
  generalize x1 * y1 = a11 at *
  generalize x1 * y2 = a12 at *
  generalize x1 * y3 = a13 at *
  generalize x1 * y4 = a14 at *
  generalize x2 * y0 = a20 at *
  generalize x2 * y1 = a21 at *
  generalize x2 * y2 = a22 at *
  generalize x2 * y3 = a23 at *
  generalize x2 * y4 = a24 at *
  generalize x3 * y0 = a30 at *
  generalize x3 * y1 = a31 at *
  generalize x3 * y2 = a32 at *
  generalize x3 * y3 = a33 at *
  generalize x3 * y4 = a34 at *
  generalize x4 * y0 = a40 at *
  generalize x4 * y1 = a41 at *
  generalize x4 * y2 = a42 at *
  generalize x4 * y3 = a43 at *
  generalize x4 * y4 = a44 at *
  have e0 : (a00 + 5 * a14 + 5 * a23 + 5 * a32 + 5 * a41) % 18446744073709551616 = a00 + 5 * a14 + 5 * a23 + 5 * a32 + 5 * a41 := Int.emod_eq_of_lt (by omega) (by omega)
  have e1 : (a01 + a10 + 5 * a24 + 5 * a33 + 5 * a42) % 18446744073709551616 = a01 + a10 + 5 * a24 + 5 * a33 + 5 * a42 := Int.emod_eq_of_lt (by omega) (by omega)
  have e2 : (a02 + a11 + a20 + 5 * a34 + 5 * a43) % 18446744073709551616 = a02 + a11 + a20 + 5 * a34 + 5 * a43 := Int.emod_eq_of_lt (by omega) (by omega)
  have e3 : (a03 + a12 + a21 + a30 + 5 * a44) % 18446744073709551616 = a03 + a12 + a21 + a30 + 5 * a44 := Int.emod_eq_of_lt (by omega) (by omega)
  have e4 : (a04 + a13 + a22 + a31 + a40) % 18446744073709551616 = a04 + a13 + a22 + a31 + a40 := Int.emod_eq_of_lt (by omega) (by omega)
  rw [e0, e1, e2, e3, e4] at ho
  obtain ⟨r0, r1, r2, r3, r4, q, hf, b0, b1, b2, b3, b4, hv⟩ := fold5 (a00 + 5 * a14 + 5 * a23 + 5 * a32 + 5 * a41) (a01 + a10 + 5 * a24 + 5 * a33 + 5 * a42) (a02 + a11 + a20 + 5 * a34 + 5 * a43) (a03 + a12 + a21 + a30 + 5 * a44) (a04 + a13 + a22 + a31 + a40) R (by omega) (by omega) (by omega) (by omega) (by omega)
  refine ⟨r0, r1, r2, r3, r4, q + (a14 + (a23 + (a32 + a41)) + (a24 + (a33 + a42)) * 67108864 + (a34 + a43) * 4503599627370496 + a44 * 302231454903657293676544), ?_, ⟨b0, b1, b2, b3, b4⟩, ?_⟩
  · unfold timesL
    rw [ho]
    exact hf
  · rw [hp, hv]
    clear hp hv ho hf e0 e1 e2 e3 e4 m00 m01 m02 m03 m04 m10 m11 m12 m13 m14 m20 m21 m22 m23 m24 m30 m31 m32 m33 m34 m40 m41 m42 m43 m44 b0 b1 b2 b3 b4
    omega
theorem add_val (x0 x1 x2 x3 x4 m0 m1 m2 m3 m4 : Int) (R : List Int) : addK (x0 :: x1 :: x2 :: x3 :: x4 :: R) [m0, m1, m2, m3, m4] 5 = (x0 + m0) % 18446744073709551616 :: (x1 + m1) % 18446744073709551616 :: (x2 + m2) % 18446744073709551616 :: (x3 + m3) % 18446744073709551616 :: (x4 + m4) % 18446744073709551616 :: R := rfl
theorem or_join (x y : Int) (i : Nat) (hx0 : 0 ≤ x) (hx : x % 2 ^ i = 0) (hx1 : x < 18446744073709551616) (hy0 : 0 ≤ y) (hy : y < 2 ^ i) (hy1 : y < 18446744073709551616) : bits .or .u64 y x = x + y := by
  rw [bits_or_comm]
  exact bits_join .u64 64 (by decide) wraps_u64 i x y hx0 hx (by omega) hy0 hy (by omega)
theorem half_val (z0 z1 z2 z3 z4 z5 z6 z7 : Int) (R : List Int) (h0 : isB z0) (h1 : isB z1) (h2 : isB z2) (h3 : isB z3) (h4 : isB z4) (h5 : isB z5) (h6 : isB z6) (h7 : isB z7) :
    halfK (z0 :: z1 :: z2 :: z3 :: z4 :: z5 :: z6 :: z7 :: R) 8 = z0 + z1 * 256 + z2 * 65536 + z3 * 16777216 + z4 * 4294967296 + z5 * 1099511627776 + z6 * 281474976710656 + z7 * 72057594037927936 := by
  unfold isB at *
  have e : halfK (z0 :: z1 :: z2 :: z3 :: z4 :: z5 :: z6 :: z7 :: R) 8 = bits .or .u64 (bits .or .u64 (bits .or .u64 (bits .or .u64 (bits .or .u64 (bits .or .u64 (bits .or .u64 (bits .or .u64 0 (z0 % 18446744073709551616 * 1 % 18446744073709551616)) (z1 % 18446744073709551616 * 256 % 18446744073709551616)) (z2 % 18446744073709551616 * 65536 % 18446744073709551616)) (z3 % 18446744073709551616 * 16777216 % 18446744073709551616)) (z4 % 18446744073709551616 * 4294967296 % 18446744073709551616)) (z5 % 18446744073709551616 * 1099511627776 % 18446744073709551616)) (z6 % 18446744073709551616 * 281474976710656 % 18446744073709551616)) (z7 % 18446744073709551616 * 72057594037927936 % 18446744073709551616) := by
    simp [halfK]
  rw [e]
  have m0 : z0 % 18446744073709551616 * 1 % 18446744073709551616 = z0 := by omega
  have m1 : z1 % 18446744073709551616 * 256 % 18446744073709551616 = z1 * 256 := by omega
  have m2 : z2 % 18446744073709551616 * 65536 % 18446744073709551616 = z2 * 65536 := by omega
  have m3 : z3 % 18446744073709551616 * 16777216 % 18446744073709551616 = z3 * 16777216 := by omega
  have m4 : z4 % 18446744073709551616 * 4294967296 % 18446744073709551616 = z4 * 4294967296 := by omega
  have m5 : z5 % 18446744073709551616 * 1099511627776 % 18446744073709551616 = z5 * 1099511627776 := by omega
  have m6 : z6 % 18446744073709551616 * 281474976710656 % 18446744073709551616 = z6 * 281474976710656 := by omega
  have m7 : z7 % 18446744073709551616 * 72057594037927936 % 18446744073709551616 = z7 * 72057594037927936 := by omega
  rw [m0, m1, m2, m3, m4, m5, m6, m7]
  rw [or_join z0 0 0 (by omega) (by omega) (by omega) (by omega) (by omega) (by omega)]
  rw [or_join (z1 * 256) (z0 + 0) 8 (by omega) (by omega) (by omega) (by omega) (by omega) (by omega)]
  rw [or_join (z2 * 65536) _ 16 (by omega) (by omega) (by omega) (by omega) (by omega) (by omega)]
  rw [or_join (z3 * 16777216) _ 24 (by omega) (by omega) (by omega) (by omega) (by omega) (by omega)]
  rw [or_join (z4 * 4294967296) _ 32 (by omega) (by omega) (by omega) (by omega) (by omega) (by omega)]
  rw [or_join (z5 * 1099511627776) _ 40 (by omega) (by omega) (by omega) (by omega) (by omega) (by omega)]
  rw [or_join (z6 * 281474976710656) _ 48 (by omega) (by omega) (by omega) (by omega) (by omega) (by omega)]
  rw [or_join (z7 * 72057594037927936) _ 56 (by omega) (by omega) (by omega) (by omega) (by omega) (by omega)]
  omega
def N16 (z0 z1 z2 z3 z4 z5 z6 z7 y0 y1 y2 y3 y4 y5 y6 y7 : Int) : Int :=
  (z0 + z1 * 256 + z2 * 65536 + z3 * 16777216 + z4 * 4294967296 + z5 * 1099511627776 + z6 * 281474976710656 + z7 * 72057594037927936) + (y0 + y1 * 256 + y2 * 65536 + y3 * 16777216 + y4 * 4294967296 + y5 * 1099511627776 + y6 * 281474976710656 + y7 * 72057594037927936) * 18446744073709551616
theorem num_val (z0 z1 z2 z3 z4 z5 z6 z7 y0 y1 y2 y3 y4 y5 y6 y7 t : Int) (h0 : isB z0) (h1 : isB z1) (h2 : isB z2) (h3 : isB z3) (h4 : isB z4) (h5 : isB z5) (h6 : isB z6) (h7 : isB z7)
    (g0 : isB y0) (g1 : isB y1) (g2 : isB y2) (g3 : isB y3) (g4 : isB y4) (g5 : isB y5) (g6 : isB y6) (g7 : isB y7) (ht : 0 ≤ t ∧ t ≤ 1) :
    ∃ a b c d e, numL [z0, z1, z2, z3, z4, z5, z6, z7, y0, y1, y2, y3, y4, y5, y6, y7, t] = [a, b, c, d, e] ∧ Limb5 a b c d e ∧ V5 a b c d e = N16 z0 z1 z2 z3 z4 z5 z6 z7 y0 y1 y2 y3 y4 y5 y6 y7 + t * 340282366920938463463374607431768211456 := by
  have hA := half_val z0 z1 z2 z3 z4 z5 z6 z7 [y0, y1, y2, y3, y4, y5, y6, y7, t] h0 h1 h2 h3 h4 h5 h6 h7
  have hB := half_val y0 y1 y2 y3 y4 y5 y6 y7 [t] g0 g1 g2 g3 g4 g5 g6 g7
  have e : numL [z0, z1, z2, z3, z4, z5, z6, z7, y0, y1, y2, y3, y4, y5, y6, y7, t] = [bits .and .u64 (halfK [z0, z1, z2, z3, z4, z5, z6, z7, y0, y1, y2, y3, y4, y5, y6, y7, t] 8) 67108863, bits .and .u64 (halfK [z0, z1, z2, z3, z4, z5, z6, z7, y0, y1, y2, y3, y4, y5, y6, y7, t] 8 / 67108864) 67108863, bits .and .u64 (bits .or .u64 (halfK [z0, z1, z2, z3, z4, z5, z6, z7, y0, y1, y2, y3, y4, y5, y6, y7, t] 8 / 4503599627370496) (halfK [y0, y1, y2, y3, y4, y5, y6, y7, t] 8 * 4096 % 18446744073709551616)) 67108863, bits .and .u64 (halfK [y0, y1, y2, y3, y4, y5, y6, y7, t] 8 / 16384) 67108863, bits .or .u64 (halfK [y0, y1, y2, y3, y4, y5, y6, y7, t] 8 / 1099511627776) (t % 18446744073709551616 * 16777216 % 18446744073709551616)] := rfl
  rw [e, hA, hB]
  unfold N16
  have bA : 0 ≤ (z0 + z1 * 256 + z2 * 65536 + z3 * 16777216 + z4 * 4294967296 + z5 * 1099511627776 + z6 * 281474976710656 + z7 * 72057594037927936) ∧ (z0 + z1 * 256 + z2 * 65536 + z3 * 16777216 + z4 * 4294967296 + z5 * 1099511627776 + z6 * 281474976710656 + z7 * 72057594037927936) < 18446744073709551616 := by unfold isB at *; omega
  have bB : 0 ≤ (y0 + y1 * 256 + y2 * 65536 + y3 * 16777216 + y4 * 4294967296 + y5 * 1099511627776 + y6 * 281474976710656 + y7 * 72057594037927936) ∧ (y0 + y1 * 256 + y2 * 65536 + y3 * 16777216 + y4 * 4294967296 + y5 * 1099511627776 + y6 * 281474976710656 + y7 * 72057594037927936) < 18446744073709551616 := by unfold isB at *; omega
  generalize (z0 + z1 * 256 + z2 * 65536 + z3 * 16777216 + z4 * 4294967296 + z5 * 1099511627776 + z6 * 281474976710656 + z7 * 72057594037927936) = A at *
  generalize (y0 + y1 * 256 + y2 * 65536 + y3 * 16777216 + y4 * 4294967296 + y5 * 1099511627776 + y6 * 281474976710656 + y7 * 72057594037927936) = B at *
  clear hA hB e h0 h1 h2 h3 h4 h5 h6 h7 g0 g1 g2 g3 g4 g5 g6 g7
  have t1 : t % 18446744073709551616 * 16777216 % 18446744073709551616 = t * 16777216 := by omega
  have B1 : B * 4096 % 18446744073709551616 = B % 4503599627370496 * 4096 := by omega
  rw [t1, B1, or_join (t * 16777216) (B / 1099511627776) 24 (by omega) (by omega) (by omega) (by omega) (by omega) (by omega), or_join (B % 4503599627370496 * 4096) (A / 4503599627370496) 12 (by omega) (by omega) (by omega) (by omega) (by omega) (by omega), and26 A (by omega) (by omega), and26 (A / 67108864) (by omega) (by omega), and26 _ (by omega) (by omega), and26 (B / 16384) (by omega) (by omega)]
  refine ⟨_, _, _, _, _, rfl, ⟨by omega, by omega, by omega, by omega, by omega⟩, ?_⟩
  unfold V5
  omega
theorem take_val (x0 x1 x2 x3 x4 r0 r1 r2 r3 r4 : Int) (z0 z1 z2 z3 z4 z5 z6 z7 y0 y1 y2 y3 y4 y5 y6 y7 t : Int) (hx : Fold5 x0 x1 x2 x3 x4) (hr : Limb5 r0 r1 r2 r3 r4) (h0 : isB z0) (h1 : isB z1) (h2 : isB z2) (h3 : isB z3) (h4 : isB z4) (h5 : isB z5) (h6 : isB z6) (h7 : isB z7)
    (g0 : isB y0) (g1 : isB y1) (g2 : isB y2) (g3 : isB y3) (g4 : isB y4) (g5 : isB y5) (g6 : isB y6) (g7 : isB y7) (ht : 0 ≤ t ∧ t ≤ 1) :
    ∃ a b c d e q, takeL [x0, x1, x2, x3, x4, r0, r1, r2, r3, r4] [z0, z1, z2, z3, z4, z5, z6, z7, y0, y1, y2, y3, y4, y5, y6, y7, t] = [a, b, c, d, e, r0, r1, r2, r3, r4] ∧ Fold5 a b c d e ∧
      (V5 x0 x1 x2 x3 x4 + (N16 z0 z1 z2 z3 z4 z5 z6 z7 y0 y1 y2 y3 y4 y5 y6 y7 + t * 340282366920938463463374607431768211456)) * V5 r0 r1 r2 r3 r4 = V5 a b c d e + q * 1361129467683753853853498429727072845819 := by
  obtain ⟨m0, m1, m2, m3, m4, hn, hm, hv⟩ := num_val z0 z1 z2 z3 z4 z5 z6 z7 y0 y1 y2 y3 y4 y5 y6 y7 t h0 h1 h2 h3 h4 h5 h6 h7 g0 g1 g2 g3 g4 g5 g6 g7 ht
  have hm' := hm
  have hx' := hx
  unfold Limb5 at hm'
  unfold Fold5 at hx'
  have ha : addK [x0, x1, x2, x3, x4, r0, r1, r2, r3, r4] [m0, m1, m2, m3, m4] 5 = (x0 + m0) :: (x1 + m1) :: (x2 + m2) :: (x3 + m3) :: (x4 + m4) :: [r0, r1, r2, r3, r4] := by
    rw [add_val]
    rw [Int.emod_eq_of_lt (a := x0 + m0) (by omega) (by omega), Int.emod_eq_of_lt (a := x1 + m1) (by omega) (by omega), Int.emod_eq_of_lt (a := x2 + m2) (by omega) (by omega), Int.emod_eq_of_lt (a := x3 + m3) (by omega) (by omega), Int.emod_eq_of_lt (a := x4 + m4) (by omega) (by omega)]
  obtain ⟨a, b, c, d, e, q, ht', hf, hq⟩ := times_val (x0 + m0) (x1 + m1) (x2 + m2) (x3 + m3) (x4 + m4) r0 r1 r2 r3 r4 [r0, r1, r2, r3, r4] (by omega) hr
  refine ⟨a, b, c, d, e, q, ?_, hf, ?_⟩
  · have hd : ([x0, x1, x2, x3, x4, r0, r1, r2, r3, r4].drop 5).take 5 = [r0, r1, r2, r3, r4] := rfl
    unfold takeL
    rw [hd, hn, ha]
    exact ht'
  · have hs : V5 (x0 + m0) (x1 + m1) (x2 + m2) (x3 + m3) (x4 + m4) = V5 x0 x1 x2 x3 x4 + V5 m0 m1 m2 m3 m4 := by unfold V5; omega
    rw [← hq, hs, hv]
end Go.Proofs.YtlhajphjppjlgaaGreatDoor
namespace Go.Proofs.YtlhajphjppjlgaaGreatDoor
open Go
theorem u64n (x : Int) (h0 : 0 ≤ x) (h1 : x < 18446744073709551616) : ∃ n : Nat, x = n ∧ n < 18446744073709551616 := by
  obtain ⟨n, rfl⟩ := Int.eq_ofNat_of_zero_le h0
  exact ⟨n, rfl, by omega⟩
theorem or_zero64 (x : Int) (h0 : 0 ≤ x) (h1 : x < 18446744073709551616) : bits .or .u64 x 0 = x := by
  have := or_join 0 x 64 (by omega) (by omega) (by omega) h0 (by omega) h1
  rw [this]; omega
theorem zero_or64 (x : Int) (h0 : 0 ≤ x) (h1 : x < 18446744073709551616) : bits .or .u64 0 x = x := by rw [bits_or_comm]; exact or_zero64 x h0 h1
theorem and_zero64 (x : Int) (h0 : 0 ≤ x) (h1 : x < 18446744073709551616) : bits .and .u64 x 0 = 0 := by
  have := bits_mask .u64 64 (by decide) wraps_u64 0 (by omega) x h0 (by omega)
  simp at this
  simpa using this
theorem and_all64 (x : Int) (h0 : 0 ≤ x) (h1 : x < 18446744073709551616) : bits .and .u64 x 18446744073709551615 = x := by
  have := bits_mask .u64 64 (by decide) wraps_u64 64 (by omega) x h0 (by omega)
  have e : ((2 : Int) ^ 64 - 1) = 18446744073709551615 := by decide
  rw [e] at this
  rw [this]; omega
theorem andNot_zero64 (x : Int) (h0 : 0 ≤ x) (h1 : x < 18446744073709551616) : bits .andNot .u64 x 0 = x := by
  obtain ⟨n, rfl, hn⟩ := u64n x h0 h1
  have h1 : (BitVec.ofInt 64 (n : Int)).toNat = n := by rw [BitVec.ofInt_natCast, BitVec.toNat_ofNat]; exact Nat.mod_eq_of_lt (by omega)
  have h2 : BitVec.ofInt 64 (n : Int) &&& ~~~ (BitVec.ofInt 64 0) = BitVec.ofInt 64 (n : Int) := by
    have : ~~~ (BitVec.ofInt 64 0) = BitVec.allOnes 64 := by decide
    rw [this, BitVec.and_allOnes]
  show IntKind.u64.wrap ((BitVec.ofInt 64 (n : Int) &&& ~~~ (BitVec.ofInt 64 0)).toNat : Int) = _
  rw [h2, h1, IntKind.wrap_u64]
  omega
theorem andNot_all64 (x : Int) : bits .andNot .u64 x 18446744073709551615 = 0 := by
  have h2 : BitVec.ofInt 64 x &&& ~~~ (BitVec.ofInt 64 18446744073709551615) = 0#64 := by
    have : ~~~ (BitVec.ofInt 64 18446744073709551615) = 0#64 := by decide
    rw [this, BitVec.and_zero]
  show IntKind.u64.wrap ((BitVec.ofInt 64 x &&& ~~~ (BitVec.ofInt 64 18446744073709551615)).toNat : Int) = _
  rw [h2]; decide
theorem settle_val (x0 x1 x2 x3 x4 : Int) (R : List Int) (hx : Fold5 x0 x1 x2 x3 x4) :
    ∃ s0 s1 s2 s3 s4, settleL (x0 :: x1 :: x2 :: x3 :: x4 :: R) = s0 :: s1 :: s2 :: s3 :: s4 :: R ∧ Fold5 s0 s1 s2 s3 s4 ∧ V5 s0 s1 s2 s3 s4 = V5 x0 x1 x2 x3 x4 % 1361129467683753853853498429727072845819 := by
  have hx' := hx
  unfold Fold5 at hx'
  have h5 : (x0 + 5) % 18446744073709551616 = x0 + 5 := by omega
  obtain ⟨c0, c1, c2, c3, c4, hc, b0, b1, b2, b3, b4, hv⟩ := carry5 (x0 + 5) x1 x2 x3 x4 [] (by omega) (by omega) (by omega) (by omega) (by omega)
  have hl : lessL (x0 :: x1 :: x2 :: x3 :: x4 :: R) = [c0, c1, c2, c3, c4] := by
    have e : lessL (x0 :: x1 :: x2 :: x3 :: x4 :: R) = carryK [(x0 + 5) % 18446744073709551616, x1, x2, x3, x4] 4 := rfl
    rw [e, h5]; exact hc
  have hv2 : V5 c0 c1 c2 c3 c4 = V5 x0 x1 x2 x3 x4 + 5 := by rw [hv]; unfold V5; omega
  have hs : settleL (x0 :: x1 :: x2 :: x3 :: x4 :: R) = selK (x0 :: x1 :: x2 :: x3 :: x4 :: R) [c0, c1, c2, c3, bits .and .u64 c4 67108863] (IntKind.u64.wrap (-(c4 / 67108864))) 5 := by
    unfold settleL; rw [hl]; rfl
  have hc4 : c4 < 134217728 := by unfold V5 at hv2; omega
  rw [hs, and26 c4 (by omega) (by omega)]
  by_cases ho : c4 < 67108864
  · have hz : c4 / 67108864 = 0 := by omega
    have hw : IntKind.u64.wrap (-(0 : Int)) = 0 := by decide
    rw [hz, hw]
    refine ⟨x0, x1, x2, x3, x4, ?_, hx, ?_⟩
    · have e : selK (x0 :: x1 :: x2 :: x3 :: x4 :: R) [c0, c1, c2, c3, c4 % 67108864] 0 5 = bits .or .u64 (bits .andNot .u64 x0 0) (bits .and .u64 c0 0) :: bits .or .u64 (bits .andNot .u64 x1 0) (bits .and .u64 c1 0) :: bits .or .u64 (bits .andNot .u64 x2 0) (bits .and .u64 c2 0) :: bits .or .u64 (bits .andNot .u64 x3 0) (bits .and .u64 c3 0) :: bits .or .u64 (bits .andNot .u64 x4 0) (bits .and .u64 (c4 % 67108864) 0) :: R := rfl
      rw [e, andNot_zero64 x0 (by omega) (by omega), andNot_zero64 x1 (by omega) (by omega), andNot_zero64 x2 (by omega) (by omega), andNot_zero64 x3 (by omega) (by omega), andNot_zero64 x4 (by omega) (by omega), and_zero64 c0 (by omega) (by omega), and_zero64 c1 (by omega) (by omega), and_zero64 c2 (by omega) (by omega), and_zero64 c3 (by omega) (by omega), and_zero64 _ (by omega) (by omega), or_zero64 x0 (by omega) (by omega), or_zero64 x1 (by omega) (by omega), or_zero64 x2 (by omega) (by omega), or_zero64 x3 (by omega) (by omega), or_zero64 x4 (by omega) (by omega)]
    · symm
      apply Int.emod_eq_of_lt
      · unfold V5; omega
      · unfold V5 at hv2 ⊢; omega
  · have hz : c4 / 67108864 = 1 := by omega
    have hw : IntKind.u64.wrap (-(1 : Int)) = 18446744073709551615 := by decide
    rw [hz, hw]
    refine ⟨c0, c1, c2, c3, c4 % 67108864, ?_, ⟨b0, by omega, b2, b3, by omega⟩, ?_⟩
    · have e : selK (x0 :: x1 :: x2 :: x3 :: x4 :: R) [c0, c1, c2, c3, c4 % 67108864] 18446744073709551615 5 = bits .or .u64 (bits .andNot .u64 x0 18446744073709551615) (bits .and .u64 c0 18446744073709551615) :: bits .or .u64 (bits .andNot .u64 x1 18446744073709551615) (bits .and .u64 c1 18446744073709551615) :: bits .or .u64 (bits .andNot .u64 x2 18446744073709551615) (bits .and .u64 c2 18446744073709551615) :: bits .or .u64 (bits .andNot .u64 x3 18446744073709551615) (bits .and .u64 c3 18446744073709551615) :: bits .or .u64 (bits .andNot .u64 x4 18446744073709551615) (bits .and .u64 (c4 % 67108864) 18446744073709551615) :: R := rfl
      rw [e, andNot_all64, andNot_all64, andNot_all64, andNot_all64, andNot_all64, and_all64 c0 (by omega) (by omega), and_all64 c1 (by omega) (by omega), and_all64 c2 (by omega) (by omega), and_all64 c3 (by omega) (by omega), and_all64 _ (by omega) (by omega), zero_or64 c0 (by omega) (by omega), zero_or64 c1 (by omega) (by omega), zero_or64 c2 (by omega) (by omega), zero_or64 c3 (by omega) (by omega), zero_or64 _ (by omega) (by omega)]
    · have hV : V5 c0 c1 c2 c3 (c4 % 67108864) = V5 x0 x1 x2 x3 x4 - 1361129467683753853853498429727072845819 := by
        unfold V5 at hv2 ⊢; omega
      rw [hV]
      have h1 : 0 ≤ V5 x0 x1 x2 x3 x4 - 1361129467683753853853498429727072845819 := by rw [← hV]; unfold V5; omega
      have h2 : V5 x0 x1 x2 x3 x4 - 1361129467683753853853498429727072845819 < 1361129467683753853853498429727072845819 := by unfold V5; omega
      omega
def le16 (n : Int) : List Int := [n % 256, n / 256 % 256, n / 65536 % 256, n / 16777216 % 256, n / 4294967296 % 256, n / 1099511627776 % 256, n / 281474976710656 % 256, n / 72057594037927936 % 256, n / 18446744073709551616 % 256, n / 4722366482869645213696 % 256, n / 1208925819614629174706176 % 256, n / 309485009821345068724781056 % 256, n / 79228162514264337593543950336 % 256, n / 20282409603651670423947251286016 % 256, n / 5192296858534827628530496329220096 % 256, n / 1329227995784915872903807060280344576 % 256]
theorem lowest_val (c0 c1 c2 c3 c4 : Int) (R : List Int) (h0 : 0 ≤ c0 ∧ c0 < 67108864) (h1 : 0 ≤ c1 ∧ c1 < 67108864) (h2 : 0 ≤ c2 ∧ c2 < 67108864) (h3 : 0 ≤ c3 ∧ c3 < 67108864) (_h4 : 0 ≤ c4 ∧ c4 < 1152921504606846976) :
    lowestL (c0 :: c1 :: c2 :: c3 :: c4 :: R) = le16 (V5 c0 c1 c2 c3 c4) := by
  have e : lowestL (c0 :: c1 :: c2 :: c3 :: c4 :: R) = lowK (bits .or .u64 (bits .or .u64 c0 (c1 * 67108864 % 18446744073709551616)) (c2 * 4503599627370496 % 18446744073709551616)) (bits .or .u64 (bits .or .u64 (c2 / 4096) (c3 * 16384 % 18446744073709551616)) (c4 * 1099511627776 % 18446744073709551616)) 8 := rfl
  have m1 : c1 * 67108864 % 18446744073709551616 = c1 * 67108864 := by omega
  have m2 : c2 * 4503599627370496 % 18446744073709551616 = c2 % 4096 * 4503599627370496 := by omega
  have m3 : c3 * 16384 % 18446744073709551616 = c3 * 16384 := by omega
  have m4 : c4 * 1099511627776 % 18446744073709551616 = c4 % 16777216 * 1099511627776 := by omega
  rw [e, m1, m2, m3, m4, or_join (c1 * 67108864) c0 26 (by omega) (by omega) (by omega) (by omega) (by omega) (by omega), or_join (c2 % 4096 * 4503599627370496) _ 52 (by omega) (by omega) (by omega) (by omega) (by omega) (by omega), or_join (c3 * 16384) (c2 / 4096) 14 (by omega) (by omega) (by omega) (by omega) (by omega) (by omega), or_join (c4 % 16777216 * 1099511627776) _ 40 (by omega) (by omega) (by omega) (by omega) (by omega) (by omega)]
  have hN : ∃ q, V5 c0 c1 c2 c3 c4 = (c2 % 4096 * 4503599627370496 + (c1 * 67108864 + c0)) + (c4 % 16777216 * 1099511627776 + (c3 * 16384 + c2 / 4096)) * 18446744073709551616 + q * 340282366920938463463374607431768211456 := ⟨c4 / 16777216, by unfold V5; omega⟩
  obtain ⟨q, hN⟩ := hN
  have bl : 0 ≤ c2 % 4096 * 4503599627370496 + (c1 * 67108864 + c0) ∧ c2 % 4096 * 4503599627370496 + (c1 * 67108864 + c0) < 18446744073709551616 := by omega
  have bh : 0 ≤ c4 % 16777216 * 1099511627776 + (c3 * 16384 + c2 / 4096) ∧ c4 % 16777216 * 1099511627776 + (c3 * 16384 + c2 / 4096) < 18446744073709551616 := by omega
  rw [hN]
  generalize c2 % 4096 * 4503599627370496 + (c1 * 67108864 + c0) = lo at *
  generalize c4 % 16777216 * 1099511627776 + (c3 * 16384 + c2 / 4096) = hi at *
  have eL : lowK lo hi 8 = [lo % 256, lo / 256 % 256, lo / 65536 % 256, lo / 16777216 % 256, lo / 4294967296 % 256, lo / 1099511627776 % 256, lo / 281474976710656 % 256, lo / 72057594037927936 % 256, hi % 256, hi / 256 % 256, hi / 65536 % 256, hi / 16777216 % 256, hi / 4294967296 % 256, hi / 1099511627776 % 256, hi / 281474976710656 % 256, hi / 72057594037927936 % 256] := by
    simp [lowK]
  rw [eL]
  unfold le16
  clear e m1 m2 m3 m4 hN eL h0 h1 h2 h3
  simp only [List.cons.injEq, and_true]
  refine ⟨by omega, by omega, by omega, by omega, by omega, by omega, by omega, by omega, by omega, by omega, by omega, by omega, by omega, by omega, by omega, by omega⟩
theorem tag_val (x0 x1 x2 x3 x4 : Int) (R : List Int) (z0 z1 z2 z3 z4 z5 z6 z7 y0 y1 y2 y3 y4 y5 y6 y7 : Int) (hx : Fold5 x0 x1 x2 x3 x4) (h0 : isB z0) (h1 : isB z1) (h2 : isB z2) (h3 : isB z3) (h4 : isB z4) (h5 : isB z5) (h6 : isB z6) (h7 : isB z7)
    (g0 : isB y0) (g1 : isB y1) (g2 : isB y2) (g3 : isB y3) (g4 : isB y4) (g5 : isB y5) (g6 : isB y6) (g7 : isB y7) :
    tagOfL (x0 :: x1 :: x2 :: x3 :: x4 :: R) [z0, z1, z2, z3, z4, z5, z6, z7, y0, y1, y2, y3, y4, y5, y6, y7] = le16 (V5 x0 x1 x2 x3 x4 % 1361129467683753853853498429727072845819 + N16 z0 z1 z2 z3 z4 z5 z6 z7 y0 y1 y2 y3 y4 y5 y6 y7) := by
  obtain ⟨s0, s1, s2, s3, s4, hs, hsf, hsv⟩ := settle_val x0 x1 x2 x3 x4 R hx
  obtain ⟨m0, m1, m2, m3, m4, hn, hm, hv⟩ := num_val z0 z1 z2 z3 z4 z5 z6 z7 y0 y1 y2 y3 y4 y5 y6 y7 0 h0 h1 h2 h3 h4 h5 h6 h7 g0 g1 g2 g3 g4 g5 g6 g7 (by omega)
  have hm' := hm
  have hs' := hsf
  unfold Limb5 at hm'
  unfold Fold5 at hs'
  have ha : addK (s0 :: s1 :: s2 :: s3 :: s4 :: R) [m0, m1, m2, m3, m4] 5 = (s0 + m0) :: (s1 + m1) :: (s2 + m2) :: (s3 + m3) :: (s4 + m4) :: R := by
    rw [add_val]
    rw [Int.emod_eq_of_lt (a := s0 + m0) (by omega) (by omega), Int.emod_eq_of_lt (a := s1 + m1) (by omega) (by omega), Int.emod_eq_of_lt (a := s2 + m2) (by omega) (by omega), Int.emod_eq_of_lt (a := s3 + m3) (by omega) (by omega), Int.emod_eq_of_lt (a := s4 + m4) (by omega) (by omega)]
  obtain ⟨c0, c1, c2, c3, c4, hc, b0, b1, b2, b3, b4, hcv⟩ := carry5 (s0 + m0) (s1 + m1) (s2 + m2) (s3 + m3) (s4 + m4) R (by omega) (by omega) (by omega) (by omega) (by omega)
  have hap : [z0, z1, z2, z3, z4, z5, z6, z7, y0, y1, y2, y3, y4, y5, y6, y7] ++ [(0 : Int)] = [z0, z1, z2, z3, z4, z5, z6, z7, y0, y1, y2, y3, y4, y5, y6, y7, 0] := rfl
  unfold tagOfL
  rw [hs, hap, hn, ha, hc, lowest_val c0 c1 c2 c3 c4 R b0 b1 b2 b3 (by omega), hcv]
  have hsum : V5 (s0 + m0) (s1 + m1) (s2 + m2) (s3 + m3) (s4 + m4) = V5 s0 s1 s2 s3 s4 + V5 m0 m1 m2 m3 m4 := by unfold V5; omega
  rw [hsum, hsv, hv, Int.zero_mul, Int.add_zero]
end Go.Proofs.YtlhajphjppjlgaaGreatDoor
