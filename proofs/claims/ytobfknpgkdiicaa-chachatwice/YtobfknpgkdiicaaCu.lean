/- A quarter of a round can be undone (the statement ChachaUndo), walked. -/
import Derived.Test.YtobfknpgkdiicaaCq
namespace Go.Proofs.Ytobfknpgkdiicaa
open Go.RowKit

def U32 (x : Int) : Prop := 0 ≤ x ∧ x ≤ 4294967295

theorem bits_xor_nat (a b : Nat) (ha : a < 4294967296) (hb : b < 4294967296) : bits .xor .u32 (a : Int) (b : Int) = ((a ^^^ b : Nat) : Int) := by
  show IntKind.u32.wrap ((BitVec.ofInt 32 (a : Int) ^^^ BitVec.ofInt 32 (b : Int)).toNat : Int) = _
  rw [BitVec.toNat_xor, BitVec.toNat_ofInt, BitVec.toNat_ofInt]
  have e1 : ((a : Int) % (2 ^ 32 : Nat)).toNat = a := by simp; omega
  have e2 : ((b : Int) % (2 ^ 32 : Nat)).toNat = b := by simp; omega
  have hx : a ^^^ b < 2 ^ 32 := Nat.xor_lt_two_pow ha hb
  rw [e1, e2]
  simp [IntKind.wrap, IntKind.bits, IntKind.signed]
  omega
theorem bits_or_nat (a b : Nat) (ha : a < 4294967296) (hb : b < 4294967296) : bits .or .u32 (a : Int) (b : Int) = ((a ||| b : Nat) : Int) := by
  show IntKind.u32.wrap ((BitVec.ofInt 32 (a : Int) ||| BitVec.ofInt 32 (b : Int)).toNat : Int) = _
  rw [BitVec.toNat_or, BitVec.toNat_ofInt, BitVec.toNat_ofInt]
  have e1 : ((a : Int) % (2 ^ 32 : Nat)).toNat = a := by simp; omega
  have e2 : ((b : Int) % (2 ^ 32 : Nat)).toNat = b := by simp; omega
  have hx : a ||| b < 2 ^ 32 := Nat.or_lt_two_pow ha hb
  rw [e1, e2]
  simp [IntKind.wrap, IntKind.bits, IntKind.signed]
  omega
theorem U32.nat {x : Int} (h : U32 x) : ∃ n : Nat, n < 4294967296 ∧ x = n := ⟨x.toNat, by have := h.1; have := h.2; omega, by have := h.1; omega⟩
theorem xor_u32 {x y : Int} (hx : U32 x) (hy : U32 y) : U32 (bits .xor .u32 x y) := by
  obtain ⟨a, ha, rfl⟩ := hx.nat
  obtain ⟨b, hb, rfl⟩ := hy.nat
  rw [bits_xor_nat a b ha hb]
  have hx : a ^^^ b < 2 ^ 32 := Nat.xor_lt_two_pow ha hb
  exact ⟨by omega, by omega⟩
theorem xor_back {x y : Int} (hx : U32 x) (hy : U32 y) : bits .xor .u32 (bits .xor .u32 x y) y = x := by
  obtain ⟨a, ha, rfl⟩ := hx.nat
  obtain ⟨b, hb, rfl⟩ := hy.nat
  have hlt : a ^^^ b < 2 ^ 32 := Nat.xor_lt_two_pow ha hb
  rw [bits_xor_nat a b ha hb, bits_xor_nat _ b hlt hb, Nat.xor_assoc, Nat.xor_self, Nat.xor_zero]
/-- Turned left: what stands in the way below, and what comes up. -/
theorem rl_sum (n : Nat) (hn : n ≤ 32) (x : Int) (hx : U32 x) : rl n x = x % 2 ^ (32 - n) * 2 ^ n + x / 2 ^ (32 - n) := by
  obtain ⟨a, ha, rfl⟩ := hx.nat
  have hp : 2 ^ (32 - n) * 2 ^ n = 4294967296 := by rw [← Nat.pow_add, show 32 - n + n = 32 by omega]
  have e1 : (a : Int) * 2 ^ n % 4294967296 = ((a * 2 ^ n % 4294967296 : Nat) : Int) := by simp only [Int.natCast_emod, Int.natCast_mul, Int.natCast_pow]; rfl
  have e2 : (a : Int) / 2 ^ (32 - n) = ((a / 2 ^ (32 - n) : Nat) : Int) := by push_cast; rfl
  have e3 : (a : Int) % 2 ^ (32 - n) * 2 ^ n = ((a % 2 ^ (32 - n) * 2 ^ n : Nat) : Int) := by push_cast; rfl
  have h1 : a * 2 ^ n % 4294967296 = a % 2 ^ (32 - n) * 2 ^ n := by rw [← hp, Nat.mul_mod_mul_right]
  have h2 : a / 2 ^ (32 - n) < 2 ^ n := by
    rw [Nat.div_lt_iff_lt_mul (Nat.two_pow_pos _), Nat.mul_comm, hp]; exact ha
  have h3 : a / 2 ^ (32 - n) < 4294967296 := Nat.lt_of_le_of_lt (Nat.div_le_self _ _) ha
  unfold rl
  rw [e1, e2, e3, bits_or_nat _ _ (Nat.mod_lt _ (by omega)) h3, h1]
  have := Nat.shiftLeft_add_eq_or_of_lt h2 (a % 2 ^ (32 - n))
  rw [Nat.shiftLeft_eq] at this
  rw [← this]
  push_cast; rfl
theorem rl_u32 (n : Nat) (hn : n ≤ 32) {x : Int} (hx : U32 x) : U32 (rl n x) := by
  rw [rl_sum n hn x hx]
  obtain ⟨a, ha, rfl⟩ := hx.nat
  have hp : 2 ^ (32 - n) * 2 ^ n = 4294967296 := by rw [← Nat.pow_add, show 32 - n + n = 32 by omega]
  have h2 : a / 2 ^ (32 - n) < 2 ^ n := by
    rw [Nat.div_lt_iff_lt_mul (Nat.two_pow_pos _), Nat.mul_comm, hp]; exact ha
  have h1 : a % 2 ^ (32 - n) < 2 ^ (32 - n) := Nat.mod_lt _ (Nat.two_pow_pos _)
  have h4 : (a % 2 ^ (32 - n) + 1) * 2 ^ n ≤ 4294967296 := by rw [← hp]; exact Nat.mul_le_mul_right _ h1
  rw [Nat.add_mul, Nat.one_mul] at h4
  have e : (a : Int) % 2 ^ (32 - n) * 2 ^ n + (a : Int) / 2 ^ (32 - n) = ((a % 2 ^ (32 - n) * 2 ^ n + a / 2 ^ (32 - n) : Nat) : Int) := by push_cast; rfl
  rw [e]
  have h5 : a % 2 ^ (32 - n) * 2 ^ n + a / 2 ^ (32 - n) < 4294967296 := by omega
  generalize a % 2 ^ (32 - n) * 2 ^ n + a / 2 ^ (32 - n) = m at h5
  exact ⟨by omega, by omega⟩
theorem rl_back16 {x : Int} (hx : U32 x) : rl 16 (rl 16 x) = x := by
  rw [rl_sum 16 (by omega) _ (rl_u32 16 (by omega) hx), rl_sum 16 (by omega) x hx]
  have := hx.1; have := hx.2; simp only [Nat.reduceSub, Int.reducePow]; omega
theorem rl_back12 {x : Int} (hx : U32 x) : rl 20 (rl 12 x) = x := by
  rw [rl_sum 20 (by omega) _ (rl_u32 12 (by omega) hx), rl_sum 12 (by omega) x hx]
  have := hx.1; have := hx.2; simp only [Nat.reduceSub, Int.reducePow]; omega
theorem rl_back8 {x : Int} (hx : U32 x) : rl 24 (rl 8 x) = x := by
  rw [rl_sum 24 (by omega) _ (rl_u32 8 (by omega) hx), rl_sum 8 (by omega) x hx]
  have := hx.1; have := hx.2; simp only [Nat.reduceSub, Int.reducePow]; omega
theorem rl_back7 {x : Int} (hx : U32 x) : rl 25 (rl 7 x) = x := by
  rw [rl_sum 25 (by omega) _ (rl_u32 7 (by omega) hx), rl_sum 7 (by omega) x hx]
  have := hx.1; have := hx.2; simp only [Nat.reduceSub, Int.reducePow]; omega
theorem mod_u32 (x : Int) : U32 (x % 4294967296) := ⟨by omega, by omega⟩

theorem left3_any (x n : Int) (w : World) (hn : lefN n) :
    Calls Try.prog 12 #[.int .u32 x, .int .i64 n] w fun e w' => e = .returned (.int .u32 (rl n.toNat x)) ∧ ∃ q, w' = w.drewN q := by
  rcases hn with rfl | rfl | rfl | rfl | rfl | rfl | rfl
  all_goals
    go_enter Try.func12, Try.ntmps12
    go_wp2
    go_quiet ((fail))
    go_wp2
    go_ret
    exact ⟨ret_u32 rfl, _, rfl⟩

set_option maxHeartbeats 1000000 in
theorem undo_walk (a b c d : Int) (w : World) (ha : U32 a) (hb : U32 b) (hc : U32 c) (hd : U32 d) :
    Calls Try.prog 4 #[.agg #[.int .u32 a, .int .u32 b, .int .u32 c, .int .u32 d]] w fun e w' => e = .returned (.bool true) ∧ Below w.heap.size w w' := by
  have h1 := fun wx => quarter_any a b c d wx
  have u1 : U32 (qd1 a b d) := rl_u32 16 (by omega) (xor_u32 hd (mod_u32 _))
  have v1 : U32 (qc1 a b c d) := mod_u32 _
  have u2 : U32 (qb1 a b c d) := rl_u32 12 (by omega) (xor_u32 hb v1)
  have v2 : U32 (qa2 a b c d) := mod_u32 _
  have u3 : U32 (qd2 a b c d) := rl_u32 8 (by omega) (xor_u32 u1 v2)
  have v3 : U32 (qc2 a b c d) := mod_u32 _
  have s1 : bits .xor .u32 (rl 25 (qb2 a b c d)) (qc2 a b c d) = qb1 a b c d := by
    unfold qb2; rw [rl_back7 (xor_u32 u2 v3), xor_back u2 v3]
  have s2 : (qc2 a b c d - qd2 a b c d) % 4294967296 = qc1 a b c d := by
    unfold qc2 qc1; omega
  have s3 : bits .xor .u32 (rl 24 (qd2 a b c d)) (qa2 a b c d) = qd1 a b d := by
    unfold qd2; rw [rl_back8 (xor_u32 u1 v2), xor_back u1 v2]
  have s4 : (qa2 a b c d - qb1 a b c d) % 4294967296 = (a + b) % 4294967296 := by
    unfold qa2; omega
  have s5 : bits .xor .u32 (rl 20 (qb1 a b c d)) (qc1 a b c d) = b := by
    unfold qb1; rw [rl_back12 (xor_u32 hb v1), xor_back hb v1]
  have s6 : (qc1 a b c d - qd1 a b d) % 4294967296 = c := by
    have := hc.1; have := hc.2; unfold qc1; omega
  have s7 : bits .xor .u32 (rl 16 (qd1 a b d)) ((a + b) % 4294967296) = d := by
    unfold qd1; rw [rl_back16 (xor_u32 hd (mod_u32 _)), xor_back hd (mod_u32 _)]
  have s8 : ((a + b) % 4294967296 - b) % 4294967296 = a := by
    have := ha.1; have := ha.2; omega
  have l25 := fun wx => left3_any (qb2 a b c d) 25 wx (.inr (.inr (.inr (.inr (.inr (.inr rfl))))))
  have l24 := fun wx => left3_any (qd2 a b c d) 24 wx (.inr (.inr (.inr (.inr (.inr (.inl rfl))))))
  have l20 := fun wx => left3_any (qb1 a b c d) 20 wx (.inr (.inr (.inr (.inr (.inl rfl)))))
  have l16 := fun wx => left3_any (qd1 a b d) 16 wx (.inl rfl)
  have hE : ∀ wx, (Op.equalIn 10000 23 (.agg #[.int .u32 a, .int .u32 b, .int .u32 c, .int .u32 d]) (.agg #[.int .u32 a, .int .u32 b, .int .u32 c, .int .u32 d])).run Try.prog wx = .ok true wx := fun wx => by
    have := run_equalIn_rows (P := Try.prog) wx 9998 .u32 [a, b, c, d] [a, b, c, d] Try.underlying23 Try.underlying22 (by kernel_rfl) (by kernel_rfl) rfl rfl
    rw [beq_self_eq_true] at this
    exact this
  have q : qr a b c d = (qa2 a b c d, qb2 a b c d, qc2 a b c d, qd2 a b c d) := rfl
  obtain ⟨A1, hA1⟩ : ∃ x, (a + b) % 4294967296 = x := ⟨_, rfl⟩
  obtain ⟨A2, hA2⟩ : ∃ x, qa2 a b c d = x := ⟨_, rfl⟩
  obtain ⟨B1, hB1⟩ : ∃ x, qb1 a b c d = x := ⟨_, rfl⟩
  obtain ⟨B2, hB2⟩ : ∃ x, qb2 a b c d = x := ⟨_, rfl⟩
  obtain ⟨C1, hC1⟩ : ∃ x, qc1 a b c d = x := ⟨_, rfl⟩
  obtain ⟨C2, hC2⟩ : ∃ x, qc2 a b c d = x := ⟨_, rfl⟩
  obtain ⟨D1, hD1⟩ : ∃ x, qd1 a b d = x := ⟨_, rfl⟩
  obtain ⟨D2, hD2⟩ : ∃ x, qd2 a b c d = x := ⟨_, rfl⟩
  rw [hA2, hB2, hC2, hD2] at q
  rw [hB2, hC2, hB1] at s1
  rw [hC2, hD2, hC1] at s2
  rw [hD2, hA2, hD1] at s3
  rw [hA2, hB1, hA1] at s4
  rw [hB1, hC1] at s5
  rw [hC1, hD1] at s6
  rw [hD1, hA1] at s7
  rw [hA1] at s8
  rw [q] at h1
  rw [hB2] at l25
  rw [hD2] at l24
  rw [hB1] at l20
  rw [hD1] at l16
  clear hA1 hA2 hB1 hB2 hC1 hC2 hD1 hD2 q u1 u2 u3 v1 v2 v3
  go_enter Try.func4, Try.ntmps4
  go_wp2_with (first
    | (go_at_call 9; refine (h1 _).mono ?_; rintro e w' ⟨rfl, rfl⟩)
    | (go_at_call 12; with_reducible refine (l25 _).mono ?_; rintro e w' ⟨rfl, q1, rfl⟩)
    | (go_at_call 12; with_reducible refine (l24 _).mono ?_; rintro e w' ⟨rfl, q2, rfl⟩)
    | (go_at_call 12; with_reducible refine (l20 _).mono ?_; rintro e w' ⟨rfl, q3, rfl⟩)
    | (go_at_call 12; with_reducible refine (l16 _).mono ?_; rintro e w' ⟨rfl, q4, rfl⟩)
    | (go_at_call 11; refine (live_any _).mono ?_; rintro e w' ⟨rfl, rfl⟩))
  go_ret
  exact ⟨rfl, below_drewN ((Below.refl _ _).alloc (Nat.le_refl _) _) _⟩
theorem four {l : List Int} (h : l.length = 4) : ∃ a b c d, l = [a, b, c, d] := by
  match l, h with
  | [a, b, c, d], _ => exact ⟨a, b, c, d, rfl⟩
theorem quarters_row (l : List Int) (w : World) (h : l.length = 4) :
    Calls Try.prog 3 #[.agg (row .u32 l)] w fun e w' => e = .returned (.bool true) ∧ Below w.heap.size w w' := by
  obtain ⟨a, b, c, d, rfl⟩ := four h
  exact quarters_walk a b c d w
theorem bounds32 {v : Int} (h : (Lit.int .u32 v).wf = true) : U32 v := by
  simp [Lit.wf, IntKind.min, IntKind.max, IntKind.bits, IntKind.signed] at h
  exact ⟨h.1, by omega⟩
theorem undo_row (l : List Int) (w : World) (h : l.length = 4) (hu : ∀ x ∈ l, (Lit.int .u32 x).wf = true) :
    Calls Try.prog 4 #[.agg (row .u32 l)] w fun e w' => e = .returned (.bool true) ∧ Below w.heap.size w w' := by
  obtain ⟨a, b, c, d, rfl⟩ := four h
  exact undo_walk a b c d w (bounds32 (hu a (by simp))) (bounds32 (hu b (by simp))) (bounds32 (hu c (by simp))) (bounds32 (hu d (by simp)))
end Go.Proofs.Ytobfknpgkdiicaa
