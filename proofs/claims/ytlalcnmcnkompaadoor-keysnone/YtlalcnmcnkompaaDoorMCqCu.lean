/- A quarter of a round, as the program and the reference have it. A quarter of a round can be undone (the statement ChachaUndo), walked. -/
import Derived.Test.YtlalcnmcnkompaaDoorMBaseKGk
namespace Go.Proofs.YtlalcnmcnkompaaDoor
open Go.RowKit

theorem ret_u32 {a b : Int} (h : a = b) : Ending.returned (.int .u32 a) = .returned (.int .u32 b) := by rw [h]

/-- A number of 32 bits turned left by n. -/
def rl (n : Nat) (x : Int) : Int := bits .or .u32 (x * 2 ^ n % 4294967296) (x / 2 ^ (32 - n))

def rotN (n : Int) : Prop := n = 16 ∨ n = 12 ∨ n = 8 ∨ n = 7

theorem rot_any (x n : Int) (w : World) (hn : rotN n) :
    Calls Tryd.prog 94 #[.int .u32 x, .int .i64 n] w fun e w' => e = .returned (.int .u32 (rl n.toNat x)) ∧ w' = w := by
  have h16 : bits BinOp.and IntKind.u64 16 31 = 16 := by decide
  have h12 : bits BinOp.and IntKind.u64 12 31 = 12 := by decide
  have h8 : bits BinOp.and IntKind.u64 8 31 = 8 := by decide
  have h7 : bits BinOp.and IntKind.u64 7 31 = 7 := by decide
  rcases hn with rfl | rfl | rfl | rfl
  all_goals
    go_enter Tryd.func94, Tryd.ntmps94
    go_wp2
    go_ret
    exact ⟨ret_u32 rfl, rfl⟩

def lefN (n : Int) : Prop := n = 16 ∨ n = 12 ∨ n = 8 ∨ n = 7 ∨ n = 20 ∨ n = 24 ∨ n = 25
theorem drewN_drewN (w : World) (m n : Nat) : (w.drewN m).drewN n = w.drewN (m + n) := by
  induction n with
  | zero => rfl
  | succ n ih => show ((w.drewN m).drewN n).drew = (w.drewN (m + n)).drew; rw [ih]

def qd1 (a b d : Int) : Int := rl 16 (bits .xor .u32 d ((a + b) % 4294967296))
def qc1 (a b c d : Int) : Int := (c + qd1 a b d) % 4294967296
def qb1 (a b c d : Int) : Int := rl 12 (bits .xor .u32 b (qc1 a b c d))
def qa2 (a b c d : Int) : Int := (a + b + qb1 a b c d) % 4294967296
def qd2 (a b c d : Int) : Int := rl 8 (bits .xor .u32 (qd1 a b d) (qa2 a b c d))
def qc2 (a b c d : Int) : Int := (c + qd1 a b d + qd2 a b c d) % 4294967296
def qb2 (a b c d : Int) : Int := rl 7 (bits .xor .u32 (qb1 a b c d) (qc2 a b c d))
/-- A quarter of a round. -/
def qr (a b c d : Int) : Int × Int × Int × Int := (qa2 a b c d, qb2 a b c d, qc2 a b c d, qd2 a b c d)

theorem results_tmp4 {fn : Func} {t u v x : Tmp} (h : fn.results = #[.tmp t, .tmp u, .tmp v, .tmp x]) (tmps : Array Value) (P : Program) (w : World) :
    (results fn tmps).run P w = .ok (.tuple #[tmps.getD t undef, tmps.getD u undef, tmps.getD v undef, tmps.getD x undef]) w := by
  simp [results, h, go_sem]
theorem quarter_any (a b c d : Int) (w : World) :
    Calls Tryd.prog 79 #[.int .u32 a, .int .u32 b, .int .u32 c, .int .u32 d] w fun e w' => e = .returned (.tuple #[.int .u32 (qr a b c d).1, .int .u32 (qr a b c d).2.1, .int .u32 (qr a b c d).2.2.1, .int .u32 (qr a b c d).2.2.2]) ∧ w' = w := by
  have r16 := fun x wx => rot_any x 16 wx (.inl rfl)
  have r12 := fun x wx => rot_any x 12 wx (.inr (.inl rfl))
  have r8 := fun x wx => rot_any x 8 wx (.inr (.inr (.inl rfl)))
  have r7 := fun x wx => rot_any x 7 wx (.inr (.inr (.inr rfl)))
  go_enter Tryd.func79, Tryd.ntmps79
  go_wp2_with (go_at_call 94; first | (with_reducible refine (r16 _ _).mono ?_; rintro e w' ⟨rfl, rfl⟩) | (with_reducible refine (r12 _ _).mono ?_; rintro e w' ⟨rfl, rfl⟩) | (with_reducible refine (r8 _ _).mono ?_; rintro e w' ⟨rfl, rfl⟩) | (with_reducible refine (r7 _ _).mono ?_; rintro e w' ⟨rfl, rfl⟩))
  refine bodyPost_ret (results_tmp4 Tryd.results79 _ _ _) rfl ?_
  exact ⟨rfl, rfl⟩

end Go.Proofs.YtlalcnmcnkompaaDoor

namespace Go.Proofs.YtlalcnmcnkompaaDoor
open Go.RowKit

def U32 (x : Int) : Prop := 0 ≤ x ∧ x ≤ 4294967295

theorem bits_xor_nat (a b : Nat) (ha : a < 4294967296) (hb : b < 4294967296) : bits .xor .u32 (a : Int) (b : Int) = ((a ^^^ b : Nat) : Int) := by
  show IntKind.u32.wrap ((BitVec.ofInt 32 (a : Int) ^^^ BitVec.ofInt 32 (b : Int)).toNat : Int) = _
  rw [BitVec.toNat_xor, BitVec.toNat_ofInt, BitVec.toNat_ofInt]
  have e1 : ((a : Int) % (2 ^ 32 : Nat)).toNat = a := by simp; omega
  have e2 : ((b : Int) % (2 ^ 32 : Nat)).toNat = b := by simp; omega
  have hx : a ^^^ b < 2 ^ 32 := Nat.xor_lt_two_pow ha hb
  rw [e1, e2]
  simp [IntKind.wrap, IntKind.bits, IntKind.signed]
  omega
theorem bits_or_nat (a b : Nat) (ha : a < 4294967296) (hb : b < 4294967296) : bits .or .u32 (a : Int) (b : Int) = ((a ||| b : Nat) : Int) := by
  show IntKind.u32.wrap ((BitVec.ofInt 32 (a : Int) ||| BitVec.ofInt 32 (b : Int)).toNat : Int) = _
  rw [BitVec.toNat_or, BitVec.toNat_ofInt, BitVec.toNat_ofInt]
  have e1 : ((a : Int) % (2 ^ 32 : Nat)).toNat = a := by simp; omega
  have e2 : ((b : Int) % (2 ^ 32 : Nat)).toNat = b := by simp; omega
  have hx : a ||| b < 2 ^ 32 := Nat.or_lt_two_pow ha hb
  rw [e1, e2]
  simp [IntKind.wrap, IntKind.bits, IntKind.signed]
  omega
theorem U32.nat {x : Int} (h : U32 x) : ∃ n : Nat, n < 4294967296 ∧ x = n := ⟨x.toNat, by have := h.1; have := h.2; omega, by have := h.1; omega⟩
theorem xor_u32 {x y : Int} (hx : U32 x) (hy : U32 y) : U32 (bits .xor .u32 x y) := by
  obtain ⟨a, ha, rfl⟩ := hx.nat
  obtain ⟨b, hb, rfl⟩ := hy.nat
  rw [bits_xor_nat a b ha hb]
  have hx : a ^^^ b < 2 ^ 32 := Nat.xor_lt_two_pow ha hb
  exact ⟨by omega, by omega⟩
theorem xor_back {x y : Int} (hx : U32 x) (hy : U32 y) : bits .xor .u32 (bits .xor .u32 x y) y = x := by
  obtain ⟨a, ha, rfl⟩ := hx.nat
  obtain ⟨b, hb, rfl⟩ := hy.nat
  have hlt : a ^^^ b < 2 ^ 32 := Nat.xor_lt_two_pow ha hb
  rw [bits_xor_nat a b ha hb, bits_xor_nat _ b hlt hb, Nat.xor_assoc, Nat.xor_self, Nat.xor_zero]
/-- Turned left: what stands in the way below, and what comes up. -/
theorem rl_sum (n : Nat) (hn : n ≤ 32) (x : Int) (hx : U32 x) : rl n x = x % 2 ^ (32 - n) * 2 ^ n + x / 2 ^ (32 - n) := by
  obtain ⟨a, ha, rfl⟩ := hx.nat
  have hp : 2 ^ (32 - n) * 2 ^ n = 4294967296 := by rw [← Nat.pow_add, show 32 - n + n = 32 by omega]
  have e1 : (a : Int) * 2 ^ n % 4294967296 = ((a * 2 ^ n % 4294967296 : Nat) : Int) := by simp only [Int.natCast_emod, Int.natCast_mul, Int.natCast_pow]; rfl
  have e2 : (a : Int) / 2 ^ (32 - n) = ((a / 2 ^ (32 - n) : Nat) : Int) := by push_cast; rfl
  have e3 : (a : Int) % 2 ^ (32 - n) * 2 ^ n = ((a % 2 ^ (32 - n) * 2 ^ n : Nat) : Int) := by push_cast; rfl
  have h1 : a * 2 ^ n % 4294967296 = a % 2 ^ (32 - n) * 2 ^ n := by rw [← hp, Nat.mul_mod_mul_right]
  have h2 : a / 2 ^ (32 - n) < 2 ^ n := by
    rw [Nat.div_lt_iff_lt_mul (Nat.two_pow_pos _), Nat.mul_comm, hp]; exact ha
  have h3 : a / 2 ^ (32 - n) < 4294967296 := Nat.lt_of_le_of_lt (Nat.div_le_self _ _) ha
  unfold rl
  rw [e1, e2, e3, bits_or_nat _ _ (Nat.mod_lt _ (by omega)) h3, h1]
  have := Nat.shiftLeft_add_eq_or_of_lt h2 (a % 2 ^ (32 - n))
  rw [Nat.shiftLeft_eq] at this
  rw [← this]
  push_cast; rfl
theorem rl_u32 (n : Nat) (hn : n ≤ 32) {x : Int} (hx : U32 x) : U32 (rl n x) := by
  rw [rl_sum n hn x hx]
  obtain ⟨a, ha, rfl⟩ := hx.nat
  have hp : 2 ^ (32 - n) * 2 ^ n = 4294967296 := by rw [← Nat.pow_add, show 32 - n + n = 32 by omega]
  have h2 : a / 2 ^ (32 - n) < 2 ^ n := by
    rw [Nat.div_lt_iff_lt_mul (Nat.two_pow_pos _), Nat.mul_comm, hp]; exact ha
  have h1 : a % 2 ^ (32 - n) < 2 ^ (32 - n) := Nat.mod_lt _ (Nat.two_pow_pos _)
  have h4 : (a % 2 ^ (32 - n) + 1) * 2 ^ n ≤ 4294967296 := by rw [← hp]; exact Nat.mul_le_mul_right _ h1
  rw [Nat.add_mul, Nat.one_mul] at h4
  have e : (a : Int) % 2 ^ (32 - n) * 2 ^ n + (a : Int) / 2 ^ (32 - n) = ((a % 2 ^ (32 - n) * 2 ^ n + a / 2 ^ (32 - n) : Nat) : Int) := by push_cast; rfl
  rw [e]
  have h5 : a % 2 ^ (32 - n) * 2 ^ n + a / 2 ^ (32 - n) < 4294967296 := by omega
  generalize a % 2 ^ (32 - n) * 2 ^ n + a / 2 ^ (32 - n) = m at h5
  exact ⟨by omega, by omega⟩
theorem rl_back16 {x : Int} (hx : U32 x) : rl 16 (rl 16 x) = x := by
  rw [rl_sum 16 (by omega) _ (rl_u32 16 (by omega) hx), rl_sum 16 (by omega) x hx]
  have := hx.1; have := hx.2; simp only [Nat.reduceSub, Int.reducePow]; omega
theorem rl_back12 {x : Int} (hx : U32 x) : rl 20 (rl 12 x) = x := by
  rw [rl_sum 20 (by omega) _ (rl_u32 12 (by omega) hx), rl_sum 12 (by omega) x hx]
  have := hx.1; have := hx.2; simp only [Nat.reduceSub, Int.reducePow]; omega
theorem rl_back8 {x : Int} (hx : U32 x) : rl 24 (rl 8 x) = x := by
  rw [rl_sum 24 (by omega) _ (rl_u32 8 (by omega) hx), rl_sum 8 (by omega) x hx]
  have := hx.1; have := hx.2; simp only [Nat.reduceSub, Int.reducePow]; omega
theorem rl_back7 {x : Int} (hx : U32 x) : rl 25 (rl 7 x) = x := by
  rw [rl_sum 25 (by omega) _ (rl_u32 7 (by omega) hx), rl_sum 7 (by omega) x hx]
  have := hx.1; have := hx.2; simp only [Nat.reduceSub, Int.reducePow]; omega
theorem mod_u32 (x : Int) : U32 (x % 4294967296) := ⟨by omega, by omega⟩

theorem four {l : List Int} (h : l.length = 4) : ∃ a b c d, l = [a, b, c, d] := by
  match l, h with
  | [a, b, c, d], _ => exact ⟨a, b, c, d, rfl⟩
theorem bounds32 {v : Int} (h : (Lit.int .u32 v).wf = true) : U32 v := by
  simp [Lit.wf, IntKind.min, IntKind.max, IntKind.bits, IntKind.signed] at h
  exact ⟨h.1, by omega⟩
end Go.Proofs.YtlalcnmcnkompaaDoor
