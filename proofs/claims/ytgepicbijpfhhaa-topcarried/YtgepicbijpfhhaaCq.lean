/- A quarter of a round, as the program and the reference have it. -/
import Derived.Test.YtgepicbijpfhhaaGk
namespace Go.Proofs.Ytgepicbijpfhhaa
open Go.RowKit

theorem ret_u32 {a b : Int} (h : a = b) : Ending.returned (.int .u32 a) = .returned (.int .u32 b) := by rw [h]

/-- A number of 32 bits turned left by n. -/
def rl (n : Nat) (x : Int) : Int := bits .or .u32 (x * 2 ^ n % 4294967296) (x / 2 ^ (32 - n))

def rotN (n : Int) : Prop := n = 16 ∨ n = 12 ∨ n = 8 ∨ n = 7

theorem rot_any (x n : Int) (w : World) (hn : rotN n) :
    Calls Try.prog 61 #[.int .u32 x, .int .i64 n] w fun e w' => e = .returned (.int .u32 (rl n.toNat x)) ∧ w' = w := by
  have h16 : bits BinOp.and IntKind.u64 16 31 = 16 := by decide
  have h12 : bits BinOp.and IntKind.u64 12 31 = 12 := by decide
  have h8 : bits BinOp.and IntKind.u64 8 31 = 8 := by decide
  have h7 : bits BinOp.and IntKind.u64 7 31 = 7 := by decide
  rcases hn with rfl | rfl | rfl | rfl
  all_goals
    go_enter Try.func61, Try.ntmps61
    go_wp2
    go_ret
    exact ⟨ret_u32 rfl, rfl⟩

def lefN (n : Int) : Prop := n = 16 ∨ n = 12 ∨ n = 8 ∨ n = 7 ∨ n = 20 ∨ n = 24 ∨ n = 25
theorem drewN_drewN (w : World) (m n : Nat) : (w.drewN m).drewN n = w.drewN (m + n) := by
  induction n with
  | zero => rfl
  | succ n ih => show ((w.drewN m).drewN n).drew = (w.drewN (m + n)).drew; rw [ih]

def qd1 (a b d : Int) : Int := rl 16 (bits .xor .u32 d ((a + b) % 4294967296))
def qc1 (a b c d : Int) : Int := (c + qd1 a b d) % 4294967296
def qb1 (a b c d : Int) : Int := rl 12 (bits .xor .u32 b (qc1 a b c d))
def qa2 (a b c d : Int) : Int := (a + b + qb1 a b c d) % 4294967296
def qd2 (a b c d : Int) : Int := rl 8 (bits .xor .u32 (qd1 a b d) (qa2 a b c d))
def qc2 (a b c d : Int) : Int := (c + qd1 a b d + qd2 a b c d) % 4294967296
def qb2 (a b c d : Int) : Int := rl 7 (bits .xor .u32 (qb1 a b c d) (qc2 a b c d))
/-- A quarter of a round. -/
def qr (a b c d : Int) : Int × Int × Int × Int := (qa2 a b c d, qb2 a b c d, qc2 a b c d, qd2 a b c d)

theorem results_tmp4 {fn : Func} {t u v x : Tmp} (h : fn.results = #[.tmp t, .tmp u, .tmp v, .tmp x]) (tmps : Array Value) (P : Program) (w : World) :
    (results fn tmps).run P w = .ok (.tuple #[tmps.getD t undef, tmps.getD u undef, tmps.getD v undef, tmps.getD x undef]) w := by
  simp [results, h, go_sem]
theorem quarter_any (a b c d : Int) (w : World) :
    Calls Try.prog 53 #[.int .u32 a, .int .u32 b, .int .u32 c, .int .u32 d] w fun e w' => e = .returned (.tuple #[.int .u32 (qr a b c d).1, .int .u32 (qr a b c d).2.1, .int .u32 (qr a b c d).2.2.1, .int .u32 (qr a b c d).2.2.2]) ∧ w' = w := by
  have r16 := fun x wx => rot_any x 16 wx (.inl rfl)
  have r12 := fun x wx => rot_any x 12 wx (.inr (.inl rfl))
  have r8 := fun x wx => rot_any x 8 wx (.inr (.inr (.inl rfl)))
  have r7 := fun x wx => rot_any x 7 wx (.inr (.inr (.inr rfl)))
  go_enter Try.func53, Try.ntmps53
  go_wp2_with (go_at_call 61; first | (with_reducible refine (r16 _ _).mono ?_; rintro e w' ⟨rfl, rfl⟩) | (with_reducible refine (r12 _ _).mono ?_; rintro e w' ⟨rfl, rfl⟩) | (with_reducible refine (r8 _ _).mono ?_; rintro e w' ⟨rfl, rfl⟩) | (with_reducible refine (r7 _ _).mono ?_; rintro e w' ⟨rfl, rfl⟩))
  refine bodyPost_ret (results_tmp4 Try.results53 _ _ _) rfl ?_
  exact ⟨rfl, rfl⟩

end Go.Proofs.Ytgepicbijpfhhaa
