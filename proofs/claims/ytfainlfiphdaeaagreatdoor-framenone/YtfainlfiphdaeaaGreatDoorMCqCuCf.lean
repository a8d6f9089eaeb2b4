/- A quarter of a round, as the program and the reference have it. A quarter of a round can be undone (the statement ChachaUndo), walked. Four bytes as a word, the lowest first; 'fill'; the reference's 'word'. -/
import Derived.Test.YtfainlfiphdaeaaGreatDoorMGkEv0Gate
import Derived.Test.YtfainlfiphdaeaaGreatDoorMGate2EvmGb
import Derived.Deep.RegionWith
namespace Go.Proofs.YtfainlfiphdaeaaGreatDoor
open Go.RowKit

theorem ret_u32 {a b : Int} (h : a = b) : Ending.returned (.int .u32 a) = .returned (.int .u32 b) := by rw [h]

/-- A number of 32 bits turned left by n. -/
def rl (n : Nat) (x : Int) : Int := bits .or .u32 (x * 2 ^ n % 4294967296) (x / 2 ^ (32 - n))

def rotN (n : Int) : Prop := n = 16 ∨ n = 12 ∨ n = 8 ∨ n = 7

theorem rot_any (x n : Int) (w : World) (hn : rotN n) :
    Calls Tryz.prog 215 #[.int .u32 x, .int .i64 n] w fun e w' => e = .returned (.int .u32 (rl n.toNat x)) ∧ w' = w := by
  have h16 : bits BinOp.and IntKind.u64 16 31 = 16 := by decide
  have h12 : bits BinOp.and IntKind.u64 12 31 = 12 := by decide
  have h8 : bits BinOp.and IntKind.u64 8 31 = 8 := by decide
  have h7 : bits BinOp.and IntKind.u64 7 31 = 7 := by decide
  rcases hn with rfl | rfl | rfl | rfl
  all_goals
    go_enter Tryz.func215, Tryz.ntmps215
    go_wp2
    go_ret
    exact ⟨ret_u32 rfl, rfl⟩

def lefN (n : Int) : Prop := n = 16 ∨ n = 12 ∨ n = 8 ∨ n = 7 ∨ n = 20 ∨ n = 24 ∨ n = 25
theorem refLeft_any (x n : Int) (w : World) (hn : lefN n) :
    Calls Tryz.prog 214 #[.int .u32 x, .int .i64 n] w fun e w' => e = .returned (.int .u32 (rl n.toNat x)) ∧ ∃ q, w' = w.drewN q := by
  rcases hn with rfl | rfl | rfl | rfl | rfl | rfl | rfl
  all_goals
    go_enter Tryz.func214, Tryz.ntmps214
    go_wp2
    go_quiet ((fail))
    go_wp2
    go_ret
    exact ⟨ret_u32 rfl, _, rfl⟩
theorem drewN_drewN (w : World) (m n : Nat) : (w.drewN m).drewN n = w.drewN (m + n) := by
  induction n with
  | zero => rfl
  | succ n ih => show ((w.drewN m).drewN n).drew = (w.drewN (m + n)).drew; rw [ih]

def qd1 (a b d : Int) : Int := rl 16 (bits .xor .u32 d ((a + b) % 4294967296))
def qc1 (a b c d : Int) : Int := (c + qd1 a b d) % 4294967296
def qb1 (a b c d : Int) : Int := rl 12 (bits .xor .u32 b (qc1 a b c d))
def qa2 (a b c d : Int) : Int := (a + b + qb1 a b c d) % 4294967296
def qd2 (a b c d : Int) : Int := rl 8 (bits .xor .u32 (qd1 a b d) (qa2 a b c d))
def qc2 (a b c d : Int) : Int := (c + qd1 a b d + qd2 a b c d) % 4294967296
def qb2 (a b c d : Int) : Int := rl 7 (bits .xor .u32 (qb1 a b c d) (qc2 a b c d))
/-- A quarter of a round. -/
def qr (a b c d : Int) : Int × Int × Int × Int := (qa2 a b c d, qb2 a b c d, qc2 a b c d, qd2 a b c d)

theorem results_tmp4 {fn : Func} {t u v x : Tmp} (h : fn.results = #[.tmp t, .tmp u, .tmp v, .tmp x]) (tmps : Array Value) (P : Program) (w : World) :
    (results fn tmps).run P w = .ok (.tuple #[tmps.getD t undef, tmps.getD u undef, tmps.getD v undef, tmps.getD x undef]) w := by
  simp [results, h, go_sem]
theorem quarter_any (a b c d : Int) (w : World) :
    Calls Tryz.prog 202 #[.int .u32 a, .int .u32 b, .int .u32 c, .int .u32 d] w fun e w' => e = .returned (.tuple #[.int .u32 (qr a b c d).1, .int .u32 (qr a b c d).2.1, .int .u32 (qr a b c d).2.2.1, .int .u32 (qr a b c d).2.2.2]) ∧ w' = w := by
  have r16 := fun x wx => rot_any x 16 wx (.inl rfl)
  have r12 := fun x wx => rot_any x 12 wx (.inr (.inl rfl))
  have r8 := fun x wx => rot_any x 8 wx (.inr (.inr (.inl rfl)))
  have r7 := fun x wx => rot_any x 7 wx (.inr (.inr (.inr rfl)))
  go_enter Tryz.func202, Tryz.ntmps202
  go_wp2_with (go_at_call 215; first | (with_reducible refine (r16 _ _).mono ?_; rintro e w' ⟨rfl, rfl⟩) | (with_reducible refine (r12 _ _).mono ?_; rintro e w' ⟨rfl, rfl⟩) | (with_reducible refine (r8 _ _).mono ?_; rintro e w' ⟨rfl, rfl⟩) | (with_reducible refine (r7 _ _).mono ?_; rintro e w' ⟨rfl, rfl⟩))
  refine bodyPost_ret (results_tmp4 Tryz.results202 _ _ _) rfl ?_
  exact ⟨rfl, rfl⟩

theorem refQuarter_any (a b c d : Int) (w : World) :
    Calls Tryz.prog 198 #[.int .u32 a, .int .u32 b, .int .u32 c, .int .u32 d] w fun e w' => e = .returned (.tuple #[.int .u32 (qr a b c d).1, .int .u32 (qr a b c d).2.1, .int .u32 (qr a b c d).2.2.1, .int .u32 (qr a b c d).2.2.2]) ∧ ∃ q, w' = w.drewN q := by
  have r16 := fun x wx => refLeft_any x 16 wx (.inl rfl)
  have r12 := fun x wx => refLeft_any x 12 wx (.inr (.inl rfl))
  have r8 := fun x wx => refLeft_any x 8 wx (.inr (.inr (.inl rfl)))
  have r7 := fun x wx => refLeft_any x 7 wx (.inr (.inr (.inr (.inl rfl))))
  go_enter Tryz.func198, Tryz.ntmps198
  go_wp2_with (go_at_call 214; first | (with_reducible refine (r16 _ _).mono ?_; rintro e w' ⟨rfl, q1, rfl⟩) | (with_reducible refine (r12 _ _).mono ?_; rintro e w' ⟨rfl, q2, rfl⟩) | (with_reducible refine (r8 _ _).mono ?_; rintro e w' ⟨rfl, q3, rfl⟩) | (with_reducible refine (r7 _ _).mono ?_; rintro e w' ⟨rfl, q4, rfl⟩))
  refine bodyPost_ret (results_tmp4 Tryz.results198 _ _ _) rfl ?_
  exact ⟨rfl, _, rfl⟩

end Go.Proofs.YtfainlfiphdaeaaGreatDoor

namespace Go.Proofs.YtfainlfiphdaeaaGreatDoor
open Go.RowKit

def U32 (x : Int) : Prop := 0 ≤ x ∧ x ≤ 4294967295

theorem bits_xor_nat (a b : Nat) (ha : a < 4294967296) (hb : b < 4294967296) : bits .xor .u32 (a : Int) (b : Int) = ((a ^^^ b : Nat) : Int) := by
  show IntKind.u32.wrap ((BitVec.ofInt 32 (a : Int) ^^^ BitVec.ofInt 32 (b : Int)).toNat : Int) = _
  rw [BitVec.toNat_xor, BitVec.toNat_ofInt, BitVec.toNat_ofInt]
  have e1 : ((a : Int) % (2 ^ 32 : Nat)).toNat = a := by simp; omega
  have e2 : ((b : Int) % (2 ^ 32 : Nat)).toNat = b := by simp; omega
  have hx : a ^^^ b < 2 ^ 32 := Nat.xor_lt_two_pow ha hb
  rw [e1, e2]
  simp [IntKind.wrap, IntKind.bits, IntKind.signed]
  omega
theorem bits_or_nat (a b : Nat) (ha : a < 4294967296) (hb : b < 4294967296) : bits .or .u32 (a : Int) (b : Int) = ((a ||| b : Nat) : Int) := by
  show IntKind.u32.wrap ((BitVec.ofInt 32 (a : Int) ||| BitVec.ofInt 32 (b : Int)).toNat : Int) = _
  rw [BitVec.toNat_or, BitVec.toNat_ofInt, BitVec.toNat_ofInt]
  have e1 : ((a : Int) % (2 ^ 32 : Nat)).toNat = a := by simp; omega
  have e2 : ((b : Int) % (2 ^ 32 : Nat)).toNat = b := by simp; omega
  have hx : a ||| b < 2 ^ 32 := Nat.or_lt_two_pow ha hb
  rw [e1, e2]
  simp [IntKind.wrap, IntKind.bits, IntKind.signed]
  omega
theorem U32.nat {x : Int} (h : U32 x) : ∃ n : Nat, n < 4294967296 ∧ x = n := ⟨x.toNat, by have := h.1; have := h.2; omega, by have := h.1; omega⟩
theorem xor_u32 {x y : Int} (hx : U32 x) (hy : U32 y) : U32 (bits .xor .u32 x y) := by
  obtain ⟨a, ha, rfl⟩ := hx.nat
  obtain ⟨b, hb, rfl⟩ := hy.nat
  rw [bits_xor_nat a b ha hb]
  have hx : a ^^^ b < 2 ^ 32 := Nat.xor_lt_two_pow ha hb
  exact ⟨by omega, by omega⟩
theorem xor_back {x y : Int} (hx : U32 x) (hy : U32 y) : bits .xor .u32 (bits .xor .u32 x y) y = x := by
  obtain ⟨a, ha, rfl⟩ := hx.nat
  obtain ⟨b, hb, rfl⟩ := hy.nat
  have hlt : a ^^^ b < 2 ^ 32 := Nat.xor_lt_two_pow ha hb
  rw [bits_xor_nat a b ha hb, bits_xor_nat _ b hlt hb, Nat.xor_assoc, Nat.xor_self, Nat.xor_zero]
/-- Turned left: what stands in the way below, and what comes up. -/
theorem rl_sum (n : Nat) (hn : n ≤ 32) (x : Int) (hx : U32 x) : rl n x = x % 2 ^ (32 - n) * 2 ^ n + x / 2 ^ (32 - n) := by
  obtain ⟨a, ha, rfl⟩ := hx.nat
  have hp : 2 ^ (32 - n) * 2 ^ n = 4294967296 := by rw [← Nat.pow_add, show 32 - n + n = 32 by omega]
  have e1 : (a : Int) * 2 ^ n % 4294967296 = ((a * 2 ^ n % 4294967296 : Nat) : Int) := by simp only [Int.natCast_emod, Int.natCast_mul, Int.natCast_pow]; rfl
  have e2 : (a : Int) / 2 ^ (32 - n) = ((a / 2 ^ (32 - n) : Nat) : Int) := by push_cast; rfl
  have e3 : (a : Int) % 2 ^ (32 - n) * 2 ^ n = ((a % 2 ^ (32 - n) * 2 ^ n : Nat) : Int) := by push_cast; rfl
  have h1 : a * 2 ^ n % 4294967296 = a % 2 ^ (32 - n) * 2 ^ n := by rw [← hp, Nat.mul_mod_mul_right]
  have h2 : a / 2 ^ (32 - n) < 2 ^ n := by
    rw [Nat.div_lt_iff_lt_mul (Nat.two_pow_pos _), Nat.mul_comm, hp]; exact ha
  have h3 : a / 2 ^ (32 - n) < 4294967296 := Nat.lt_of_le_of_lt (Nat.div_le_self _ _) ha
  unfold rl
  rw [e1, e2, e3, bits_or_nat _ _ (Nat.mod_lt _ (by omega)) h3, h1]
  have := Nat.shiftLeft_add_eq_or_of_lt h2 (a % 2 ^ (32 - n))
  rw [Nat.shiftLeft_eq] at this
  rw [← this]
  push_cast; rfl
theorem rl_u32 (n : Nat) (hn : n ≤ 32) {x : Int} (hx : U32 x) : U32 (rl n x) := by
  rw [rl_sum n hn x hx]
  obtain ⟨a, ha, rfl⟩ := hx.nat
  have hp : 2 ^ (32 - n) * 2 ^ n = 4294967296 := by rw [← Nat.pow_add, show 32 - n + n = 32 by omega]
  have h2 : a / 2 ^ (32 - n) < 2 ^ n := by
    rw [Nat.div_lt_iff_lt_mul (Nat.two_pow_pos _), Nat.mul_comm, hp]; exact ha
  have h1 : a % 2 ^ (32 - n) < 2 ^ (32 - n) := Nat.mod_lt _ (Nat.two_pow_pos _)
  have h4 : (a % 2 ^ (32 - n) + 1) * 2 ^ n ≤ 4294967296 := by rw [← hp]; exact Nat.mul_le_mul_right _ h1
  rw [Nat.add_mul, Nat.one_mul] at h4
  have e : (a : Int) % 2 ^ (32 - n) * 2 ^ n + (a : Int) / 2 ^ (32 - n) = ((a % 2 ^ (32 - n) * 2 ^ n + a / 2 ^ (32 - n) : Nat) : Int) := by push_cast; rfl
  rw [e]
  have h5 : a % 2 ^ (32 - n) * 2 ^ n + a / 2 ^ (32 - n) < 4294967296 := by omega
  generalize a % 2 ^ (32 - n) * 2 ^ n + a / 2 ^ (32 - n) = m at h5
  exact ⟨by omega, by omega⟩
theorem rl_back16 {x : Int} (hx : U32 x) : rl 16 (rl 16 x) = x := by
  rw [rl_sum 16 (by omega) _ (rl_u32 16 (by omega) hx), rl_sum 16 (by omega) x hx]
  have := hx.1; have := hx.2; simp only [Nat.reduceSub, Int.reducePow]; omega
theorem rl_back12 {x : Int} (hx : U32 x) : rl 20 (rl 12 x) = x := by
  rw [rl_sum 20 (by omega) _ (rl_u32 12 (by omega) hx), rl_sum 12 (by omega) x hx]
  have := hx.1; have := hx.2; simp only [Nat.reduceSub, Int.reducePow]; omega
theorem rl_back8 {x : Int} (hx : U32 x) : rl 24 (rl 8 x) = x := by
  rw [rl_sum 24 (by omega) _ (rl_u32 8 (by omega) hx), rl_sum 8 (by omega) x hx]
  have := hx.1; have := hx.2; simp only [Nat.reduceSub, Int.reducePow]; omega
theorem rl_back7 {x : Int} (hx : U32 x) : rl 25 (rl 7 x) = x := by
  rw [rl_sum 25 (by omega) _ (rl_u32 7 (by omega) hx), rl_sum 7 (by omega) x hx]
  have := hx.1; have := hx.2; simp only [Nat.reduceSub, Int.reducePow]; omega
theorem mod_u32 (x : Int) : U32 (x % 4294967296) := ⟨by omega, by omega⟩

theorem four {l : List Int} (h : l.length = 4) : ∃ a b c d, l = [a, b, c, d] := by
  match l, h with
  | [a, b, c, d], _ => exact ⟨a, b, c, d, rfl⟩
theorem bounds32 {v : Int} (h : (Lit.int .u32 v).wf = true) : U32 v := by
  simp [Lit.wf, IntKind.min, IntKind.max, IntKind.bits, IntKind.signed] at h
  exact ⟨h.1, by omega⟩
end Go.Proofs.YtfainlfiphdaeaaGreatDoor

namespace Go.Proofs.YtfainlfiphdaeaaGreatDoor
open Go.RowKit
set_option maxRecDepth 20000

/-- Four bytes as a word, the lowest first. -/
def wl (a b c d : Int) : Int :=
  bits .or .u32 (bits .or .u32 (bits .or .u32 (a % 4294967296) (b % 4294967296 * 256 % 4294967296)) (c % 4294967296 * 65536 % 4294967296)) (d % 4294967296 * 16777216 % 4294967296)
/-- Word number i of bytes. -/
def wlAt (z : List Int) (i : Nat) : Int := wl (z[4 * i]?.getD 0) (z[4 * i + 1]?.getD 0) (z[4 * i + 2]?.getD 0) (z[4 * i + 3]?.getD 0)
/-- The first k words. -/
def wlL (z : List Int) (k : Nat) : List Int := (List.range k).map (wlAt z)
theorem wlL_length (z : List Int) (k : Nat) : (wlL z k).length = k := by simp [wlL]
theorem wlL_succ (z : List Int) (k : Nat) : wlL z (k + 1) = wlL z k ++ [wlAt z k] := by simp [wlL, List.range_succ]

theorem refWord_any (b off cap : Nat) (z0 z1 z2 z3 : Int) (w : World)
    (h0 : w.cell? ⟨b, off, none⟩ = some (.int .u8 z0)) (h1 : w.cell? ⟨b, off + 1, none⟩ = some (.int .u8 z1))
    (h2 : w.cell? ⟨b, off + 2, none⟩ = some (.int .u8 z2)) (h3 : w.cell? ⟨b, off + 3, none⟩ = some (.int .u8 z3)) :
    Calls Tryz.prog 197 #[.slice (some ⟨b, off, none⟩) 4 cap] w fun e w' => e = .returned (.int .u32 (wl z0 z1 z2 z3)) ∧ ∃ n, w' = w.drewN n := by
  go_enter Tryz.func197, Tryz.ntmps197
  go_wp2
  go_quiet ((fail))
  go_wp2
  go_ret
  exact ⟨rfl, _, rfl⟩

/-- The words that are set so far. -/
def fillK (l z : List Int) (o k : Nat) : List Int := l.take o ++ wlL z k ++ l.drop (o + k)
theorem fillK_length (l z : List Int) (o k : Nat) (h : o + k ≤ l.length) : (fillK l z o k).length = l.length := by
  simp [fillK, wlL_length]; omega
theorem fillK_zero (l z : List Int) (o : Nat) : fillK l z o 0 = l := by simp [fillK, wlL]
theorem fillK_set (l z : List Int) (o k : Nat) (h : o + k < l.length) : (fillK l z o k).set (o + k) (wlAt z k) = fillK l z o (k + 1) := by
  have e : l.drop (o + k) = l[o + k] :: l.drop (o + k + 1) := List.drop_eq_getElem_cons h
  have hl : (l.take o ++ wlL z k).length = o + k := by simp [wlL_length]; omega
  unfold fillK
  rw [e, List.set_append_right _ _ (by omega), hl, Nat.sub_self, List.set_cons_zero, wlL_succ]
  simp [Nat.add_assoc]

set_option maxHeartbeats 1000000 in
/-- 'fill': words of the row l in block g from o on, out of the bytes z. -/
theorem fill_any (g o m cap bb bn bcap : Nat) (z l : List Int) (t : TypeId) (w : World) (hg : Holds w g .u32 t l) (hom : o + m ≤ l.length) (hm : m ≤ 16) (hcap : m ≤ cap) (hcap2 : cap ≤ 1000)
    (hne : bb < g) (hbn : bn = 4 * m) (hbc : bn ≤ bcap) (hbc2 : bcap ≤ 1000) (hcell : ∀ j, j < bn → w.cell? ⟨bb, j, none⟩ = some (.int .u8 (z[j]?.getD 0))) :
    Calls Tryz.prog 201 #[.slice (some ⟨g, o, none⟩) m cap, .slice (some ⟨bb, 0, none⟩) bn bcap] w fun e w' => (∃ v, e = .returned v) ∧ Below g w w' ∧ w'.heap.size = w.heap.size ∧ Holds w' g .u32 t (fillK l z o m) := by
  have HBN : Hid (bn = 4 * m) := hbn
  clear hbn
  go_enter Tryz.func201, Tryz.ntmps201
  go_wp2
  go_loopw [8] (fun i wr => ∃ k : Nat, k ≤ m ∧ i = .int .i64 k ∧ Below g w wr ∧ wr.heap.size = w.heap.size ∧ Holds wr g .u32 t (fillK l z o k))
    (fun i _ => m - (intOf i).toNat)
  case atStart => exact ⟨0, by omega, rfl, Below.refl _ _, rfl, by rw [fillK_zero]; exact hg⟩
  case round =>
    obtain ⟨k, hk, rfl, hB, hsz, hH⟩ := hrel
    by_cases hlt : k < m
    · obtain ⟨I, hI⟩ : ∃ I : Nat, 4 * k = I := ⟨_, rfl⟩
      have hbn := HBN.out
      have c : ∀ j, j < bn → wr.cell? ⟨bb, j, none⟩ = some (.int .u8 (z[j]?.getD 0)) := fun j hj => (hB.cell (p := ⟨bb, j, none⟩) hne).trans (hcell j hj)
      have c0 : wr.cell? ⟨bb, I, none⟩ = some (.int .u8 (z[4 * k]?.getD 0)) := by rw [hI]; exact c I (by omega)
      have c1 : wr.cell? ⟨bb, I + 1, none⟩ = some (.int .u8 (z[4 * k + 1]?.getD 0)) := by rw [hI]; exact c (I + 1) (by omega)
      have c2 : wr.cell? ⟨bb, I + 2, none⟩ = some (.int .u8 (z[4 * k + 2]?.getD 0)) := by rw [hI]; exact c (I + 2) (by omega)
      have c3 : wr.cell? ⟨bb, I + 3, none⟩ = some (.int .u8 (z[4 * k + 3]?.getD 0)) := by rw [hI]; exact c (I + 3) (by omega)
      have hcc := hH.cell (o + k) (by rw [fillK_length _ _ _ _ (by omega)]; omega)
      have hff := hH.frozen (o + k)
      have hnb : ¬ g = bb := by omega
      have hI' : (k : Int) * 4 = (I : Int) := by omega
      have i4 : (I : Int) + 3 < (bn : Int) := by omega
      have i3 : (I : Int) + 2 < (bn : Int) := by omega
      have i2 : (I : Int) + 1 < (bn : Int) := by omega
      have i1 : (I : Int) < (bn : Int) := by omega
      have j1 : IntKind.i64.wrap ((I : Int) + 1) = (I : Int) + 1 := by rw [IntKind.wrap_i64]; omega
      have j2 : IntKind.i64.wrap ((I : Int) + 2) = (I : Int) + 2 := by rw [IntKind.wrap_i64]; omega
      have j3 : IntKind.i64.wrap ((I : Int) + 3) = (I : Int) + 3 := by rw [IntKind.wrap_i64]; omega
      have n1 : (0 : Int) ≤ (I : Int) + 1 := by omega
      have n2 : (0 : Int) ≤ (I : Int) + 2 := by omega
      have n3 : (0 : Int) ≤ (I : Int) + 3 := by omega
      have t1 : ((I : Int) + 1).toNat = I + 1 := by omega
      have t2 : ((I : Int) + 2).toNat = I + 2 := by omega
      have t3 : ((I : Int) + 3).toNat = I + 3 := by omega
      have hki : (k : Int) < (m : Int) := by omega
      clear c hcell hbn
      go_upto_region 4 with fail
      have HI : Hid (4 * k = I) := hI
      clear hI hI'
      obtain ⟨Z0, hZ0⟩ : ∃ x, z[4 * k]?.getD 0 = x := ⟨_, rfl⟩
      obtain ⟨Z1, hZ1⟩ : ∃ x, z[4 * k + 1]?.getD 0 = x := ⟨_, rfl⟩
      obtain ⟨Z2, hZ2⟩ : ∃ x, z[4 * k + 2]?.getD 0 = x := ⟨_, rfl⟩
      obtain ⟨Z3, hZ3⟩ : ∃ x, z[4 * k + 3]?.getD 0 = x := ⟨_, rfl⟩
      rw [hZ0] at c0
      rw [hZ1] at c1
      rw [hZ2] at c2
      rw [hZ3] at c3
      have HZ : Hid (wlAt z k = wl Z0 Z1 Z2 Z3) := by show wlAt z k = _; unfold wlAt; rw [hZ0, hZ1, hZ2, hZ3]
      clear hZ0 hZ1 hZ2 hZ3
      go_region_held3 (fun w' => w'.cell? ⟨bb, I, none⟩ = some (.int .u8 Z0) ∧ w'.cell? ⟨bb, I + 1, none⟩ = some (.int .u8 Z1) ∧ w'.cell? ⟨bb, I + 2, none⟩ = some (.int .u8 Z2) ∧ w'.cell? ⟨bb, I + 3, none⟩ = some (.int .u8 Z3))
        (go_keep) (fail)
      go_wp2
      go_roundw
      case rel =>
        refine ⟨k + 1, by omega, by go_num, (hB.setCell (p := ⟨g, o + k, none⟩) (Nat.le_refl _) _).drew, by simp [hsz], ?_⟩
        have := (hH.set (o + k) (wlAt z k)).drew
        rw [fillK_set _ _ _ _ (by omega)] at this
        rw [HZ.out] at this
        exact this
      case measure => simp [intOf]; omega
    · obtain rfl : k = m := by omega
      go_wp2
      go_end0
      exact ⟨⟨_, rfl⟩, hB, hsz, hH⟩
end Go.Proofs.YtfainlfiphdaeaaGreatDoor
