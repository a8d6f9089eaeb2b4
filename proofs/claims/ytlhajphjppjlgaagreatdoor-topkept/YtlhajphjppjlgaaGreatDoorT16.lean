/- Pk0 Py Pl Pz Pz2 Cq Cu Cf Cb -/
import Derived.Test.YtlhajphjppjlgaaGreatDoorT12
import Derived.Laws.BitsLemmas
import Derived.Test.YtlhajphjppjlgaaGreatDoorT15
import Derived.Test.YtlhajphjppjlgaaGreatDoorT14
import Derived.Lib.SlBytesConst
import Derived.Test.YtlhajphjppjlgaaGreatDoorT01
import Derived.Test.YtlhajphjppjlgaaGreatDoorT02
import Derived.Deep.RegionWith
namespace Go.Proofs.YtlhajphjppjlgaaGreatDoor
open Go.RowKit
set_option maxRecDepth 100000
set_option linter.unusedSimpArgs false
theorem sixteen {l : List Int} (h : l.length = 16) : ∃ a0 a1 a2 a3 a4 a5 a6 a7 a8 a9 b0 b1 b2 b3 b4 b5, l = [a0, a1, a2, a3, a4, a5, a6, a7, a8, a9, b0, b1, b2, b3, b4, b5] := by
  match l, h with
  | [a0, a1, a2, a3, a4, a5, a6, a7, a8, a9, b0, b1, b2, b3, b4, b5], _ => exact ⟨a0, a1, a2, a3, a4, a5, a6, a7, a8, a9, b0, b1, b2, b3, b4, b5, rfl⟩
theorem clampL_eq {k : List Int} {a0 a1 a2 a3 a4 a5 a6 a7 a8 a9 b0 b1 b2 b3 b4 b5 : Int} (h : k.take 16 = [a0, a1, a2, a3, a4, a5, a6, a7, a8, a9, b0, b1, b2, b3, b4, b5]) :
    clampL k = [a0, a1, a2, bits .and .u8 a3 15, bits .and .u8 a4 252, a5, a6, bits .and .u8 a7 15, bits .and .u8 a8 252, a9, b0, bits .and .u8 b1 15, bits .and .u8 b2 252, b3, b4, bits .and .u8 b5 15] := by
  unfold clampL; rw [h]; rfl
theorem and15 (v : Int) (h0 : 0 ≤ v) (h1 : v ≤ 255) : bits .and .u8 v 15 = v % 16 := bits_mask .u8 8 (by decide) wraps_u8 4 (by omega) v h0 (by omega)
theorem and252 (v : Int) (h0 : 0 ≤ v) (h1 : v ≤ 255) : bits .and .u8 v 252 = v / 4 * 4 := by
  obtain ⟨n, rfl⟩ := Int.eq_ofNat_of_zero_le h0
  have hn : n < 256 := by omega
  have key : ∀ m : Fin 256, bits .and .u8 (m.1 : Int) 252 = (m.1 : Int) / 4 * 4 := by decide +kernel
  exact key ⟨n, hn⟩
theorem clampL_in (k : List Int) (hk : k.length = 32) (hu : ∀ v ∈ k, 0 ≤ v ∧ v ≤ 255) : ∀ v ∈ clampL k, 0 ≤ v ∧ v ≤ 255 := by
  have hl : (k.take 16).length = 16 := by rw [List.length_take]; omega
  have hu' : ∀ v ∈ k.take 16, 0 ≤ v ∧ v ≤ 255 := fun v hv => hu v (List.mem_of_mem_take hv)
  obtain ⟨a0, a1, a2, a3, a4, a5, a6, a7, a8, a9, b0, b1, b2, b3, b4, b5, h⟩ := sixteen hl
  rw [h] at hu'
  rw [clampL_eq h, and15 a3 (hu' _ (by simp)).1 (hu' _ (by simp)).2, and15 a7 (hu' _ (by simp)).1 (hu' _ (by simp)).2, and15 b1 (hu' _ (by simp)).1 (hu' _ (by simp)).2, and15 b5 (hu' _ (by simp)).1 (hu' _ (by simp)).2, and252 a4 (hu' _ (by simp)).1 (hu' _ (by simp)).2, and252 a8 (hu' _ (by simp)).1 (hu' _ (by simp)).2, and252 b2 (hu' _ (by simp)).1 (hu' _ (by simp)).2]
  intro v hv
  simp only [List.mem_cons, List.not_mem_nil, or_false] at hv hu'
  have q := fun x hx => hu' x hx
  rcases hv with rfl | rfl | rfl | rfl | rfl | rfl | rfl | rfl | rfl | rfl | rfl | rfl | rfl | rfl | rfl | rfl
  all_goals first
    | exact hu' _ (by simp)
    | (have h3 := hu' a3 (by simp); have h4 := hu' a4 (by simp); have h7 := hu' a7 (by simp); have h8 := hu' a8 (by simp); have h11 := hu' b1 (by simp); have h12 := hu' b2 (by simp); have h15 := hu' b5 (by simp); omega)
end Go.Proofs.YtlhajphjppjlgaaGreatDoor
namespace Go.Proofs.YtlhajphjppjlgaaGreatDoor
open Go
def leN : List Int → Int
  | [] => 0
  | a :: l => a + 256 * leN l
def accF (r : Int) (bs : List Int) : Int := bs.foldl (fun a b => (a + b) * r % 1361129467683753853853498429727072845819) 0
theorem seventeen {l : List Int} (h : l.length = 17) : ∃ a0 a1 a2 a3 a4 a5 a6 a7 a8 a9 b0 b1 b2 b3 b4 b5 t, l = [a0, a1, a2, a3, a4, a5, a6, a7, a8, a9, b0, b1, b2, b3, b4, b5, t] := by
  match l, h with
  | [a0, a1, a2, a3, a4, a5, a6, a7, a8, a9, b0, b1, b2, b3, b4, b5, t], _ => exact ⟨a0, a1, a2, a3, a4, a5, a6, a7, a8, a9, b0, b1, b2, b3, b4, b5, t, rfl⟩
theorem leN17 (a0 a1 a2 a3 a4 a5 a6 a7 a8 a9 b0 b1 b2 b3 b4 b5 t : Int) : leN [a0, a1, a2, a3, a4, a5, a6, a7, a8, a9, b0, b1, b2, b3, b4, b5, t] = N16 a0 a1 a2 a3 a4 a5 a6 a7 a8 a9 b0 b1 b2 b3 b4 b5 + t * 340282366920938463463374607431768211456 := by
  simp only [leN]; unfold N16; omega
theorem leN16 (a0 a1 a2 a3 a4 a5 a6 a7 a8 a9 b0 b1 b2 b3 b4 b5 : Int) : leN [a0, a1, a2, a3, a4, a5, a6, a7, a8, a9, b0, b1, b2, b3, b4, b5] = N16 a0 a1 a2 a3 a4 a5 a6 a7 a8 a9 b0 b1 b2 b3 b4 b5 := by
  simp only [leN]; unfold N16; omega
theorem blkP_in' (z : List Int) (hz : ∀ v ∈ z, isB v) (i : Nat) : ∀ v ∈ blkP z i, isB v := by
  intro v hv
  unfold blkP at hv
  rcases List.mem_or_eq_of_mem_set hv with h | rfl
  · rcases List.mem_append.1 h with h | h
    · exact hz v (List.mem_of_mem_drop (List.mem_of_mem_take h))
    · have := (List.mem_replicate.1 h).2
      subst this
      exact ⟨by omega, by omega⟩
  · exact ⟨by omega, by omega⟩
theorem blkP_top (z : List Int) (i : Nat) : (0 : Int) ≤ (blkP z i)[16]?.getD (0 : Int) ∧ (blkP z i)[16]?.getD (0 : Int) ≤ 1 := by
  unfold blkP
  have hl : ((z.drop (16 * i)).take 16).length ≤ 16 := by rw [List.length_take]; omega
  generalize (z.drop (16 * i)).take 16 = c at hl
  by_cases h : c.length = 16
  · rw [List.getElem?_set, h]
    simp [h]
  · rw [List.getElem?_set_ne (by omega), List.getElem?_append_right (by omega), List.getElem?_replicate]
    split <;> simp
theorem acc_step (X A n r X' q : Int) (hA : X % 1361129467683753853853498429727072845819 = A) (h : (X + n) * r = X' + q * 1361129467683753853853498429727072845819) : X' % 1361129467683753853853498429727072845819 = (A + n) * r % 1361129467683753853853498429727072845819 := by
  have e : X' = (A + n) * r + (X / 1361129467683753853853498429727072845819 * r - q) * 1361129467683753853853498429727072845819 := by
    have hX := Int.emod_add_mul_ediv X 1361129467683753853853498429727072845819
    rw [hA] at hX
    have h2 : X' = (X + n) * r - q * 1361129467683753853853498429727072845819 := by omega
    rw [h2]
    generalize X / 1361129467683753853853498429727072845819 = p at hX ⊢
    rw [← hX]
    grind
  rw [e, Int.add_mul_emod_self_right]
theorem fold_val (z : List Int) (hz : ∀ v ∈ z, isB v) (r0 r1 r2 r3 r4 : Int) (hr : Limb5 r0 r1 r2 r3 r4) : ∀ (is : List Nat) (x0 x1 x2 x3 x4 A : Int), Fold5 x0 x1 x2 x3 x4 → V5 x0 x1 x2 x3 x4 % 1361129467683753853853498429727072845819 = A →
    ∃ a b c d e, foldP z is [x0, x1, x2, x3, x4, r0, r1, r2, r3, r4] = [a, b, c, d, e, r0, r1, r2, r3, r4] ∧ Fold5 a b c d e ∧ V5 a b c d e % 1361129467683753853853498429727072845819 = (is.map fun i => leN (blkP z i)).foldl (fun a b => (a + b) * V5 r0 r1 r2 r3 r4 % 1361129467683753853853498429727072845819) A
  | [], x0, x1, x2, x3, x4, A, hx, hA => ⟨x0, x1, x2, x3, x4, rfl, hx, hA⟩
  | i :: is, x0, x1, x2, x3, x4, A, hx, hA => by
    have hl := blkP_length z i
    have hb := blkP_in' z hz i
    have ht := blkP_top z i
    obtain ⟨z0, z1, z2, z3, z4, z5, z6, z7, y0, y1, y2, y3, y4, y5, y6, y7, t, hB⟩ := seventeen hl
    rw [hB] at hb ht
    obtain ⟨a, b, c, d, e, q, hT, hf, hv⟩ := take_val x0 x1 x2 x3 x4 r0 r1 r2 r3 r4 z0 z1 z2 z3 z4 z5 z6 z7 y0 y1 y2 y3 y4 y5 y6 y7 t hx hr (hb _ (by simp)) (hb _ (by simp)) (hb _ (by simp)) (hb _ (by simp)) (hb _ (by simp)) (hb _ (by simp)) (hb _ (by simp)) (hb _ (by simp)) (hb _ (by simp)) (hb _ (by simp)) (hb _ (by simp)) (hb _ (by simp)) (hb _ (by simp)) (hb _ (by simp)) (hb _ (by simp)) (hb _ (by simp)) ht
    rw [← leN17] at hv
    obtain ⟨a', b', c', d', e', h1, h2, h3⟩ := fold_val z hz r0 r1 r2 r3 r4 hr is a b c d e _ hf (acc_step _ A _ _ _ q hA hv)
    refine ⟨a', b', c', d', e', ?_, h2, ?_⟩
    · unfold foldP at h1 ⊢
      rw [List.foldl_cons, hB, hT]
      exact h1
    · rw [h3, List.map_cons, List.foldl_cons, hB]
theorem poly_val (k z : List Int) (hk : k.length = 32) (hu : ∀ v ∈ k, isB v) (hz : ∀ v ∈ z, isB v) :
    polyL k z = le16 (accF (leN (clampL k)) ((List.range ((z.length + 15) / 16)).map fun i => leN (blkP z i)) + leN (k.drop 16)) := by
  have hcl := clampL_length k hk
  have hci := clampL_in k hk hu
  obtain ⟨a0, a1, a2, a3, a4, a5, a6, a7, a8, a9, b0, b1, b2, b3, b4, b5, hC⟩ := sixteen hcl
  rw [hC] at hci
  obtain ⟨r0, r1, r2, r3, r4, hn, hr, hv⟩ := num_val a0 a1 a2 a3 a4 a5 a6 a7 a8 a9 b0 b1 b2 b3 b4 b5 0 (hci _ (by simp)) (hci _ (by simp)) (hci _ (by simp)) (hci _ (by simp)) (hci _ (by simp)) (hci _ (by simp)) (hci _ (by simp)) (hci _ (by simp)) (hci _ (by simp)) (hci _ (by simp)) (hci _ (by simp)) (hci _ (by simp)) (hci _ (by simp)) (hci _ (by simp)) (hci _ (by simp)) (hci _ (by simp)) (by omega)
  have hA : adder0 k = [0, 0, 0, 0, 0, r0, r1, r2, r3, r4] := by
    unfold adder0
    have hap : [a0, a1, a2, a3, a4, a5, a6, a7, a8, a9, b0, b1, b2, b3, b4, b5] ++ [(0 : Int)] = [a0, a1, a2, a3, a4, a5, a6, a7, a8, a9, b0, b1, b2, b3, b4, b5, 0] := rfl
    rw [hC, hap, hn]; rfl
  obtain ⟨a, b, c, d, e, h1, h2, h3⟩ := fold_val z hz r0 r1 r2 r3 r4 hr (List.range ((z.length + 15) / 16)) 0 0 0 0 0 0 (by unfold Fold5; omega) (by unfold V5; omega)
  have hdl : (k.drop 16).length = 16 := by rw [List.length_drop]; omega
  have hdi : ∀ v ∈ k.drop 16, isB v := fun v hv => hu v (List.mem_of_mem_drop hv)
  obtain ⟨s0, s1, s2, s3, s4, s5, s6, s7, s8, s9, t0, t1, t2, t3, t4, t5, hS⟩ := sixteen hdl
  rw [hS] at hdi
  unfold polyL
  rw [hA, h1, hS, tag_val a b c d e [r0, r1, r2, r3, r4] s0 s1 s2 s3 s4 s5 s6 s7 s8 s9 t0 t1 t2 t3 t4 t5 h2 (hdi _ (by simp)) (hdi _ (by simp)) (hdi _ (by simp)) (hdi _ (by simp)) (hdi _ (by simp)) (hdi _ (by simp)) (hdi _ (by simp)) (hdi _ (by simp)) (hdi _ (by simp)) (hdi _ (by simp)) (hdi _ (by simp)) (hdi _ (by simp)) (hdi _ (by simp)) (hdi _ (by simp)) (hdi _ (by simp)) (hdi _ (by simp)), h3, leN16]
  unfold accF
  rw [hC, leN16, hv, Int.zero_mul, Int.add_zero]
end Go.Proofs.YtlhajphjppjlgaaGreatDoor
namespace Go.Proofs.YtlhajphjppjlgaaGreatDoor
open Go.RowKit
set_option maxRecDepth 100000
set_option linter.unusedSimpArgs false
end Go.Proofs.YtlhajphjppjlgaaGreatDoor
namespace Go.Proofs.YtlhajphjppjlgaaGreatDoor
open Go.RowKit
set_option maxRecDepth 100000
set_option linter.unusedSimpArgs false
end Go.Proofs.YtlhajphjppjlgaaGreatDoor
namespace Go.Proofs.YtlhajphjppjlgaaGreatDoor
open Go.RowKit
set_option maxRecDepth 20000
def leB : Nat → Int → List Int
  | 0, _ => []
  | j + 1, n => n % 256 :: leB j (n / 256)
theorem le16_in (n : Int) : ∀ v ∈ le16 n, isB v := by
  intro v hv
  unfold le16 at hv
  simp only [List.mem_cons, List.not_mem_nil, or_false] at hv
  unfold isB
  omega
end Go.Proofs.YtlhajphjppjlgaaGreatDoor
namespace Go.Proofs.YtlhajphjppjlgaaGreatDoor
open Go.RowKit
theorem ret_u32 {a b : Int} (h : a = b) : Ending.returned (.int .u32 a) = .returned (.int .u32 b) := by rw [h]
def rl (n : Nat) (x : Int) : Int := bits .or .u32 (x * 2 ^ n % 4294967296) (x / 2 ^ (32 - n))
def rotN (n : Int) : Prop := n = 16 ∨ n = 12 ∨ n = 8 ∨ n = 7
theorem rot_any (x n : Int) (w : World) (hn : rotN n) :
    Calls Tryz.prog 137 #[.int .u32 x, .int .i64 n] w fun e w' => e = .returned (.int .u32 (rl n.toNat x)) ∧ w' = w := by
  have h16 : bits BinOp.and IntKind.u64 16 31 = 16 := by decide
  have h12 : bits BinOp.and IntKind.u64 12 31 = 12 := by decide
  have h8 : bits BinOp.and IntKind.u64 8 31 = 8 := by decide
  have h7 : bits BinOp.and IntKind.u64 7 31 = 7 := by decide
  rcases hn with rfl | rfl | rfl | rfl
  all_goals
    go_enter Tryz.func137, Tryz.ntmps137
    go_wp2
    go_ret
    exact ⟨ret_u32 rfl, rfl⟩
def qd1 (a b d : Int) : Int := rl 16 (bits .xor .u32 d ((a + b) % 4294967296))
def qc1 (a b c d : Int) : Int := (c + qd1 a b d) % 4294967296
def qb1 (a b c d : Int) : Int := rl 12 (bits .xor .u32 b (qc1 a b c d))
def qa2 (a b c d : Int) : Int := (a + b + qb1 a b c d) % 4294967296
def qd2 (a b c d : Int) : Int := rl 8 (bits .xor .u32 (qd1 a b d) (qa2 a b c d))
def qc2 (a b c d : Int) : Int := (c + qd1 a b d + qd2 a b c d) % 4294967296
def qb2 (a b c d : Int) : Int := rl 7 (bits .xor .u32 (qb1 a b c d) (qc2 a b c d))
def qr (a b c d : Int) : Int × Int × Int × Int := (qa2 a b c d, qb2 a b c d, qc2 a b c d, qd2 a b c d)
theorem results_tmp4 {fn : Func} {t u v x : Tmp} (h : fn.results = #[.tmp t, .tmp u, .tmp v, .tmp x]) (tmps : Array Value) (P : Program) (w : World) :
    (results fn tmps).run P w = .ok (.tuple #[tmps.getD t undef, tmps.getD u undef, tmps.getD v undef, tmps.getD x undef]) w := by
  simp [results, h, go_sem]
theorem quarter_any (a b c d : Int) (w : World) :
    Calls Tryz.prog 139 #[.int .u32 a, .int .u32 b, .int .u32 c, .int .u32 d] w fun e w' => e = .returned (.tuple #[.int .u32 (qr a b c d).1, .int .u32 (qr a b c d).2.1, .int .u32 (qr a b c d).2.2.1, .int .u32 (qr a b c d).2.2.2]) ∧ w' = w := by
  have r16 := fun x wx => rot_any x 16 wx (.inl rfl)
  have r12 := fun x wx => rot_any x 12 wx (.inr (.inl rfl))
  have r8 := fun x wx => rot_any x 8 wx (.inr (.inr (.inl rfl)))
  have r7 := fun x wx => rot_any x 7 wx (.inr (.inr (.inr rfl)))
  go_enter Tryz.func139, Tryz.ntmps139
  go_wp2_with (go_at_call 137; first | (with_reducible refine (r16 _ _).mono ?_; rintro e w' ⟨rfl, rfl⟩) | (with_reducible refine (r12 _ _).mono ?_; rintro e w' ⟨rfl, rfl⟩) | (with_reducible refine (r8 _ _).mono ?_; rintro e w' ⟨rfl, rfl⟩) | (with_reducible refine (r7 _ _).mono ?_; rintro e w' ⟨rfl, rfl⟩))
  refine bodyPost_ret (results_tmp4 Tryz.results139 _ _ _) rfl ?_
  exact ⟨rfl, rfl⟩
end Go.Proofs.YtlhajphjppjlgaaGreatDoor
namespace Go.Proofs.YtlhajphjppjlgaaGreatDoor
open Go.RowKit
def U32 (x : Int) : Prop := 0 ≤ x ∧ x ≤ 4294967295
theorem U32.nat {x : Int} (h : U32 x) : ∃ n : Nat, n < 4294967296 ∧ x = n := ⟨x.toNat, by have := h.1; have := h.2; omega, by have := h.1; omega⟩
theorem four {l : List Int} (h : l.length = 4) : ∃ a b c d, l = [a, b, c, d] := by
  match l, h with
  | [a, b, c, d], _ => exact ⟨a, b, c, d, rfl⟩
end Go.Proofs.YtlhajphjppjlgaaGreatDoor
namespace Go.Proofs.YtlhajphjppjlgaaGreatDoor
open Go.RowKit
set_option maxRecDepth 20000
def wl (a b c d : Int) : Int :=
  bits .or .u32 (bits .or .u32 (bits .or .u32 (a % 4294967296) (b % 4294967296 * 256 % 4294967296)) (c % 4294967296 * 65536 % 4294967296)) (d % 4294967296 * 16777216 % 4294967296)
def wlAt (z : List Int) (i : Nat) : Int := wl (z[4 * i]?.getD 0) (z[4 * i + 1]?.getD 0) (z[4 * i + 2]?.getD 0) (z[4 * i + 3]?.getD 0)
def wlL (z : List Int) (k : Nat) : List Int := (List.range k).map (wlAt z)
theorem wlL_length (z : List Int) (k : Nat) : (wlL z k).length = k := by simp [wlL]
theorem wlL_succ (z : List Int) (k : Nat) : wlL z (k + 1) = wlL z k ++ [wlAt z k] := by simp [wlL, List.range_succ]
def fillK (l z : List Int) (o k : Nat) : List Int := l.take o ++ wlL z k ++ l.drop (o + k)
theorem fillK_length (l z : List Int) (o k : Nat) (h : o + k ≤ l.length) : (fillK l z o k).length = l.length := by
  simp [fillK, wlL_length]; omega
theorem fillK_zero (l z : List Int) (o : Nat) : fillK l z o 0 = l := by simp [fillK, wlL]
theorem fillK_set (l z : List Int) (o k : Nat) (h : o + k < l.length) : (fillK l z o k).set (o + k) (wlAt z k) = fillK l z o (k + 1) := by
  have e : l.drop (o + k) = l[o + k] :: l.drop (o + k + 1) := List.drop_eq_getElem_cons h
  have hl : (l.take o ++ wlL z k).length = o + k := by simp [wlL_length]; omega
  unfold fillK
  rw [e, List.set_append_right _ _ (by omega), hl, Nat.sub_self, sZ, wlL_succ]
  simp [Nat.add_assoc]
set_option maxHeartbeats 1000000 in
theorem fill_any (g o m cap bb bn bcap : Nat) (z l : List Int) (t : TypeId) (w : World) (hg : Holds w g .u32 t l) (hom : o + m ≤ l.length) (hm : m ≤ 16) (hcap : m ≤ cap) (hcap2 : cap ≤ 1000)
    (hne : bb < g) (hbn : bn = 4 * m) (hbc : bn ≤ bcap) (hbc2 : bcap ≤ 1000) (hcell : ∀ j, j < bn → w.cell? ⟨bb, j, none⟩ = some (.int .u8 (z[j]?.getD 0))) :
    Calls Tryz.prog 138 #[.slice (some ⟨g, o, none⟩) m cap, .slice (some ⟨bb, 0, none⟩) bn bcap] w fun e w' => (∃ v, e = .returned v) ∧ Below g w w' ∧ w'.heap.size = w.heap.size ∧ Holds w' g .u32 t (fillK l z o m) := by
  have HBN : Hid (bn = 4 * m) := hbn
  clear hbn
  go_enter Tryz.func138, Tryz.ntmps138
  go_wp2
  go_loopw [8] (fun i wr => ∃ k : Nat, k ≤ m ∧ i = .int .i64 k ∧ Below g w wr ∧ wr.heap.size = w.heap.size ∧ Holds wr g .u32 t (fillK l z o k))
    (fun i _ => m - (intOf i).toNat)
  case atStart => exact ⟨0, by omega, rfl, Below.refl _ _, rfl, by rw [fillK_zero]; exact hg⟩
  case round =>
    obtain ⟨k, hk, rfl, hB, hsz, hH⟩ := hrel
    by_cases hlt : k < m
    · obtain ⟨I, hI⟩ : ∃ I : Nat, 4 * k = I := ⟨_, rfl⟩
      have hbn := HBN.out
      have c : ∀ j, j < bn → wr.cell? ⟨bb, j, none⟩ = some (.int .u8 (z[j]?.getD 0)) := fun j hj => (hB.cell (p := ⟨bb, j, none⟩) hne).trans (hcell j hj)
      have c0 : wr.cell? ⟨bb, I, none⟩ = some (.int .u8 (z[4 * k]?.getD 0)) := by rw [hI]; exact c I (by omega)
      have c1 : wr.cell? ⟨bb, I + 1, none⟩ = some (.int .u8 (z[4 * k + 1]?.getD 0)) := by rw [hI]; exact c (I + 1) (by omega)
      have c2 : wr.cell? ⟨bb, I + 2, none⟩ = some (.int .u8 (z[4 * k + 2]?.getD 0)) := by rw [hI]; exact c (I + 2) (by omega)
      have c3 : wr.cell? ⟨bb, I + 3, none⟩ = some (.int .u8 (z[4 * k + 3]?.getD 0)) := by rw [hI]; exact c (I + 3) (by omega)
      have hcc := hH.cell (o + k) (by rw [fillK_length _ _ _ _ (by omega)]; omega)
      have hff := hH.frozen (o + k)
      have hnb : ¬ g = bb := by omega
      have hI' : (k : Int) * 4 = (I : Int) := by omega
      have i4 : (I : Int) + 3 < (bn : Int) := by omega
      have i3 : (I : Int) + 2 < (bn : Int) := by omega
      have i2 : (I : Int) + 1 < (bn : Int) := by omega
      have i1 : (I : Int) < (bn : Int) := by omega
      have j1 : IntKind.i64.wrap ((I : Int) + 1) = (I : Int) + 1 := by rw [IntKind.wrap_i64]; omega
      have j2 : IntKind.i64.wrap ((I : Int) + 2) = (I : Int) + 2 := by rw [IntKind.wrap_i64]; omega
      have j3 : IntKind.i64.wrap ((I : Int) + 3) = (I : Int) + 3 := by rw [IntKind.wrap_i64]; omega
      have n1 : (0 : Int) ≤ (I : Int) + 1 := by omega
      have n2 : (0 : Int) ≤ (I : Int) + 2 := by omega
      have n3 : (0 : Int) ≤ (I : Int) + 3 := by omega
      have t1 : ((I : Int) + 1).toNat = I + 1 := by omega
      have t2 : ((I : Int) + 2).toNat = I + 2 := by omega
      have t3 : ((I : Int) + 3).toNat = I + 3 := by omega
      have hki : (k : Int) < (m : Int) := by omega
      clear c hcell hbn
      go_upto_region 4 with fail
      have HI : Hid (4 * k = I) := hI
      clear hI hI'
      obtain ⟨Z0, hZ0⟩ : ∃ x, z[4 * k]?.getD 0 = x := ⟨_, rfl⟩
      obtain ⟨Z1, hZ1⟩ : ∃ x, z[4 * k + 1]?.getD 0 = x := ⟨_, rfl⟩
      obtain ⟨Z2, hZ2⟩ : ∃ x, z[4 * k + 2]?.getD 0 = x := ⟨_, rfl⟩
      obtain ⟨Z3, hZ3⟩ : ∃ x, z[4 * k + 3]?.getD 0 = x := ⟨_, rfl⟩
      rw [hZ0] at c0
      rw [hZ1] at c1
      rw [hZ2] at c2
      rw [hZ3] at c3
      have HZ : Hid (wlAt z k = wl Z0 Z1 Z2 Z3) := by show wlAt z k = _; unfold wlAt; rw [hZ0, hZ1, hZ2, hZ3]
      clear hZ0 hZ1 hZ2 hZ3
      go_region_held3 (fun w' => w'.cell? ⟨bb, I, none⟩ = some (.int .u8 Z0) ∧ w'.cell? ⟨bb, I + 1, none⟩ = some (.int .u8 Z1) ∧ w'.cell? ⟨bb, I + 2, none⟩ = some (.int .u8 Z2) ∧ w'.cell? ⟨bb, I + 3, none⟩ = some (.int .u8 Z3))
        (go_keep) (fail)
      go_wp2
      go_roundw
      case rel =>
        refine ⟨k + 1, by omega, by go_num, (hB.setCell (p := ⟨g, o + k, none⟩) (Nat.le_refl _) _).drew, by simp [hsz], ?_⟩
        have := (hH.set (o + k) (wlAt z k)).drew
        rw [fillK_set _ _ _ _ (by omega)] at this
        rw [HZ.out] at this
        exact this
      case measure => simp [intOf]; omega
    · obtain rfl : k = m := by omega
      go_wp2
      go_end0
      exact ⟨⟨_, rfl⟩, hB, hsz, hH⟩
end Go.Proofs.YtlhajphjppjlgaaGreatDoor
namespace Go.Proofs.YtlhajphjppjlgaaGreatDoor
open Go.RowKit
set_option maxRecDepth 20000
def at' (s : List Int) (i : Nat) : Int := s[i]?.getD 0
def qAt (s : List Int) (i j k l : Nat) : List Int :=
  (((s.set i (qr (at' s i) (at' s j) (at' s k) (at' s l)).1).set j (qr (at' s i) (at' s j) (at' s k) (at' s l)).2.1).set k (qr (at' s i) (at' s j) (at' s k) (at' s l)).2.2.1).set l (qr (at' s i) (at' s j) (at' s k) (at' s l)).2.2.2
theorem qAt_length (s : List Int) (i j k l : Nat) : (qAt s i j k l).length = s.length := by simp [qAt]
theorem Holds.at {w : World} {g : Nat} {t : TypeId} {l : List Int} (h : Holds w g .u32 t l) (j : Nat) (hj : j < l.length) : w.cell? ⟨g, j, none⟩ = some (.int .u32 (at' l j)) := h.cell j hj
theorem Holds.qAt {w : World} {g : Nat} {t : TypeId} {s : List Int} (h : Holds w g .u32 t s) (i j k l : Nat) :
    Holds ((((w.setCell ⟨g, i, none⟩ (.int .u32 (qr (at' s i) (at' s j) (at' s k) (at' s l)).1)).setCell ⟨g, j, none⟩ (.int .u32 (qr (at' s i) (at' s j) (at' s k) (at' s l)).2.1)).setCell ⟨g, k, none⟩ (.int .u32 (qr (at' s i) (at' s j) (at' s k) (at' s l)).2.2.1)).setCell ⟨g, l, none⟩ (.int .u32 (qr (at' s i) (at' s j) (at' s k) (at' s l)).2.2.2)) g .u32 t (qAt s i j k l) :=
  (((h.set i _).set j _).set k _).set l _
theorem below4 {B : Nat} {a w : World} (h : Below B a w) {g : Nat} (hg : B ≤ g) (i j k l : Nat) (v0 v1 v2 v3 : Value) :
    Below B a ((((w.setCell ⟨g, i, none⟩ v0).setCell ⟨g, j, none⟩ v1).setCell ⟨g, k, none⟩ v2).setCell ⟨g, l, none⟩ v3) :=
  (((h.setCell (p := ⟨g, i, none⟩) hg _).setCell (p := ⟨g, j, none⟩) hg _).setCell (p := ⟨g, k, none⟩) hg _).setCell (p := ⟨g, l, none⟩) hg _
end Go.Proofs.YtlhajphjppjlgaaGreatDoor
