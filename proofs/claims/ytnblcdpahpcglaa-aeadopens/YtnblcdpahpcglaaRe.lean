/- The reference's Sum as numbers: the row that is added, the product, the last sum. Pure. -/
import Derived.Test.YtnblcdpahpcglaaRq
namespace Go.Proofs.Ytnblcdpahpcglaa
open Go.RowKit
set_option maxRecDepth 20000

/-- The first j places of two rows, added. -/
def xK (A P : List Int) (j : Nat) : List Int := (List.range j).map fun q => A[q]?.getD 0 + P[q]?.getD 0
theorem xK_zero (A P : List Int) : xK A P 0 = [] := rfl
theorem xK_succ (A P : List Int) (j : Nat) : xK A P (j + 1) = xK A P j ++ [A[j]?.getD 0 + P[j]?.getD 0] := by
  unfold xK; rw [List.range_succ, List.map_append]; rfl
theorem xK_length (A P : List Int) (j : Nat) : (xK A P j).length = j := by simp [xK]
theorem xK_val (A P : List Int) (j : Nat) : leN (xK A P j) = leN (A.take j) + leN (P.take j) := by
  induction j with
  | zero => simp [xK, leN]
  | succ j ih =>
    rw [xK_succ, leN_snoc, xK_length, ih, takeN_val, takeN_val, Int.mul_add]
    omega
theorem xK_all (A P : List Int) (hA : ∀ v ∈ A, isB v) (hP : ∀ v ∈ P, isB v) (j : Nat) : ∀ v ∈ xK A P j, 0 ≤ v ∧ v ≤ 2000000 := by
  intro v hv
  unfold xK at hv
  obtain ⟨q, -, rfl⟩ := List.mem_map.1 hv
  have h1 := getH (B := 255) (by omega) hA q
  have h2 := getH (B := 255) (by omega) hP q
  omega
theorem take17 (A : List Int) (hA : ∀ v ∈ A, isB v) (h : leN A < 1361129467683753853853498429727072845819) : leN (A.take 17) = leN A := by
  by_cases hl : 17 ≤ A.length
  · have h17 := leN_split A 17 hl
    have hd0 := (leN_lt (A.drop 17) (fun v hv => hA v (List.mem_of_mem_drop hv))).1
    have ht0 := (leN_lt (A.take 17) (fun v hv => hA v (List.mem_of_mem_take hv))).1
    have e17 : (256 : Int) ^ 17 = 87112285931760246646623899502532662132736 := by decide
    rw [e17] at h17
    have : leN (A.drop 17) = 0 := by omega
    omega
  · rw [List.take_of_length_le (by omega)]
/-- A block is added: what the row x holds. -/
theorem x_val (A P : List Int) (hA : ∀ v ∈ A, isB v) (h : leN A < 1361129467683753853853498429727072845819) (hP : P.length ≤ 17) (N : Nat) (hN : 17 ≤ N) (hc : cK (xK A P 17) N = 0) : leN (oK (xK A P 17) N) = leN A + leN P := by
  rw [oK_done _ N (by rw [xK_length]; exact hN) hc, xK_val, take17 A hA h, List.take_of_length_le hP]
/-- The product, as far as place j of the one and place m of the other row: its number, its bounds. -/
structure ProdAt (X r : List Int) (j m : Nat) (p : List Int) : Prop where
  len : p.length = X.length + 16
  val : leN p = leN (X.take j) * leN r + 256 ^ j * (X[j]?.getD 0 * leN (r.take m))
  low : ∀ q : Nat, (0 : Int) ≤ p[q]?.getD (0 : Int)
  top : ∀ q : Nat, p[q]?.getD (0 : Int) ≤ (j : Int) * 65025 + if q < j + m then 65025 else 0
theorem ProdAt.start (X r : List Int) : ProdAt X r 0 0 (List.replicate (X.length + 16) 0) :=
  ⟨by simp, by rw [leN_zeros]; simp [leN], fun q => by rw [List.getElem?_replicate]; split <;> simp, fun q => by rw [List.getElem?_replicate]; split <;> simp⟩
theorem mul_255 {a b : Int} (h0 : 0 ≤ a) (h1 : a ≤ 255) (h2 : 0 ≤ b) (h3 : b ≤ 255) : 0 ≤ a * b ∧ a * b ≤ 65025 :=
  ⟨Int.mul_nonneg h0 h2, by have := Int.mul_le_mul h1 h3 h2 (by omega : (0 : Int) ≤ 255); omega⟩
theorem ProdAt.step {X r p : List Int} {j m : Nat} (h : ProdAt X r j m p) (hX : ∀ v ∈ X, isB v) (hr : ∀ v ∈ r, isB v) (hj : j < X.length) (hm : m < 16) :
    ProdAt X r j (m + 1) (p.set (j + m) (p[j + m]?.getD 0 + X[j]?.getD 0 * r[m]?.getD 0)) := by
  have hx := getH (B := 255) (by omega) hX j
  have hy := getH (B := 255) (by omega) hr m
  have hm5 := mul_255 hx.1 hx.2 hy.1 hy.2
  have hl := h.len
  refine ⟨by rw [List.length_set]; exact hl, ?_, fun q => ?_, fun q => ?_⟩
  · rw [leN_set _ _ _ (by omega), h.val, takeN_val r m, Int.pow_add]
    generalize leN (X.take j) * leN r = A
    generalize p[j + m]?.getD (0 : Int) = B
    generalize X[j]?.getD (0 : Int) = x
    generalize r[m]?.getD (0 : Int) = y
    generalize leN (r.take m) = R
    generalize (256 : Int) ^ j = u
    generalize (256 : Int) ^ m = v
    grind
  · by_cases hq : j + m = q
    · subst hq
      rw [List.getElem?_set_self (by omega)]
      have := h.low (j + m)
      simp only [Option.getD_some]
      omega
    · rw [List.getElem?_set_ne hq]; exact h.low q
  · by_cases hq : j + m = q
    · subst hq
      rw [List.getElem?_set_self (by omega), if_pos (by omega)]
      have := h.top (j + m)
      rw [if_neg (by omega)] at this
      simp only [Option.getD_some]
      omega
    · rw [List.getElem?_set_ne hq]
      have := h.top q
      split at this <;> split <;> omega
theorem ProdAt.next {X r p : List Int} {j : Nat} (h : ProdAt X r j 16 p) (hr : r.length = 16) : ProdAt X r (j + 1) 0 p := by
  refine ⟨h.len, ?_, h.low, fun q => ?_⟩
  · rw [h.val, takeN_val X j, List.take_of_length_le (l := r) (by omega)]
    simp only [List.take_zero, leN]
    generalize leN (X.take j) = A
    generalize X[j]?.getD (0 : Int) = x
    generalize leN r = R
    generalize (256 : Int) ^ j = u
    grind
  · have := h.top q
    split at this <;> split <;> omega
theorem ProdAt.done {X r p : List Int} (h : ProdAt X r X.length 0 p) (hl : X.length ≤ 19) : leN p = leN X * leN r ∧ ∀ v ∈ p, 0 ≤ v ∧ v ≤ 2000000 := by
  constructor
  · rw [h.val, List.take_of_length_le (Nat.le_refl _)]
    simp [leN]
  · intro v hv
    obtain ⟨i, hi, rfl⟩ := List.getElem_of_mem hv
    have h1 := h.low i
    have h2 := h.top i
    rw [List.getElem?_eq_getElem hi] at h1 h2
    simp only [Option.getD_some] at h1 h2
    split at h2 <;> omega
/-- Blocks one behind the other. -/
def accK (r : Int) (z : List Int) (i : Nat) : Int := accF r ((List.range i).map fun i => leN (blkP z i))
theorem accK_zero (r : Int) (z : List Int) : accK r z 0 = 0 := rfl
theorem accK_succ (r : Int) (z : List Int) (i : Nat) : accK r z (i + 1) = (accK r z i + leN (blkP z i)) * r % 1361129467683753853853498429727072845819 := by
  unfold accK accF
  rw [List.range_succ, List.map_append, List.foldl_append]; rfl
theorem accK_in (r : Int) (z : List Int) (i : Nat) : 0 ≤ accK r z i ∧ accK r z i < 1361129467683753853853498429727072845819 := by
  cases i with
  | zero => rw [accK_zero]; omega
  | succ i => rw [accK_succ]; omega
/-- A block's bytes, one by one: the bytes, a byte 1 behind them, noughts. -/
theorem blkP_get (z : List Int) (i j n : Nat) (hn : n = min 16 (z.length - 16 * i)) (hj : j < 17) : (blkP z i)[j]?.getD 0 = if j < n then z[16 * i + j]?.getD 0 else if j = n then 1 else 0 := by
  unfold blkP
  have hl : ((z.drop (16 * i)).take 16).length = n := by rw [List.length_take, List.length_drop]; omega
  have hn16 : n ≤ 16 := by omega
  by_cases h1 : j < n
  · rw [if_pos h1, List.getElem?_set_ne (by omega), List.getElem?_append_left (by omega), List.getElem?_take_of_lt (by omega), List.getElem?_drop]
  · rw [if_neg h1]
    by_cases h2 : j = n
    · subst h2
      rw [if_pos rfl, hl, List.getElem?_set_self (by rw [List.length_append, hl, List.length_replicate]; omega)]; rfl
    · rw [if_neg h2, hl, List.getElem?_set_ne (by omega), List.getElem?_append_right (by omega), List.getElem?_replicate]
      split <;> rfl
/-- What the reference tells is the tag. -/
theorem ref_done (k z A : List Int) (hk : k.length = 32) (hu : ∀ v ∈ k, isB v) (hz : ∀ v ∈ z, isB v) (hA : ∀ v ∈ A, isB v) (hv : leN A = accK (leN (clampL k)) z ((z.length + 15) / 16)) (N : Nat) (hN : 17 ≤ N) (hc : cK (xK A (k.drop 16) 17) N = 0) :
    polyL k z = (oK (xK A (k.drop 16) 17) N).take 16 := by
  have hi := accK_in (leN (clampL k)) z ((z.length + 15) / 16)
  have e := x_val A (k.drop 16) hA (by omega) (by rw [List.length_drop]; omega) N hN hc
  rw [poly_val k z hk hu hz, le16_leB, ← leB_leN 16 _ (oK_isB _ N) (by rw [oK_length]; omega), e, hv]
  rfl
end Go.Proofs.Ytnblcdpahpcglaa
