/- The reference's rows of numbers: what 'carry' and 'reduced' make of a row, as one number. Pure. -/
import Derived.Test.YtnblcdpahpcglaaPz2
namespace Go.Proofs.Ytnblcdpahpcglaa
open Go.RowKit
set_option maxRecDepth 20000

theorem leN_append (xs ys : List Int) : leN (xs ++ ys) = leN xs + 256 ^ xs.length * leN ys := by
  induction xs with
  | nil => simp [leN]
  | cons x xs ih =>
    rw [List.cons_append, leN, leN, ih, List.length_cons, Int.pow_succ, Int.mul_add]
    have : 256 * (256 ^ xs.length * leN ys) = 256 ^ xs.length * 256 * leN ys := by grind
    omega
theorem leN_snoc (xs : List Int) (a : Int) : leN (xs ++ [a]) = leN xs + 256 ^ xs.length * a := by
  rw [leN_append]
  simp [leN]
/-- What is carried into place i, and the places below. -/
def cK (l : List Int) : Nat → Int
  | 0 => 0
  | i + 1 => (cK l i + l[i]?.getD 0) / 256
def oK (l : List Int) : Nat → List Int
  | 0 => []
  | i + 1 => oK l i ++ [(cK l i + l[i]?.getD 0) % 256]
theorem oK_length (l : List Int) (i : Nat) : (oK l i).length = i := by
  induction i with
  | zero => rfl
  | succ i ih => simp [oK, ih]
theorem oK_isB (l : List Int) (i : Nat) : ∀ v ∈ oK l i, isB v := by
  induction i with
  | zero => intro v hv; cases hv
  | succ i ih =>
    intro v hv
    rcases List.mem_append.1 hv with h | h
    · exact ih v h
    · rw [List.mem_singleton.1 h]; unfold isB; omega
theorem cK_pos (l : List Int) (h : ∀ v ∈ l, 0 ≤ v) (i : Nat) : 0 ≤ cK l i := by
  induction i with
  | zero => exact Int.le_refl _
  | succ i ih =>
    have hv : 0 ≤ l[i]?.getD 0 := by
      by_cases hi : i < l.length
      · rw [List.getElem?_eq_getElem hi]; exact h _ (List.getElem_mem hi)
      · rw [List.getElem?_eq_none (by omega)]; exact Int.le_refl _
    simp only [cK]
    omega
theorem takeN_val (l : List Int) (i : Nat) : leN (l.take (i + 1)) = leN (l.take i) + 256 ^ i * l[i]?.getD 0 := by
  by_cases hi : i < l.length
  · rw [List.take_succ_eq_append_getElem hi, leN_snoc, List.length_take, Nat.min_eq_left (by omega), List.getElem?_eq_getElem hi]
    rfl
  · rw [List.take_of_length_le (by omega), List.take_of_length_le (by omega), List.getElem?_eq_none (by omega)]
    simp
/-- The row that was carried as far as place i, and what is carried, are the number. -/
theorem oK_val (l : List Int) (i : Nat) : leN (oK l i) + 256 ^ i * cK l i = leN (l.take i) := by
  induction i with
  | zero => simp [oK, cK, leN]
  | succ i ih =>
    rw [takeN_val, ← ih]
    simp only [oK, cK]
    rw [leN_snoc, oK_length]
    generalize hv : l[i]?.getD (0 : Int) = v
    generalize cK l i = c
    generalize leN (oK l i) = o
    have e := Int.mul_ediv_add_emod (c + v) 256
    have e2 : (256 : Int) ^ (i + 1) = 256 ^ i * 256 := Int.pow_succ _ _
    rw [e2]
    generalize (256 : Int) ^ i = p at *
    generalize hq : (c + v) / 256 = q at *
    generalize hr : (c + v) % 256 = r at *
    have : p * (c + v) = p * (256 * q + r) := by rw [e]
    grind
theorem oK_done (l : List Int) (i : Nat) (hi : l.length ≤ i) (hc : cK l i = 0) : leN (oK l i) = leN l := by
  have h := oK_val l i
  rw [hc, Int.mul_zero, Int.add_zero, List.take_of_length_le hi] at h
  exact h
/-- Beyond the row's end what is carried shrinks. -/
theorem cK_less (l : List Int) (i : Nat) (hi : l.length ≤ i) (hc : 0 < cK l i) : cK l (i + 1) < cK l i := by
  simp only [cK]
  rw [List.getElem?_eq_none (by omega)]
  simp only [Option.getD_none]
  omega
/-- The numbers above 130 bits, a byte each. -/
def highs : List Int → List Int
  | [] => []
  | a :: u => (a / 4 + u[0]?.getD 0 % 4 * 64) :: highs u
theorem highs_val : ∀ u : List Int, 4 * leN (highs u) + u[0]?.getD 0 % 4 = leN u
  | [] => by simp [highs, leN]
  | a :: u => by
    have ih := highs_val u
    simp only [highs, leN, List.getElem?_cons_zero, Option.getD_some]
    omega
theorem highs_get : ∀ (u : List Int) (i : Nat), i < u.length → (highs u)[i]?.getD 0 = u[i]?.getD 0 / 4 + u[i + 1]?.getD 0 % 4 * 64
  | [], i, h => by simp at h
  | a :: u, 0, _ => by simp [highs]
  | a :: u, i + 1, h => by
    have := highs_get u i (by simpa using h)
    simpa [highs] using this
theorem highs_eq (u : List Int) : leN (highs u) = leN u / 4 := by
  have h := highs_val u
  omega
/-- A row of bytes is less than its length says; its bytes are its number's. -/
theorem leN_lt (l : List Int) (h : ∀ v ∈ l, isB v) : 0 ≤ leN l ∧ leN l < 256 ^ l.length := by
  induction l with
  | nil => simp [leN]
  | cons a l ih =>
    have h1 := ih (fun v hv => h v (List.mem_cons_of_mem _ hv))
    have h2 := h a (by simp)
    unfold isB at h2
    rw [leN, List.length_cons, Int.pow_succ]
    omega
theorem leN_split (l : List Int) (i : Nat) (hi : i ≤ l.length) : leN l = leN (l.take i) + 256 ^ i * leN (l.drop i) := by
  have := leN_append (l.take i) (l.drop i)
  rw [List.take_append_drop, List.length_take, Nat.min_eq_left hi] at this
  exact this
/-- One pass of 'reduced': what lies above 130 bits is added five times. -/
theorem pass_val (L r q : Int) (h : L = r + 1361129467683753853853498429727072845824 * q) : r + 5 * q = L - q * 1361129467683753853853498429727072845819 := by omega
end Go.Proofs.Ytnblcdpahpcglaa
