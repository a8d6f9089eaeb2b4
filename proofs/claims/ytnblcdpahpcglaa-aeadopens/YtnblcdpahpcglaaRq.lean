/- The reference's passes as numbers: what lies above 130 bits, the pass that adds it five times, the row that is 5 more, the product, the bytes. Pure. -/
import Derived.Test.YtnblcdpahpcglaaRp
namespace Go.Proofs.Ytnblcdpahpcglaa
open Go.RowKit
set_option maxRecDepth 20000

theorem leN_set : ∀ (l : List Int) (i : Nat) (v : Int), i < l.length → leN (l.set i v) = leN l + 256 ^ i * (v - l[i]?.getD 0)
  | [], i, v, h => by simp at h
  | a :: l, 0, v, _ => by simp only [List.set_cons_zero, leN, List.getElem?_cons_zero, Option.getD_some]; omega
  | a :: l, i + 1, v, h => by
    have ih := leN_set l i v (by simpa using h)
    rw [List.set_cons_succ, leN, leN, ih, List.getElem?_cons_succ, Int.pow_succ]
    generalize (256 : Int) ^ i = p
    generalize v - l[i]?.getD (0 : Int) = d
    grind
theorem leN_zeros (m : Nat) : leN (List.replicate m 0) = 0 := by
  induction m with
  | zero => rfl
  | succ m ih => rw [List.replicate_succ, leN, ih]; rfl
theorem leN_pad (l : List Int) (m : Nat) : leN (l ++ List.replicate m 0) = leN l := by rw [leN_append, leN_zeros]; simp
theorem leN_nonneg (l : List Int) (h : ∀ v ∈ l, 0 ≤ v) : 0 ≤ leN l := by
  induction l with
  | nil => simp [leN]
  | cons a l ih =>
    have h1 := ih (fun v hv => h v (List.mem_cons_of_mem _ hv))
    have h2 := h a (by simp)
    rw [leN]; omega
theorem leN_pos (l : List Int) (h : ∀ v ∈ l, 0 ≤ v) : 0 < leN l ↔ ∃ j, j < l.length ∧ 0 < l[j]?.getD 0 := by
  induction l with
  | nil => simp [leN]
  | cons a l ih =>
    have h1 := ih (fun v hv => h v (List.mem_cons_of_mem _ hv))
    have h2 := h a (by simp)
    have h3 := leN_nonneg l (fun v hv => h v (List.mem_cons_of_mem _ hv))
    rw [leN]
    constructor
    · intro hp
      by_cases ha : 0 < a
      · exact ⟨0, by simp, by simpa using ha⟩
      · obtain ⟨j, hj, hv⟩ := h1.1 (by omega)
        exact ⟨j + 1, by simpa using hj, by simpa using hv⟩
    · rintro ⟨j, hj, hv⟩
      cases j with
      | zero => simp at hv; omega
      | succ j =>
        have := h1.2 ⟨j, by simpa using hj, by simpa using hv⟩
        omega
/-- The lowest bytes of a row's number are the row's own. -/
theorem leB_leN : ∀ (j : Nat) (l : List Int), (∀ v ∈ l, isB v) → j ≤ l.length → leB j (leN l) = l.take j
  | 0, l, _, _ => by simp [leB]
  | j + 1, [], _, h => by simp at h
  | j + 1, a :: l, hb, h => by
    have ih := leB_leN j l (fun v hv => hb v (List.mem_cons_of_mem _ hv)) (by simpa using h)
    have ha := hb a (by simp)
    unfold isB at ha
    simp only [leB, leN, List.take_succ_cons]
    rw [show (a + 256 * leN l) % 256 = a by omega, show (a + 256 * leN l) / 256 = leN l by omega, ih]
/-- Some number above 130 bits. -/
def Above (L : List Int) (i : Nat) : Prop := ∃ j, 16 ≤ j ∧ j < i ∧ 0 < L[j]?.getD (0 : Int) ∧ (16 < j ∨ 3 < L[j]?.getD (0 : Int))
theorem above_succ (L : List Int) (i : Nat) (hi : 16 ≤ i) : Above L (i + 1) ↔ Above L i ∨ (0 < L[i]?.getD (0 : Int) ∧ (16 < i ∨ 3 < L[i]?.getD (0 : Int))) := by
  unfold Above
  constructor
  · rintro ⟨j, h1, h2, h3, h4⟩
    by_cases hji : j = i
    · subst hji; exact .inr ⟨h3, h4⟩
    · exact .inl ⟨j, h1, by omega, h3, h4⟩
  · rintro (⟨j, h1, h2, h3, h4⟩ | ⟨h3, h4⟩)
    · exact ⟨j, h1, by omega, h3, h4⟩
    · exact ⟨i, hi, by omega, h3, h4⟩
theorem split16 (L : List Int) (hL : ∀ v ∈ L, isB v) (hn : 17 ≤ L.length) : ∃ (lo : List Int) (a : Int) (u : List Int), L = lo ++ a :: u ∧ lo.length = 16 ∧ L.take 16 = lo ∧ L.drop 16 = a :: u ∧ L[16]?.getD 0 = a ∧ isB a ∧ (∀ v ∈ u, isB v) ∧ 0 ≤ leN lo ∧ leN lo < 340282366920938463463374607431768211456 ∧ leN L = leN lo + 340282366920938463463374607431768211456 * (a + 256 * leN u) ∧ 0 ≤ leN u := by
  have e : L = L.take 16 ++ L[16] :: L.drop 17 := by
    rw [← List.drop_eq_getElem_cons (by omega), List.take_append_drop]
  have hl : (L.take 16).length = 16 := by rw [List.length_take]; omega
  have hlt := leN_lt (L.take 16) (fun v hv => hL v (List.mem_of_mem_take hv))
  rw [hl] at hlt
  have hu : ∀ v ∈ L.drop 17, isB v := fun v hv => hL v (List.mem_of_mem_drop hv)
  refine ⟨L.take 16, L[16], L.drop 17, e, hl, rfl, List.drop_eq_getElem_cons (by omega), by rw [List.getElem?_eq_getElem (by omega)]; rfl, hL _ (List.getElem_mem _), hu, hlt.1, hlt.2, ?_, (leN_lt _ hu).1⟩
  have h := leN_split L 16 (by omega)
  rw [List.drop_eq_getElem_cons (i := 16) (by omega), leN] at h
  exact h
theorem above_iff (L : List Int) (hL : ∀ v ∈ L, isB v) (hn : 17 ≤ L.length) : Above L L.length ↔ 1361129467683753853853498429727072845824 ≤ leN L := by
  obtain ⟨lo, a, u, e, hlo, ht, hd, ha, hab, hub, h0, h1, hv, hu0⟩ := split16 L hL hn
  have hpos := leN_pos u (fun v hv => (hub v hv).1)
  have hget : ∀ j, L[17 + j]?.getD 0 = u[j]?.getD 0 := fun j => by
    rw [e, List.getElem?_append_right (by omega), hlo, show 17 + j - 16 = j + 1 by omega, List.getElem?_cons_succ]
  have hlen : L.length = 17 + u.length := by rw [e, List.length_append, List.length_cons, hlo]; omega
  unfold isB at hab
  constructor
  · rintro ⟨j, j1, j2, j3, j4⟩
    by_cases hj : j = 16
    · subst hj
      rw [ha] at j3 j4
      have : 3 < a := by omega
      omega
    · obtain ⟨i, rfl⟩ : ∃ i, j = 17 + i := ⟨j - 17, by omega⟩
      rw [hget] at j3
      have := hpos.2 ⟨i, by omega, j3⟩
      omega
  · intro hbig
    by_cases hz : 0 < leN u
    · obtain ⟨j, hj, hjv⟩ := hpos.1 hz
      exact ⟨17 + j, by omega, by omega, by rw [hget]; exact hjv, .inl (by omega)⟩
    · have : 3 < a := by omega
      exact ⟨16, by omega, by omega, by rw [ha]; omega, .inr (by rw [ha]; exact this)⟩
/-- One pass: the low 130 bits, and five times what lies above them. -/
def lowS (L : List Int) : List Int := L.take 16 ++ [L[16]?.getD 0 % 4]
def lowR (L : List Int) : Nat → List Int
  | 0 => lowS L
  | j + 1 => (lowR L j ++ List.replicate (j + 1 - (lowR L j).length) 0).set j ((lowR L j)[j]?.getD 0 + 5 * (highs (L.drop 16))[j]?.getD 0)
theorem lowR_val (L : List Int) (j : Nat) : leN (lowR L j) = leN (lowS L) + 5 * leN ((highs (L.drop 16)).take j) := by
  induction j with
  | zero => simp [lowR, leN]
  | succ j ih =>
    simp only [lowR]
    rw [leN_set _ _ _ (by rw [List.length_append, List.length_replicate]; omega), leN_pad, ih, takeN_val]
    have e : (lowR L j ++ List.replicate (j + 1 - (lowR L j).length) 0)[j]?.getD (0 : Int) = (lowR L j)[j]?.getD 0 := by
      by_cases hj : j < (lowR L j).length
      · rw [List.getElem?_append_left hj]
      · rw [List.getElem?_append_right (by omega), List.getElem?_replicate, List.getElem?_eq_none (by omega)]
        split <;> rfl
    rw [e]
    generalize (256 : Int) ^ j = p
    generalize (highs (L.drop 16))[j]?.getD (0 : Int) = h
    generalize (lowR L j)[j]?.getD (0 : Int) = q
    grind
theorem highs_length : ∀ u : List Int, (highs u).length = u.length
  | [] => rfl
  | a :: u => by simp [highs, highs_length u]
theorem low_val (L : List Int) (hL : ∀ v ∈ L, isB v) (hn : 17 ≤ L.length) : leN (lowR L (L.length - 16)) = leN L % 1361129467683753853853498429727072845824 + 5 * (leN L / 1361129467683753853853498429727072845824) := by
  obtain ⟨lo, a, u, e, hlo, ht, hd, ha, hab, hub, h0, h1, hv, hu0⟩ := split16 L hL hn
  rw [lowR_val, List.take_of_length_le (by rw [highs_length, List.length_drop]; omega), highs_eq, hd]
  unfold lowS
  rw [ht, ha, leN_snoc, hlo, hv, leN]
  have e16 : (256 : Int) ^ 16 = 340282366920938463463374607431768211456 := by decide
  rw [e16]
  have h4 : (a + 256 * leN u) % 4 = a % 4 := by omega
  rw [← h4]
  clear hv h4
  generalize leN lo = x at *
  generalize a + 256 * leN u = t at *
  omega
theorem lowR_length (L : List Int) (hn : 17 ≤ L.length) (j : Nat) : (lowR L j).length = max 17 j := by
  induction j with
  | zero => simp only [lowR, lowS, List.length_append, List.length_take, List.length_cons, List.length_nil]; omega
  | succ j ih => simp only [lowR, List.length_set, List.length_append, List.length_replicate, ih]; omega
theorem high_get (L : List Int) (j : Nat) (hj : 16 + j < L.length) : (highs (L.drop 16))[j]?.getD 0 = L[16 + j]?.getD 0 / 4 + L[16 + j + 1]?.getD 0 % 4 * 64 := by
  rw [highs_get _ _ (by rw [List.length_drop]; omega), List.getElem?_drop, List.getElem?_drop, Nat.add_assoc]
theorem getH {z : List Int} {B : Int} (hB : 0 ≤ B) (h : ∀ v ∈ z, 0 ≤ v ∧ v ≤ B) (k : Nat) : (0 : Int) ≤ z[k]?.getD (0 : Int) ∧ z[k]?.getD (0 : Int) ≤ B := by
  by_cases hk : k < z.length
  · rw [List.getElem?_eq_getElem hk]; exact h _ (List.getElem_mem hk)
  · rw [List.getElem?_eq_none (by omega)]; exact ⟨Int.le_refl _, hB⟩
theorem high_in (L : List Int) (hL : ∀ v ∈ L, isB v) (j : Nat) : 0 ≤ (highs (L.drop 16))[j]?.getD 0 ∧ (highs (L.drop 16))[j]?.getD 0 ≤ 255 := by
  by_cases hj : 16 + j < L.length
  · rw [high_get L j hj]
    have h1 := getH (B := 255) (by omega) hL (16 + j)
    have h2 := getH (B := 255) (by omega) hL (16 + j + 1)
    omega
  · rw [List.getElem?_eq_none (by rw [highs_length, List.length_drop]; omega)]
    simp
theorem lowR_in (L : List Int) (hL : ∀ v ∈ L, isB v) (j p : Nat) : 0 ≤ (lowR L j)[p]?.getD 0 ∧ (lowR L j)[p]?.getD 0 ≤ if p < j then 1530 else 255 := by
  induction j generalizing p with
  | zero =>
    rw [if_neg (by omega)]
    simp only [lowR, lowS]
    refine getH (by omega) (fun v hv => ?_) p
    rcases List.mem_append.1 hv with h | h
    · exact hL v (List.mem_of_mem_take h)
    · have h1 := getH (B := 255) (by omega) hL 16
      rw [List.mem_singleton.1 h]; omega
  | succ j ih =>
    have hh := high_in L hL j
    have ih1 := ih p
    have ih2 := ih j
    rw [if_neg (by omega)] at ih2
    simp only [lowR]
    by_cases hp : j = p
    · subst hp
      rw [List.getElem?_set_self (by rw [List.length_append, List.length_replicate]; omega), if_pos (by omega)]
      simp only [Option.getD_some]
      omega
    · rw [List.getElem?_set_ne hp]
      have e : (lowR L j ++ List.replicate (j + 1 - (lowR L j).length) 0)[p]?.getD (0 : Int) = (lowR L j)[p]?.getD 0 := by
        by_cases hj : p < (lowR L j).length
        · rw [List.getElem?_append_left hj]
        · rw [List.getElem?_append_right (by omega), List.getElem?_replicate, List.getElem?_eq_none (by omega)]
          split <;> rfl
      rw [e]
      split at ih1 <;> split <;> omega
theorem lowR_all (L : List Int) (hL : ∀ v ∈ L, isB v) (j : Nat) : ∀ v ∈ lowR L j, 0 ≤ v ∧ v ≤ 2000000 := fun v hv => by
  obtain ⟨i, hi, rfl⟩ := List.getElem_of_mem hv
  have h := lowR_in L hL j i
  rw [List.getElem?_eq_getElem hi] at h
  simp only [Option.getD_some] at h
  split at h <;> omega
/-- The pass keeps the number modulo 2^130 - 5, and makes it less. -/
theorem pass_ok (L : List Int) (hL : ∀ v ∈ L, isB v) (hn : 17 ≤ L.length) (ha : Above L L.length) (N : Nat) (hN : (lowR L (L.length - 16)).length ≤ N) (hc : cK (lowR L (L.length - 16)) N = 0) :
    leN (oK (lowR L (L.length - 16)) N) % 1361129467683753853853498429727072845819 = leN L % 1361129467683753853853498429727072845819 ∧ 0 ≤ leN (oK (lowR L (L.length - 16)) N) ∧ leN (oK (lowR L (L.length - 16)) N) < leN L := by
  rw [oK_done _ N hN hc, low_val L hL hn]
  have hb := (above_iff L hL hn).1 ha
  generalize leN L = x at *
  have e : x = (x % 1361129467683753853853498429727072845824 + 5 * (x / 1361129467683753853853498429727072845824)) + x / 1361129467683753853853498429727072845824 * 1361129467683753853853498429727072845819 := by omega
  refine ⟨?_, by omega, by omega⟩
  conv => rhs; rw [e]
  rw [Int.add_mul_emod_self_right]
/-- The row that is 5 more. -/
def fiveK (R : List Int) : Nat → List Int
  | 0 => [5]
  | j + 1 => (5 + R[0]?.getD 0) :: (R.drop 1).take j
theorem fiveK_length (R : List Int) (hn : 17 ≤ R.length) (j : Nat) (hj : j < 17) : (fiveK R (j + 1)).length = j + 1 := by
  simp only [fiveK, List.length_cons, List.length_take, List.length_drop]; omega
theorem fiveK_succ (R : List Int) (hn : 17 ≤ R.length) (j : Nat) (hj : j + 1 < 17) : fiveK R (j + 1 + 1) = fiveK R (j + 1) ++ [R[j + 1]?.getD 0] := by
  simp only [fiveK]
  rw [take_next (R.drop 1) j (by rw [List.length_drop]; omega), List.getElem?_drop, List.cons_append, Nat.add_comm 1 j]
theorem fiveK_all (R : List Int) (hR : ∀ v ∈ R, isB v) (j : Nat) : ∀ v ∈ fiveK R j, 0 ≤ v ∧ v ≤ 2000000 := by
  intro v hv
  cases j with
  | zero => simp [fiveK] at hv; omega
  | succ j =>
    rcases List.mem_cons.1 hv with rfl | h
    · have := getH (B := 255) (by omega) hR 0
      omega
    · have := hR v (List.mem_of_mem_drop (List.mem_of_mem_take h))
      unfold isB at this
      omega
theorem tail_ok (R : List Int) (hR : ∀ v ∈ R, isB v) (hn : 17 ≤ R.length) (ha : ¬ Above R R.length) (N : Nat) (hN : 17 ≤ N) (hc : cK (fiveK R 17) N = 0) :
    ((4 : Int) ≤ (oK (fiveK R 17) N)[16]?.getD (0 : Int) → leN ((oK (fiveK R 17) N).set 16 ((oK (fiveK R 17) N)[16]?.getD (0 : Int) - 4)) = leN R % 1361129467683753853853498429727072845819) ∧
    (¬ (4 : Int) ≤ (oK (fiveK R 17) N)[16]?.getD (0 : Int) → leN R = leN R % 1361129467683753853853498429727072845819) := by
  have hlt : leN R < 1361129467683753853853498429727072845824 := by
    exact Int.lt_of_not_ge (fun h => ha ((above_iff R hR hn).2 h))
  have h17 := leN_split R 17 hn
  have hd0 := (leN_lt (R.drop 17) (fun v hv => hR v (List.mem_of_mem_drop hv))).1
  have ht0 := (leN_lt (R.take 17) (fun v hv => hR v (List.mem_of_mem_take hv))).1
  have e17 : (256 : Int) ^ 17 = 87112285931760246646623899502532662132736 := by decide
  rw [e17] at h17
  have hv : leN (fiveK R 17) = 5 + leN (R.take 17) := by
    have e : R.take 17 = R[0]?.getD 0 :: (R.drop 1).take 16 := by
      cases R with
      | nil => simp at hn
      | cons a R => simp
    rw [e]
    simp only [fiveK, leN]
    omega
  have hF := oK_done (fiveK R 17) N (by rw [fiveK_length R hn 16 (by omega)]; omega) hc
  have hFb := oK_isB (fiveK R 17) N
  have hFl := oK_length (fiveK R 17) N
  rw [hv] at hF
  obtain ⟨F, hFe⟩ : ∃ q, oK (fiveK R 17) N = q := ⟨_, rfl⟩
  rw [hFe] at hF hFb hFl ⊢
  obtain ⟨lo, a, u, e, hlo, ht, hd, hae, hab, hub, h0, h1, hsp, hu0⟩ := split16 F hFb (by omega)
  unfold isB at hab
  have e16 : (256 : Int) ^ 16 = 340282366920938463463374607431768211456 := by decide
  constructor
  · intro h4
    rw [leN_set F 16 _ (by omega), hae, e16]
    rw [hae] at h4
    have : leN R % 1361129467683753853853498429727072845819 = leN R - 1361129467683753853853498429727072845819 := by omega
    omega
  · intro h4
    rw [hae] at h4
    omega
end Go.Proofs.Ytnblcdpahpcglaa
