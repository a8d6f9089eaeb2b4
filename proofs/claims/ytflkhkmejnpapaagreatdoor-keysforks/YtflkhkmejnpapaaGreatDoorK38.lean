/- Re Pk -/
import Derived.Test.YtflkhkmejnpapaaGreatDoorK36
import Derived.Test.YtflkhkmejnpapaaGreatDoorK10
import Derived.Laws.BitsLemmas
namespace Go.Proofs.YtflkhkmejnpapaaGreatDoor
open Go.RowKit
set_option maxRecDepth 20000
def xK (A P : List Int) (j : Nat) : List Int := (List.range j).map fun q => A[q]?.getD 0 + P[q]?.getD 0
theorem xK_succ (A P : List Int) (j : Nat) : xK A P (j + 1) = xK A P j ++ [A[j]?.getD 0 + P[j]?.getD 0] := by
 unfold xK; rw [List.range_succ, List.map_append]; rfl
theorem xK_length (A P : List Int) (j : Nat) : (xK A P j).length = j := by simp [xK]
theorem xK_val (A P : List Int) (j : Nat) : leN (xK A P j) = leN (A.take j) + leN (P.take j) := by
 induction j with
 | zero => simp [xK, leN]
 | succ j ih =>
  rw [xK_succ, leN_snoc, xK_length, ih, takeN_val, takeN_val, Int.mul_add]
  omega
theorem xK_all (A P : List Int) (hA : ∀ v ∈ A, isB v) (hP : ∀ v ∈ P, isB v) (j : Nat) : ∀ v ∈ xK A P j, 0 ≤ v ∧ v ≤ 2000000 := by
 intro v hv
 unfold xK at hv
 obtain ⟨q, -, rfl⟩ := List.mem_map.1 hv
 have h1 := getH (B := 255) (by omega) hA q
 have h2 := getH (B := 255) (by omega) hP q
 omega
theorem take17 (A : List Int) (hA : ∀ v ∈ A, isB v) (h : leN A < 1361129467683753853853498429727072845819) : leN (A.take 17) = leN A := by
 by_cases hl : 17 ≤ A.length
 · have h17 := leN_split A 17 hl
   have hd0 := (leN_lt (A.drop 17) (fun v hv => hA v (List.mem_of_mem_drop hv))).1
   have ht0 := (leN_lt (A.take 17) (fun v hv => hA v (List.mem_of_mem_take hv))).1
   have e17 : (256 : Int) ^ 17 = 87112285931760246646623899502532662132736 := by decide
   rw [e17] at h17
   have : leN (A.drop 17) = 0 := by omega
   omega
 · rw [List.take_of_length_le (by omega)]
theorem x_val (A P : List Int) (hA : ∀ v ∈ A, isB v) (h : leN A < 1361129467683753853853498429727072845819) (hP : P.length ≤ 17) (N : Nat) (hN : 17 ≤ N) (hc : cK (xK A P 17) N = 0) : leN (oK (xK A P 17) N) = leN A + leN P := by
 rw [oK_done _ N (by rw [xK_length]; exact hN) hc, xK_val, take17 A hA h, List.take_of_length_le hP]
structure ProdAt (X r : List Int) (j m : Nat) (p : List Int) : Prop where
 len : p.length = X.length + 16
 val : leN p = leN (X.take j) * leN r + 256 ^ j * (X[j]?.getD 0 * leN (r.take m))
 low : ∀ q : Nat, (0 : Int) ≤ p[q]?.getD (0 : Int)
 top : ∀ q : Nat, p[q]?.getD (0 : Int) ≤ (j : Int) * 65025 + if q < j + m then 65025 else 0
theorem ProdAt.start (X r : List Int) : ProdAt X r 0 0 (List.replicate (X.length + 16) 0) :=
 ⟨by simp, by rw [leN_zeros]; simp [leN], fun q => by rw [List.getElem?_replicate]; split <;> simp, fun q => by rw [List.getElem?_replicate]; split <;> simp⟩
theorem mul_255 {a b : Int} (h0 : 0 ≤ a) (h1 : a ≤ 255) (h2 : 0 ≤ b) (h3 : b ≤ 255) : 0 ≤ a * b ∧ a * b ≤ 65025 :=
 ⟨Int.mul_nonneg h0 h2, by have := Int.mul_le_mul h1 h3 h2 (by omega : (0 : Int) ≤ 255); omega⟩
theorem ProdAt.step {X r p : List Int} {j m : Nat} (h : ProdAt X r j m p) (hX : ∀ v ∈ X, isB v) (hr : ∀ v ∈ r, isB v) (hj : j < X.length) (hm : m < 16) :
    ProdAt X r j (m + 1) (p.set (j + m) (p[j + m]?.getD 0 + X[j]?.getD 0 * r[m]?.getD 0)) := by
 have hx := getH (B := 255) (by omega) hX j
 have hy := getH (B := 255) (by omega) hr m
 have hm5 := mul_255 hx.1 hx.2 hy.1 hy.2
 have hl := h.len
 refine ⟨by rw [List.length_set]; exact hl, ?_, fun q => ?_, fun q => ?_⟩
 · rw [leN_set _ _ _ (by omega), h.val, takeN_val r m, Int.pow_add]
   generalize leN (X.take j) * leN r = A
   generalize p[j + m]?.getD (0 : Int) = B
   generalize X[j]?.getD (0 : Int) = x
   generalize r[m]?.getD (0 : Int) = y
   generalize leN (r.take m) = R
   generalize (256 : Int) ^ j = u
   generalize (256 : Int) ^ m = v
   grind
 · by_cases hq : j + m = q
   · subst hq
     rw [List.getElem?_set_self (by omega)]
     have := h.low (j + m)
     simp only [Option.getD_some]
     omega
   · rw [List.getElem?_set_ne hq]; exact h.low q
 · by_cases hq : j + m = q
   · subst hq
     rw [List.getElem?_set_self (by omega), if_pos (by omega)]
     have := h.top (j + m)
     rw [if_neg (by omega)] at this
     simp only [Option.getD_some]
     omega
   · rw [List.getElem?_set_ne hq]
     have := h.top q
     split at this <;> split <;> omega
theorem ProdAt.next {X r p : List Int} {j : Nat} (h : ProdAt X r j 16 p) (hr : r.length = 16) : ProdAt X r (j + 1) 0 p := by
 refine ⟨h.len, ?_, h.low, fun q => ?_⟩
 · rw [h.val, takeN_val X j, List.take_of_length_le (l := r) (by omega)]
   simp only [List.take_zero, leN]
   generalize leN (X.take j) = A
   generalize X[j]?.getD (0 : Int) = x
   generalize leN r = R
   generalize (256 : Int) ^ j = u
   grind
 · have := h.top q
   split at this <;> split <;> omega
theorem ProdAt.done {X r p : List Int} (h : ProdAt X r X.length 0 p) (hl : X.length ≤ 19) : leN p = leN X * leN r ∧ ∀ v ∈ p, 0 ≤ v ∧ v ≤ 2000000 := by
 constructor
 · rw [h.val, List.take_of_length_le (Nat.le_refl _)]
   simp [leN]
 · intro v hv
   obtain ⟨i, hi, rfl⟩ := List.getElem_of_mem hv
   have h1 := h.low i
   have h2 := h.top i
   rw [List.getElem?_eq_getElem hi] at h1 h2
   simp only [Option.getD_some] at h1 h2
   split at h2 <;> omega
def accK (r : Int) (z : List Int) (i : Nat) : Int := accF r ((List.range i).map fun i => leN (blkP z i))
theorem accK_zero (r : Int) (z : List Int) : accK r z 0 = 0 := rfl
theorem accK_succ (r : Int) (z : List Int) (i : Nat) : accK r z (i + 1) = (accK r z i + leN (blkP z i)) * r % 1361129467683753853853498429727072845819 := by
 unfold accK accF
 rw [List.range_succ, List.map_append, List.foldl_append]; rfl
theorem accK_in (r : Int) (z : List Int) (i : Nat) : 0 ≤ accK r z i ∧ accK r z i < 1361129467683753853853498429727072845819 := by
 cases i with
 | zero => rw [accK_zero]; omega
 | succ i => rw [accK_succ]; omega
theorem blkP_get (z : List Int) (i j n : Nat) (hn : n = min 16 (z.length - 16 * i)) (hj : j < 17) : (blkP z i)[j]?.getD 0 = if j < n then z[16 * i + j]?.getD 0 else if j = n then 1 else 0 := by
 unfold blkP
 have hl : ((z.drop (16 * i)).take 16).length = n := by rw [List.length_take, List.length_drop]; omega
 have hn16 : n ≤ 16 := by omega
 by_cases h1 : j < n
 · rw [if_pos h1, List.getElem?_set_ne (by omega), List.getElem?_append_left (by omega), List.getElem?_take_of_lt (by omega), List.getElem?_drop]
 · rw [if_neg h1]
   by_cases h2 : j = n
   · subst h2
     rw [if_pos rfl, hl, List.getElem?_set_self (by rw [List.length_append, hl, List.length_replicate]; omega)]; rfl
   · rw [if_neg h2, hl, List.getElem?_set_ne (by omega), List.getElem?_append_right (by omega), List.getElem?_replicate]
     split <;> rfl
theorem ref_done (k z A : List Int) (hk : k.length = 32) (hu : ∀ v ∈ k, isB v) (hz : ∀ v ∈ z, isB v) (hA : ∀ v ∈ A, isB v) (hv : leN A = accK (leN (clampL k)) z ((z.length + 15) / 16)) (N : Nat) (hN : 17 ≤ N) (hc : cK (xK A (k.drop 16) 17) N = 0) :
    polyL k z = (oK (xK A (k.drop 16) 17) N).take 16 := by
 have hi := accK_in (leN (clampL k)) z ((z.length + 15) / 16)
 have e := x_val A (k.drop 16) hA (by omega) (by rw [List.length_drop]; omega) N hN hc
 rw [poly_val k z hk hu hz, le16_leB, ← leB_leN 16 _ (oK_isB _ N) (by rw [oK_length]; omega), e, hv]
 rfl
set_option maxRecDepth 100000
set_option linter.unusedSimpArgs false
def refG (i : Nat) (v : Int) : Int := if i % 4 = 3 then v % 16 else if i % 4 = 0 ∧ 0 < i then v / 4 * 4 else v
def refK (k : List Int) : Nat → List Int
 | 0 => List.replicate 16 0
 | i + 1 => (refK k i).set i (refG i (k[i]?.getD 0))
theorem refK_length (k : List Int) (i : Nat) : (refK k i).length = 16 := by
 induction i with
 | zero => rfl
 | succ i ih => simp [refK, ih]
theorem getD_take (k : List Int) (i : Nat) (h : i < 16) : k[i]?.getD 0 = (k.take 16)[i]?.getD 0 := by rw [List.getElem?_take_of_lt h]
theorem refK_eq (k : List Int) (hk : k.length = 32) (hu : ∀ v ∈ k, 0 ≤ v ∧ v ≤ 255) : refK k 16 = clampL k := by
 have hl : (k.take 16).length = 16 := by rw [List.length_take]; omega
 have hu' : ∀ v ∈ k.take 16, 0 ≤ v ∧ v ≤ 255 := fun v hv => hu v (List.mem_of_mem_take hv)
 obtain ⟨a0, a1, a2, a3, a4, a5, a6, a7, a8, a9, b0, b1, b2, b3, b4, b5, h⟩ := sixteen hl
 rw [h] at hu'
 rw [clampL_eq h, and15 a3 (hu' _ (by simp)).1 (hu' _ (by simp)).2, and15 a7 (hu' _ (by simp)).1 (hu' _ (by simp)).2, and15 b1 (hu' _ (by simp)).1 (hu' _ (by simp)).2, and15 b5 (hu' _ (by simp)).1 (hu' _ (by simp)).2, and252 a4 (hu' _ (by simp)).1 (hu' _ (by simp)).2, and252 a8 (hu' _ (by simp)).1 (hu' _ (by simp)).2, and252 b2 (hu' _ (by simp)).1 (hu' _ (by simp)).2]
 simp only [refK]
 rw [getD_take k 0 (by omega), getD_take k 1 (by omega), getD_take k 2 (by omega), getD_take k 3 (by omega), getD_take k 4 (by omega), getD_take k 5 (by omega), getD_take k 6 (by omega), getD_take k 7 (by omega), getD_take k 8 (by omega), getD_take k 9 (by omega), getD_take k 10 (by omega), getD_take k 11 (by omega), getD_take k 12 (by omega), getD_take k 13 (by omega), getD_take k 14 (by omega), getD_take k 15 (by omega), h]
 rfl
set_option maxHeartbeats 4000000 in
theorem refClamp_any (k : List Int) (w : World) (hk : k.length = 32) (hu : ∀ v ∈ k, 0 ≤ v ∧ v ≤ 255) :
    Calls Tryz.prog 64 #[.agg (row .u8 k)] w fun e w' => e = .returned (.agg (row .u8 (clampL k))) ∧ Below w.heap.size w w' := by
 have hcl := clampL_length k hk
 have HC : Veil (clampL k = refK k 16) := ⟨(refK_eq k hk hu).symm⟩
 have hub : Veil (∀ i : Nat, (0 : Int) ≤ k[i]?.getD (0 : Int) ∧ k[i]?.getD (0 : Int) ≤ 255) := ⟨fun i => by
  by_cases hi : i < k.length
  · rw [List.getElem?_eq_getElem hi]; exact hu _ (List.getElem_mem hi)
  · rw [List.getElem?_eq_none (by omega)]; simp⟩
 clear hu
 go_enter Tryz.func64, Tryz.ntmps64
 go_upto_region 2 with fail
 refine forget (p := fun y => Code.wp _ _ _ _ y) (fun W0 => Below w.heap.size w W0 ∧ Holds W0 w.heap.size .u8 23 k ∧ Holds W0 (w.heap.size + 1) .u8 86 (List.replicate 16 0) ∧ Holds W0 (w.heap.size + 1 + 1) .u8 86 (List.replicate 16 0)) ⟨(((Below.refl _ _).alloc (Nat.le_refl _) _).alloc (by simp) _).alloc (by simp; omega) _, ((Holds.new w .u8 _ k).alloc _).alloc _, ?_, ?_⟩ ?_
 · have := Holds.new (w.alloc (.cells (row .u8 k) 23)) .u8 86 (List.replicate 16 0)
   rw [World.size_alloc] at this
   exact this.alloc _
 · have := Holds.new ((w.alloc (.cells (row .u8 k) 23)).alloc (.cells (row .u8 (List.replicate 16 0)) 86)) .u8 86 (List.replicate 16 0)
   rw [World.size_alloc, World.size_alloc] at this
   exact this
 rintro W0 ⟨hB0, hK0, hR0, hA0⟩
 go_wp2_with fail
 go_loopw [4] (fun q wr => ∃ i : Nat, i ≤ 16 ∧ q = .int .i64 i ∧ Below w.heap.size w wr ∧ Holds wr w.heap.size .u8 23 k ∧ Holds wr (w.heap.size + 1) .u8 86 (List.replicate 16 0) ∧ Holds wr (w.heap.size + 1 + 1) .u8 86 (refK k i)) (fun q _ => 16 - (intOf q).toNat)
 case atStart => exact ⟨0, by omega, rfl, hB0, hK0, hR0, hA0⟩
 case round =>
  clear hB0 hK0 hR0 hA0
  obtain ⟨i, hi, rfl, hB, hK, hR, hA⟩ := hrel
  by_cases hlt : i < 16
  · have HS : Veil (refK k (i + 1) = (refK k i).set i (refG i (k[i]?.getD 0))) := ⟨rfl⟩
    have hAl := refK_length k i
    obtain ⟨A, hAe⟩ : ∃ q, refK k i = q := ⟨_, rfl⟩
    rw [hAe] at hA HS hAl
    have c1 := hK.cell i (by omega)
    have c2 := hA.cell i (by omega)
    have f2 := hA.frozen i
    have hv := hub.out i
    obtain ⟨v, hve⟩ : ∃ q, k[i]?.getD 0 = q := ⟨_, rfl⟩
    rw [hve] at c1 HS hv
    obtain ⟨hv0, hv1⟩ := hv
    have HS2 : Veil (refK k (i + 1) = (A.set i v).set i (refG i v)) := ⟨by rw [HS.out, List.set_set]⟩
    clear hAe hve
    have hic : i = 0 ∨ i = 1 ∨ i = 2 ∨ i = 3 ∨ i = 4 ∨ i = 5 ∨ i = 6 ∨ i = 7 ∨ i = 8 ∨ i = 9 ∨ i = 10 ∨ i = 11 ∨ i = 12 ∨ i = 13 ∨ i = 14 ∨ i = 15 := by omega
    clear hi hlt
    rcases hic with rfl | rfl | rfl | rfl | rfl | rfl | rfl | rfl | rfl | rfl | rfl | rfl | rfl | rfl | rfl | rfl
    all_goals
     go_wp2
     go_roundw
     case rel =>
      first
       | exact ⟨_, by decide, rfl, hB.setCell (by simp; omega) _, hK.setOther _ _ (by simp; omega), hR.setOther _ _ (by simp), by rw [HS.out]; exact hA.set _ _⟩
       | (refine ⟨_, by decide, rfl, (hB.setCell (by simp; omega) _).setCell (by simp; omega) _, (hK.setOther _ _ (by simp; omega)).setOther _ _ (by simp; omega), (hR.setOther _ _ (by simp)).setOther _ _ (by simp), ?_⟩
          rw [HS2.out]
          exact (hA.set _ _).set _ _)
     case measure => simp [intOf]
  · obtain rfl : i = 16 := by omega
    rw [← HC.out] at hA
    go_wp2_with (first
     | (refine wpList_ld rfl 86 _ rfl _ rfl hA Tryz.underlying86 size16b hcl ?_)
     | (refine wpList_st rfl 86 _ _ rfl _ rfl rfl hR (by rw [hcl]; exact size16b) (by simp [hcl]) ?_))
    refine bodyPost_ret (results_holds (Tryz.results64) _ rfl (hR.setRow _) Tryz.underlying86 size16b hcl) rfl ⟨rfl, ?_⟩
    exact below_setRow hB (by omega) _
end Go.Proofs.YtflkhkmejnpapaaGreatDoor
