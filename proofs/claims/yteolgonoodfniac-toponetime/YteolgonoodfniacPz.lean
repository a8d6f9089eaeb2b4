/- The tag of no bytes, and with a first half of 0; 'half' of the statements. -/
import Derived.Test.YteolgonoodfniacPy
import Derived.Test.YteolgonoodfniacPl
namespace Go.Proofs.Yteolgonoodfniac
open Go.RowKit
set_option maxRecDepth 100000
set_option linter.unusedSimpArgs false

theorem le16_leN (l : List Int) (hl : l.length = 16) (hb : ∀ v ∈ l, isB v) : le16 (leN l) = l := by
  obtain ⟨a0, a1, a2, a3, a4, a5, a6, a7, a8, a9, b0, b1, b2, b3, b4, b5, rfl⟩ := sixteen hl
  have c0 := hb a0 (by simp)
  have c1 := hb a1 (by simp)
  have c2 := hb a2 (by simp)
  have c3 := hb a3 (by simp)
  have c4 := hb a4 (by simp)
  have c5 := hb a5 (by simp)
  have c6 := hb a6 (by simp)
  have c7 := hb a7 (by simp)
  have c8 := hb a8 (by simp)
  have c9 := hb a9 (by simp)
  have d0 := hb b0 (by simp)
  have d1 := hb b1 (by simp)
  have d2 := hb b2 (by simp)
  have d3 := hb b3 (by simp)
  have d4 := hb b4 (by simp)
  have d5 := hb b5 (by simp)
  clear hb hl
  unfold isB at *
  simp only [leN]
  unfold le16
  simp only [List.cons.injEq, and_true]
  refine ⟨by omega, by omega, by omega, by omega, by omega, by omega, by omega, by omega, by omega, by omega, by omega, by omega, by omega, by omega, by omega, by omega⟩
theorem acc_zero (bs : List Int) : accF 0 bs = 0 := by
  unfold accF
  induction bs with
  | nil => rfl
  | cons b bs ih => rw [List.foldl_cons, Int.mul_zero, Int.zero_emod]; exact ih
theorem poly_none (k : List Int) (hk : k.length = 32) (hu : ∀ v ∈ k, isB v) : polyL k [] = k.drop 16 := by
  rw [poly_val k [] hk hu (by simp)]
  have e : accF (leN (clampL k)) ((List.range ((([] : List Int).length + 15) / 16)).map fun i => leN (blkP [] i)) = 0 := rfl
  rw [e, Int.zero_add]
  exact le16_leN _ (by rw [List.length_drop]; omega) (fun v hv => hu v (List.mem_of_mem_drop hv))
theorem poly_zero (k z : List Int) (hk : k.length = 32) (hu : ∀ v ∈ k, isB v) (hz : ∀ v ∈ z, isB v) (h0 : k.take 16 = List.replicate 16 0) : polyL k z = k.drop 16 := by
  rw [poly_val k z hk hu hz]
  have e : clampL k = List.replicate 16 0 := by rw [clampL_eq (k := k) h0]; decide
  have e2 : leN (List.replicate 16 0) = 0 := by decide
  rw [e, e2, acc_zero, Int.zero_add]
  exact le16_leN _ (by rw [List.length_drop]; omega) (fun v hv => hu v (List.mem_of_mem_drop hv))
theorem copyK_setP (c : List Int) (m i : Nat) (h : i < c.length) : (c.take i ++ List.replicate (m + 1) 0).set i (c[i]?.getD 0) = c.take (i + 1) ++ List.replicate m 0 := by
  rw [List.set_append_right _ _ (by rw [List.length_take]; omega), List.length_take, show i - min i c.length = 0 by omega, List.replicate_succ, List.set_cons_zero, take_next c i h, List.append_assoc]
  rfl
theorem zeroK_set (k : List Int) (i : Nat) (h : i < k.length) : (List.replicate i 0 ++ k.drop i).set i 0 = List.replicate (i + 1) 0 ++ k.drop (i + 1) := by
  rw [List.set_append_right _ _ (by simp), List.length_replicate, Nat.sub_self, List.drop_eq_getElem_cons h, List.set_cons_zero, List.replicate_succ', List.append_assoc]
  rfl

set_option maxHeartbeats 1000000 in
theorem half4_any (k : List Int) (w : World) (hk : k.length = 32) :
    Calls Try.prog 8 #[.agg (row .u8 k)] w fun e w' => e = .returned (.agg (row .u8 (k.drop 16))) ∧ Below w.heap.size w w' := by
  have hsl : (k.drop 16).length = 16 := by rw [List.length_drop]; omega
  have HF : Veil (∀ i, i < 16 → ((k.drop 16).take i ++ List.replicate (15 - i + 1) 0).set i ((k.drop 16)[i]?.getD 0) = (k.drop 16).take (i + 1) ++ List.replicate (15 - i) 0) := ⟨fun i hi => copyK_setP (k.drop 16) (15 - i) i (by omega)⟩
  have HG : Veil (∀ i : Nat, k[16 + i]?.getD 0 = (k.drop 16)[i]?.getD 0) := ⟨fun i => by rw [List.getElem?_drop]⟩
  obtain ⟨S, hS⟩ : ∃ q, k.drop 16 = q := ⟨_, rfl⟩
  rw [hS] at hsl HF HG ⊢
  clear hS
  go_enter Try.func8, Try.ntmps8
  go_upto_region 2 with fail
  refine forget (p := fun y => Code.wp _ _ _ _ y) (fun W0 => Below w.heap.size w W0 ∧ Holds W0 w.heap.size .u8 23 k ∧ Holds W0 (w.heap.size + 1) .u8 28 (List.replicate 16 0) ∧ Holds W0 (w.heap.size + 1 + 1) .u8 28 (List.replicate 16 0)) ⟨(((Below.refl _ _).alloc (Nat.le_refl _) _).alloc (by simp) _).alloc (by simp; omega) _, ((Holds.new w .u8 _ k).alloc _).alloc _, ?_, ?_⟩ ?_
  · have := Holds.new (w.alloc (.cells (row .u8 k) 23)) .u8 28 (List.replicate 16 0)
    rw [World.size_alloc] at this
    exact this.alloc _
  · have := Holds.new ((w.alloc (.cells (row .u8 k) 23)).alloc (.cells (row .u8 (List.replicate 16 0)) 28)) .u8 28 (List.replicate 16 0)
    rw [World.size_alloc, World.size_alloc] at this
    exact this
  rintro W0 ⟨hB0, hK0, hR0, hA0⟩
  go_wp2_with fail
  go_loopw [4] (fun q wr => ∃ i : Nat, i ≤ 16 ∧ q = .int .i64 i ∧ Below w.heap.size w wr ∧ Holds wr w.heap.size .u8 23 k ∧ Holds wr (w.heap.size + 1) .u8 28 (List.replicate 16 0) ∧ Holds wr (w.heap.size + 1 + 1) .u8 28 (S.take i ++ List.replicate (16 - i) 0)) (fun q _ => 16 - (intOf q).toNat)
  case atStart => exact ⟨0, by omega, rfl, hB0, hK0, hR0, hA0⟩
  case round =>
    clear hB0 hK0 hR0 hA0
    obtain ⟨i, hi, rfl, hB, hKy, hR, hA⟩ := hrel
    by_cases hlt : i < 16
    · have c1 := hKy.cell (16 + i) (by omega)
      rw [HG.out i] at c1
      have hst := HF.out i hlt
      rw [show 16 - i = 15 - i + 1 by omega] at hA
      have hAl : (S.take i ++ List.replicate (15 - i + 1) 0).length = 16 := by rw [List.length_append, List.length_take, List.length_replicate]; omega
      have HS : Veil ((S.take i ++ List.replicate (15 - i + 1) 0).set i (S[i]?.getD 0) = S.take (i + 1) ++ List.replicate (16 - (i + 1)) 0) := ⟨by rw [hst, show 16 - (i + 1) = 15 - i by omega]⟩
      obtain ⟨A, hAe⟩ : ∃ q, S.take i ++ List.replicate (15 - i + 1) 0 = q := ⟨_, rfl⟩
      rw [hAe] at hA HS hAl
      have c2 := hA.cell i (by omega)
      have f2 := hA.frozen i
      obtain ⟨v, hv⟩ : ∃ q, S[i]?.getD 0 = q := ⟨_, rfl⟩
      rw [hv] at c1 HS
      have hi0 : (0 : Int) ≤ (i : Int) := by omega
      have hi6 : (i : Int) < 16 := by omega
      have hj0 : (0 : Int) ≤ 16 + (i : Int) := by omega
      have hj6 : 16 + (i : Int) < 32 := by omega
      have hjt : (16 + (i : Int)).toNat = 16 + i := by omega
      clear hAe hv hst
      go_wp2
      go_roundw
      case rel => exact ⟨i + 1, by omega, by go_num, hB.setCell (by simp; omega) _, hKy.setOther _ _ (by simp; omega), hR.setOther _ _ (by simp), by rw [← HS.out]; exact hA.set i _⟩
      case measure => simp [intOf]; omega
    · obtain rfl : i = 16 := by omega
      have hA' : Holds wr (w.heap.size + 1 + 1) .u8 28 S := by
        rw [List.take_of_length_le (by omega), Nat.sub_self, List.replicate_zero, List.append_nil] at hA; exact hA
      clear hA
      go_wp2_with (first
        | (refine wpList_ld rfl 28 _ rfl _ rfl hA' Try.underlying28 sizeTag hsl ?_)
        | (refine wpList_st rfl 28 _ _ rfl _ rfl rfl hR (by rw [hsl]; exact sizeTag) (by simp [hsl]) ?_))
      refine bodyPost_ret (results_holds (Try.results8) _ rfl (hR.setRow _) Try.underlying28 sizeTag hsl) rfl ⟨rfl, ?_⟩
      exact below_setRow hB (by omega) _
end Go.Proofs.Yteolgonoodfniac
