/- The reference's Clamp; clamped once more it is itself. -/
import Derived.Test.YtnblcdpahpcglaaPl
import Derived.Test.YtnblcdpahpcglaaPk0
import Derived.Laws.BitsLemmas
namespace Go.Proofs.Ytnblcdpahpcglaa
open Go.RowKit
set_option maxRecDepth 100000
set_option linter.unusedSimpArgs false

/-- What the reference has for byte number i. -/
def refG (i : Nat) (v : Int) : Int := if i % 4 = 3 then v % 16 else if i % 4 = 0 ∧ 0 < i then v / 4 * 4 else v
def refK (k : List Int) : Nat → List Int
  | 0 => List.replicate 16 0
  | i + 1 => (refK k i).set i (refG i (k[i]?.getD 0))
theorem refK_length (k : List Int) (i : Nat) : (refK k i).length = 16 := by
  induction i with
  | zero => rfl
  | succ i ih => simp [refK, ih]
theorem getD_take (k : List Int) (i : Nat) (h : i < 16) : k[i]?.getD 0 = (k.take 16)[i]?.getD 0 := by rw [List.getElem?_take_of_lt h]
theorem refK_eq (k : List Int) (hk : k.length = 32) (hu : ∀ v ∈ k, 0 ≤ v ∧ v ≤ 255) : refK k 16 = clampL k := by
  have hl : (k.take 16).length = 16 := by rw [List.length_take]; omega
  have hu' : ∀ v ∈ k.take 16, 0 ≤ v ∧ v ≤ 255 := fun v hv => hu v (List.mem_of_mem_take hv)
  obtain ⟨a0, a1, a2, a3, a4, a5, a6, a7, a8, a9, b0, b1, b2, b3, b4, b5, h⟩ := sixteen hl
  rw [h] at hu'
  rw [clampL_eq h, and15 a3 (hu' _ (by simp)).1 (hu' _ (by simp)).2, and15 a7 (hu' _ (by simp)).1 (hu' _ (by simp)).2, and15 b1 (hu' _ (by simp)).1 (hu' _ (by simp)).2, and15 b5 (hu' _ (by simp)).1 (hu' _ (by simp)).2, and252 a4 (hu' _ (by simp)).1 (hu' _ (by simp)).2, and252 a8 (hu' _ (by simp)).1 (hu' _ (by simp)).2, and252 b2 (hu' _ (by simp)).1 (hu' _ (by simp)).2]
  simp only [refK]
  rw [getD_take k 0 (by omega), getD_take k 1 (by omega), getD_take k 2 (by omega), getD_take k 3 (by omega), getD_take k 4 (by omega), getD_take k 5 (by omega), getD_take k 6 (by omega), getD_take k 7 (by omega), getD_take k 8 (by omega), getD_take k 9 (by omega), getD_take k 10 (by omega), getD_take k 11 (by omega), getD_take k 12 (by omega), getD_take k 13 (by omega), getD_take k 14 (by omega), getD_take k 15 (by omega), h]
  rfl
set_option maxHeartbeats 4000000 in
theorem refClamp_any (k : List Int) (w : World) (hk : k.length = 32) (hu : ∀ v ∈ k, 0 ≤ v ∧ v ≤ 255) :
    Calls Try.prog 29 #[.agg (row .u8 k)] w fun e w' => e = .returned (.agg (row .u8 (clampL k))) ∧ Below w.heap.size w w' := by
  have hcl := clampL_length k hk
  have HC : Veil (clampL k = refK k 16) := ⟨(refK_eq k hk hu).symm⟩
  have hub : Veil (∀ i : Nat, (0 : Int) ≤ k[i]?.getD (0 : Int) ∧ k[i]?.getD (0 : Int) ≤ 255) := ⟨fun i => by
    by_cases hi : i < k.length
    · rw [List.getElem?_eq_getElem hi]; exact hu _ (List.getElem_mem hi)
    · rw [List.getElem?_eq_none (by omega)]; simp⟩
  clear hu
  go_enter Try.func29, Try.ntmps29
  go_upto_region 2 with fail
  refine forget (p := fun y => Code.wp _ _ _ _ y) (fun W0 => Below w.heap.size w W0 ∧ Holds W0 w.heap.size .u8 23 k ∧ Holds W0 (w.heap.size + 1) .u8 27 (List.replicate 16 0) ∧ Holds W0 (w.heap.size + 1 + 1) .u8 27 (List.replicate 16 0)) ⟨(((Below.refl _ _).alloc (Nat.le_refl _) _).alloc (by simp) _).alloc (by simp; omega) _, ((Holds.new w .u8 _ k).alloc _).alloc _, ?_, ?_⟩ ?_
  · have := Holds.new (w.alloc (.cells (row .u8 k) 23)) .u8 27 (List.replicate 16 0)
    rw [World.size_alloc] at this
    exact this.alloc _
  · have := Holds.new ((w.alloc (.cells (row .u8 k) 23)).alloc (.cells (row .u8 (List.replicate 16 0)) 27)) .u8 27 (List.replicate 16 0)
    rw [World.size_alloc, World.size_alloc] at this
    exact this
  rintro W0 ⟨hB0, hK0, hR0, hA0⟩
  go_wp2_with fail
  go_loopw [4] (fun q wr => ∃ i : Nat, i ≤ 16 ∧ q = .int .i64 i ∧ Below w.heap.size w wr ∧ Holds wr w.heap.size .u8 23 k ∧ Holds wr (w.heap.size + 1) .u8 27 (List.replicate 16 0) ∧ Holds wr (w.heap.size + 1 + 1) .u8 27 (refK k i)) (fun q _ => 16 - (intOf q).toNat)
  case atStart => exact ⟨0, by omega, rfl, hB0, hK0, hR0, hA0⟩
  case round =>
    clear hB0 hK0 hR0 hA0
    obtain ⟨i, hi, rfl, hB, hK, hR, hA⟩ := hrel
    by_cases hlt : i < 16
    · have HS : Veil (refK k (i + 1) = (refK k i).set i (refG i (k[i]?.getD 0))) := ⟨rfl⟩
      have hAl := refK_length k i
      obtain ⟨A, hAe⟩ : ∃ q, refK k i = q := ⟨_, rfl⟩
      rw [hAe] at hA HS hAl
      have c1 := hK.cell i (by omega)
      have c2 := hA.cell i (by omega)
      have f2 := hA.frozen i
      have hv := hub.out i
      obtain ⟨v, hve⟩ : ∃ q, k[i]?.getD 0 = q := ⟨_, rfl⟩
      rw [hve] at c1 HS hv
      obtain ⟨hv0, hv1⟩ := hv
      have HS2 : Veil (refK k (i + 1) = (A.set i v).set i (refG i v)) := ⟨by rw [HS.out, List.set_set]⟩
      clear hAe hve
      have hic : i = 0 ∨ i = 1 ∨ i = 2 ∨ i = 3 ∨ i = 4 ∨ i = 5 ∨ i = 6 ∨ i = 7 ∨ i = 8 ∨ i = 9 ∨ i = 10 ∨ i = 11 ∨ i = 12 ∨ i = 13 ∨ i = 14 ∨ i = 15 := by omega
      clear hi hlt
      rcases hic with rfl | rfl | rfl | rfl | rfl | rfl | rfl | rfl | rfl | rfl | rfl | rfl | rfl | rfl | rfl | rfl
      all_goals
        go_wp2
        go_roundw
        case rel =>
          first
            | exact ⟨_, by decide, rfl, hB.setCell (by simp; omega) _, hK.setOther _ _ (by simp; omega), hR.setOther _ _ (by simp), by rw [HS.out]; exact hA.set _ _⟩
            | (refine ⟨_, by decide, rfl, (hB.setCell (by simp; omega) _).setCell (by simp; omega) _, (hK.setOther _ _ (by simp; omega)).setOther _ _ (by simp; omega), (hR.setOther _ _ (by simp)).setOther _ _ (by simp), ?_⟩
               rw [HS2.out]
               exact (hA.set _ _).set _ _)
        case measure => simp [intOf]
    · obtain rfl : i = 16 := by omega
      rw [← HC.out] at hA
      go_wp2_with (first
        | (refine wpList_ld rfl 27 _ rfl _ rfl hA Try.underlying27 size16b hcl ?_)
        | (refine wpList_st rfl 27 _ _ rfl _ rfl rfl hR (by rw [hcl]; exact size16b) (by simp [hcl]) ?_))
      refine bodyPost_ret (results_holds (Try.results29) _ rfl (hR.setRow _) Try.underlying27 size16b hcl) rfl ⟨rfl, ?_⟩
      exact below_setRow hB (by omega) _
end Go.Proofs.Ytnblcdpahpcglaa
