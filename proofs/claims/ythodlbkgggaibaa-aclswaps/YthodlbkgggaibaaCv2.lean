/- What either saw: 'Join' of causal and of its reference. -/
import Derived.Test.YthodlbkgggaibaaCv1
namespace Go.Proofs.Ythodlbkgggaibaa
open Go.RowKit
set_option maxRecDepth 20000
set_option linter.unusedSimpArgs false

/-- The first n numbers of a and b joined. -/
def joinTo (a b : List Int) : Nat → List Int
  | 0 => a
  | n + 1 => (joinTo a b n).set n (if a[n]?.getD 0 < b[n]?.getD 0 then b[n]?.getD 0 else a[n]?.getD 0)
def joinV (a b : List Int) : List Int := joinTo a b 8
theorem joinTo_length (a b : List Int) : ∀ n, (joinTo a b n).length = a.length
  | 0 => rfl
  | n + 1 => by rw [joinTo, List.length_set, joinTo_length a b n]
theorem joinTo_above (a b : List Int) : ∀ n j, n ≤ j → (joinTo a b n)[j]?.getD 0 = a[j]?.getD 0
  | 0, _, _ => rfl
  | n + 1, j, h => by
    rw [joinTo, List.getElem?_set_ne (by omega), joinTo_above a b n j (by omega)]
theorem joinTo_keep (a b : List Int) (n : Nat) (hn : n < a.length) (h : ¬ a[n]?.getD 0 < b[n]?.getD 0) : joinTo a b (n + 1) = joinTo a b n := by
  rw [joinTo]
  have h2 := joinTo_above a b n n (Nat.le_refl _)
  rw [if_neg h, ← h2]
  have hl : n < (joinTo a b n).length := by rw [joinTo_length]; exact hn
  rw [List.getElem?_eq_getElem hl]
  exact List.set_getElem_self hl
theorem sizeV8 : (Try.prog.info? 25).map (·.size) = some 8 := by kernel_rfl
theorem zeroVecL : ∃ Z : List Int, (zeroValue 25).run Try.prog (default : World) = .ok (.agg (row .u32 Z)) default ∧ Z.length = 8 := ⟨[0, 0, 0, 0, 0, 0, 0, 0], by kernel_rfl, rfl⟩
set_option maxHeartbeats 2000000 in
theorem cjoin_any (a b : List Int) (w : World) (ha : a.length = 8) (hb : b.length = 8) :
    Calls Try.prog 43 #[.agg (row .u32 a), .agg (row .u32 b)] w fun e w' => e = .returned (.agg (row .u32 (joinV a b))) ∧ Below w.heap.size w w' := by
  have hv0 := Holds.new w .u32 25 a
  have hd0 := Holds.new (w.alloc (.cells (row .u32 a) 25)) .u32 25 b
  rw [World.size_alloc] at hd0
  have hv1 := (hv0.alloc (.cells (row .u32 b) 25)).alloc (.cells (row .u32 [0, 0, 0, 0, 0, 0, 0, 0]) 25)
  have hd1 := hd0.alloc (.cells (row .u32 [0, 0, 0, 0, 0, 0, 0, 0]) 25)
  have hr1 := Holds.new ((w.alloc (.cells (row .u32 a) 25)).alloc (.cells (row .u32 b) 25)) .u32 25 [0, 0, 0, 0, 0, 0, 0, 0]
  rw [World.size_alloc, World.size_alloc] at hr1
  have hB : Below w.heap.size w (((w.alloc (.cells (row .u32 a) 25)).alloc (.cells (row .u32 b) 25)).alloc (.cells (row .u32 [0, 0, 0, 0, 0, 0, 0, 0]) 25)) := (((Below.refl _ _).alloc (Nat.le_refl _) _).alloc (by simp) _).alloc (by simp; omega) _
  have HL : Veil (∀ n, (joinTo a b n).length = 8) := ⟨fun n => by rw [joinTo_length]; exact ha⟩
  have HA : Veil (∀ n, (joinTo a b n)[n]?.getD 0 = a[n]?.getD 0) := ⟨fun n => joinTo_above a b n n (Nat.le_refl _)⟩
  have HBL : Veil (b.length = 8) := ⟨hb⟩
  clear hv0 hd0 ha hb
  go_enter Try.func43, Try.ntmps43
  go_wp2_with fail
  obtain ⟨Z, hZ⟩ : ∃ Z : List Int, Z = [0, 0, 0, 0, 0, 0, 0, 0] := ⟨_, rfl⟩
  have HZ : Veil (Z.length = 8) := ⟨by rw [hZ]; rfl⟩
  refine forget (p := fun y => Code.wp _ _ _ _ y) (fun W => Below w.heap.size w W ∧ Holds W w.heap.size .u32 25 a ∧ Holds W (w.heap.size + 1) .u32 25 b ∧ Holds W (w.heap.size + 1 + 1) .u32 25 Z) ⟨hB, hv1, hd1, by rw [hZ]; exact hr1⟩ ?_
  clear hB hv1 hd1 hr1 hZ
  rintro W ⟨hB, hv1, hd1, hr1⟩
  go_loopw [6] (fun i wr => ∃ k : Nat, k ≤ 8 ∧ i = .int .i64 k ∧ Below w.heap.size w wr ∧ Holds wr w.heap.size .u32 25 (joinTo a b k) ∧ Holds wr (w.heap.size + 1) .u32 25 b ∧ Holds wr (w.heap.size + 1 + 1) .u32 25 Z) (fun i _ => 8 - (intOf i).toNat)
  case atStart => exact ⟨0, by omega, rfl, hB, hv1, hd1, hr1⟩
  case round =>
    clear hB hv1 hd1 hr1
    obtain ⟨k, hk, rfl, hB, hv1, hd1, hr1⟩ := hrel
    by_cases hlt : k < 8
    · have c1 := hv1.cell k (by rw [HL.out]; exact hlt)
      have c2 := hd1.cell k (by rw [HBL.out]; exact hlt)
      have f1 := hv1.frozen k
      rw [HA.out] at c1
      have hki : (0 : Int) ≤ (k : Int) := by omega
      have hkl : (k : Int) < 8 := by omega
      have HS : Veil (joinTo a b (k + 1) = (joinTo a b k).set k (if a[k]?.getD 0 < b[k]?.getD 0 then b[k]?.getD 0 else a[k]?.getD 0)) := ⟨rfl⟩
      obtain ⟨p, hp⟩ : ∃ p, a[k]?.getD 0 = p := ⟨_, rfl⟩
      obtain ⟨q, hq⟩ : ∃ q, b[k]?.getD 0 = q := ⟨_, rfl⟩
      rw [hp] at c1 HS
      rw [hq] at c2 HS
      clear hp hq
      go_wp2_with fail
      go_region_with (fail)
      all_goals
        go_wp2
        go_roundw
        case rel => exact ⟨k + 1, by omega, by go_num, (hB.setCell (Nat.le_refl _) _).drew, by rw [HS.out]; exact (hv1.set k _).drew, (hd1.setOther _ _ (by simp)).drew, (hr1.setOther _ _ (by simp; omega)).drew⟩
        case measure => simp [intOf]; omega
    · obtain rfl : k = 8 := by omega
      have hz8 := HZ.out
      have hj8 := HL.out 8
      have HL8 : Veil ((joinTo a b 8).length = 8) := ⟨hj8⟩
      have HJ : Veil (joinV a b = joinTo a b 8) := ⟨rfl⟩
      obtain ⟨J, hJ⟩ : ∃ J, joinTo a b 8 = J := ⟨_, rfl⟩
      rw [hJ] at hv1 HJ hj8
      clear hJ HL HA HBL HL8
      go_wp2_with (first
        | (refine wpList_ld rfl 25 _ rfl _ rfl hv1 Try.underlying25 sizeV8 hj8 ?_)
        | (refine wpList_st rfl 25 _ _ rfl _ rfl rfl hr1 (by rw [hj8]; exact sizeV8) (by rw [hz8, hj8]) ?_))
      refine bodyPost_ret (results_holds (Try.results43) _ rfl (hr1.setRow _) Try.underlying25 sizeV8 hj8) rfl ⟨?_, ?_⟩
      · rw [HJ.out]
      · exact below_setRow hB (by omega) _
end Go.Proofs.Ythodlbkgggaibaa

