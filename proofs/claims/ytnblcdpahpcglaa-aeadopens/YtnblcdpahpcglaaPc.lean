/- 'times', 'settle', 'lowest'. -/
import Derived.Test.YtnblcdpahpcglaaPb
namespace Go.Proofs.Ytnblcdpahpcglaa
open Go.RowKit
set_option maxRecDepth 20000
set_option linter.unusedSimpArgs false

theorem size1u64 : (Try.prog.info? 43).map (·.size) = some 1 := by kernel_rfl
theorem five {l : List Int} (h : l.length = 5) : ∃ a b c d e, l = [a, b, c, d, e] := by
  match l, h with
  | [a, b, c, d, e], _ => exact ⟨a, b, c, d, e, rfl⟩
theorem fiveMore {l : List Int} (h : 5 ≤ l.length) : ∃ a b c d e r, l = a :: b :: c :: d :: e :: r := by
  match l, h with
  | a :: b :: c :: d :: e :: r, _ => exact ⟨a, b, c, d, e, r, rfl⟩

/-- One of the products, added where it stands. -/
def stepP (p : List Int) (x y : Int) (i j : Nat) : List Int :=
  if i + j < 5 then p.set (i + j) ((p[i + j]?.getD 0 + x * y % 18446744073709551616) % 18446744073709551616)
  else p.set (i + j - 5) ((p[i + j - 5]?.getD 0 + 5 * x % 18446744073709551616 * y % 18446744073709551616) % 18446744073709551616)
theorem stepP_length (p : List Int) (x y : Int) (i j : Nat) : (stepP p x y i j).length = p.length := by unfold stepP; split <;> simp
def innerK (x : Int) (m : List Int) (i : Nat) (p : List Int) : Nat → List Int
  | 0 => p
  | j + 1 => stepP (innerK x m i p j) x (m[j]?.getD 0) i j
theorem innerK_length (x : Int) (m : List Int) (i : Nat) (p : List Int) (j : Nat) : (innerK x m i p j).length = p.length := by
  induction j with
  | zero => rfl
  | succ j ih => simp only [innerK, stepP_length, ih]
def outerK (L m : List Int) : Nat → List Int
  | 0 => List.replicate 5 0
  | i + 1 => innerK (L[i]?.getD 0) m i (outerK L m i) 5
theorem outerK_length (L m : List Int) (i : Nat) : (outerK L m i).length = 5 := by
  induction i with
  | zero => rfl
  | succ i ih => simp only [outerK, innerK_length, ih]
def timesL (L m : List Int) : List Int := foldL (outerK L m 5 ++ L.drop 5)

set_option maxHeartbeats 4000000 in
theorem times_any (g : Nat) (t : TypeId) (L m : List Int) (w : World) (h : Holds w g .u64 t L) (hl : 5 ≤ L.length) (hm : m.length = 5) :
    Calls Try.prog 45 #[.pointer (some ⟨g, 0, none⟩), .agg (row .u64 m)] w fun e w' => (∃ r, e = .returned r) ∧ Holds w' g .u64 t (timesL L m) ∧ w.grownBy w' (some g) := by
  have hgl := h.lt
  have hix : ∀ (j : Nat), j < 5 → ∀ wx, (Instr.index 45 (.agg (row .u64 m)) (.int .i64 j)).run Try.prog wx = .ok (.int .u64 (m[j]?.getD 0)) wx := fun j hj wx => run_index_row wx 45 43 5 .u64 m j Try.underlying45 Try.underlying43 size1u64 hm hj
  go_enter Try.func45, Try.ntmps45
  go_upto_region 2 with fail
  refine forget (p := fun y => Code.wp _ _ _ _ y) (fun W0 => w.grownBy W0 (some g) ∧ Holds W0 g .u64 t L ∧ Holds W0 w.heap.size .u64 45 m ∧ Holds W0 (w.heap.size + 1) .u64 45 (List.replicate 5 0)) ⟨(World.grownBy_alloc _ _ _).trans (World.grownBy_alloc _ _ _), (h.alloc _).alloc _, (Holds.new w .u64 _ m).alloc _, ?_⟩ ?_
  · have := Holds.new (w.alloc (.cells (row .u64 m) 45)) .u64 45 (List.replicate 5 0)
    rw [World.size_alloc] at this
    exact this
  rintro W0 ⟨hG0, hL0, hM0, hP0⟩
  go_wp2_with fail
  go_loopw [11] (fun q wr => ∃ i : Nat, i ≤ 5 ∧ q = .int .i64 i ∧ w.grownBy wr (some g) ∧ Holds wr g .u64 t L ∧ Holds wr w.heap.size .u64 45 m ∧ Holds wr (w.heap.size + 1) .u64 45 (outerK L m i)) (fun q _ => 5 - (intOf q).toNat)
  case atStart => exact ⟨0, by omega, rfl, hG0, hL0, hM0, hP0⟩
  case round =>
    clear hG0 hL0 hM0 hP0
    obtain ⟨i, hi, rfl, hG, hL, hM, hP⟩ := hrel
    by_cases hlt : i < 5
    · have HO : Veil (outerK L m (i + 1) = innerK (L[i]?.getD 0) m i (outerK L m i) 5) := ⟨rfl⟩
      have hPl := outerK_length L m i
      obtain ⟨P, hPe⟩ : ∃ q, outerK L m i = q := ⟨_, rfl⟩
      rw [hPe] at hP HO hPl
      have hL1 := hL.drew
      have c1 := hL1.cell i (by omega)
      obtain ⟨x, hx⟩ : ∃ q, L[i]?.getD 0 = q := ⟨_, rfl⟩
      rw [hx] at c1 HO
      have hi0 : (0 : Int) ≤ (i : Int) := by omega
      have hi5 : (i : Int) < 5 := by omega
      clear hPe hx
      go_upto_region 4 with fail
      refine wp_region_gate (fun w' => w'.cell? ⟨g, i, none⟩ = some (.int .u64 x)) 5 (by kernel_rfl) ?_
      have hS : wr.drew.cell? ⟨g, i, none⟩ = some (.int .u64 x) := c1
      refine wpAnyG_any (i := 0) (v := ?_) rfl (by kernel_rfl) (by kernel_rfl) (by kernel_rfl) (fun _ _ _ h => h) (by kernel_rfl) (fun _ => hS) (by kernel_rfl) ?_ ?_
      rotate_left
      · intro _; go_simp; try with_reducible rfl
      simp only [Act.put, List.setIfInBounds_toArray, List.set_cons_zero, List.set_cons_succ]
      refine wpAnyG_any (i := 1) (v := ?_) rfl (by kernel_rfl) (by kernel_rfl) (by kernel_rfl) (fun _ _ _ h => h) (by kernel_rfl) (fun _ => hS) (by kernel_rfl) ?_ ?_
      rotate_left
      · intro _; go_simp; try with_reducible rfl
      simp only [Act.put, List.setIfInBounds_toArray, List.set_cons_zero, List.set_cons_succ]
      refine wpAnyG_any (i := 2) (v := ?_) rfl (by kernel_rfl) (by kernel_rfl) (by kernel_rfl) (fun _ _ _ h => h) (by kernel_rfl) (fun _ => hS) (by kernel_rfl) ?_ ?_
      rotate_left
      · intro _; go_simp; try with_reducible rfl
      simp only [Act.put, List.setIfInBounds_toArray, List.set_cons_zero, List.set_cons_succ]
      refine wpAnyG_read (i := 3) (v := ?_) rfl (by kernel_rfl) (by kernel_rfl) (by kernel_rfl) (fun _ _ _ h => h) (by kernel_rfl) (by kernel_rfl) (by kernel_rfl) hS (by kernel_rfl) ?_ ?_
      rotate_left
      · intro wx hSw; go_split_ands; go_simp; try with_reducible rfl
      simp only [Act.put, List.setIfInBounds_toArray, List.set_cons_zero, List.set_cons_succ]
      refine wpAnyG_any (i := 4) (v := ?_) rfl (by kernel_rfl) (by kernel_rfl) (by kernel_rfl) (fun _ _ _ h => h) (by kernel_rfl) (fun _ => hS) (by kernel_rfl) ?_ ?_
      rotate_left
      · intro _; go_simp; try with_reducible rfl
      simp only [Act.put, List.setIfInBounds_toArray, List.set_cons_zero, List.set_cons_succ]
      refine wpAnyG_one (i := 5) rfl (by kernel_rfl) (by kernel_rfl) (fun K hK => ?_)
      go_simp
      refine hK.out _ _ (fun h => absurd (show true = false from h) (by decide)) ?_
      clear hK K
      refine wpAnyG_done (by kernel_rfl) ?_ _
      have hM1 := hM.drew
      have hP1 := hP.drew
      have hG1 := grown_drew hG
      clear hS c1 hL hM hP hG
      go_wp2_with (refine wpList_ld rfl 45 _ rfl _ rfl hM1 Try.underlying45 size5 hm ?_)
      go_loopw [18] (fun q wq => ∃ j : Nat, j ≤ 5 ∧ q = .int .i64 j ∧ w.grownBy wq (some g) ∧ Holds wq g .u64 t L ∧ Holds wq w.heap.size .u64 45 m ∧ Holds wq (w.heap.size + 1) .u64 45 (innerK x m i P j)) (fun q _ => 5 - (intOf q).toNat)
      case atStart => exact ⟨0, by omega, rfl, hG1, hL1, hM1, hP1⟩
      case round =>
        clear hL1 hM1 hP1 hG1
        obtain ⟨j, hj, rfl, hG, hL, hM, hP⟩ := hrel
        by_cases hjl : j < 5
        · have hixj := hix j hjl
          have HI : Veil (innerK x m i P (j + 1) = stepP (innerK x m i P j) x (m[j]?.getD 0) i j) := ⟨rfl⟩
          have hIl := innerK_length x m i P j
          obtain ⟨I, hIe⟩ : ∃ q, innerK x m i P j = q := ⟨_, rfl⟩
          rw [hIe] at hP HI hIl
          obtain ⟨y, hy⟩ : ∃ q, m[j]?.getD 0 = q := ⟨_, rfl⟩
          rw [hy] at hixj HI
          have hj0 : (0 : Int) ≤ (j : Int) := by omega
          have hj5 : (j : Int) < 5 := by omega
          clear hIe hy hix
          by_cases hij : i + j < 5
          · have hs : stepP I x y i j = I.set (i + j) ((I[i + j]?.getD 0 + x * y % 18446744073709551616) % 18446744073709551616) := by unfold stepP; rw [if_pos hij]
            have c2 := hP.cell (i + j) (by omega)
            have f2 := hP.frozen (i + j)
            obtain ⟨q, hq⟩ : ∃ q, I[i + j]?.getD 0 = q := ⟨_, rfl⟩
            rw [hq] at c2 hs
            have HS : Veil (innerK x m i P (j + 1) = I.set (i + j) ((q + x * y % 18446744073709551616) % 18446744073709551616)) := ⟨by rw [HI.out, hs]⟩
            have ha0 : (0 : Int) ≤ (i : Int) + (j : Int) := by omega
            have ha5 : (i : Int) + (j : Int) < 5 := by omega
            have htn : ((i : Int) + (j : Int)).toNat = i + j := by omega
            clear hq hs HI
            go_wp2
            go_roundw
            case rel => exact ⟨j + 1, by omega, by go_num, grown_setNew hG (by omega) _ _, hL.setOther _ _ (by simp; omega), hM.setOther _ _ (by simp), by rw [HS.out]; exact hP.set (i + j) _⟩
            case measure => simp [intOf]; omega
          · have hs : stepP I x y i j = I.set (i + j - 5) ((I[i + j - 5]?.getD 0 + 5 * x % 18446744073709551616 * y % 18446744073709551616) % 18446744073709551616) := by unfold stepP; rw [if_neg hij]
            have c2 := hP.cell (i + j - 5) (by omega)
            have f2 := hP.frozen (i + j - 5)
            obtain ⟨q, hq⟩ : ∃ q, I[i + j - 5]?.getD 0 = q := ⟨_, rfl⟩
            rw [hq] at c2 hs
            have HS : Veil (innerK x m i P (j + 1) = I.set (i + j - 5) ((q + 5 * x % 18446744073709551616 * y % 18446744073709551616) % 18446744073709551616)) := ⟨by rw [HI.out, hs]⟩
            have ha5 : ¬ ((i : Int) + (j : Int) < 5) := by omega
            obtain ⟨a, ha⟩ : ∃ a, i + j - 5 = a := ⟨_, rfl⟩
            rw [ha] at c2 f2 HS
            have hai : (i : Int) + (j : Int) - 5 = (a : Int) := by omega
            have ha6 : (a : Int) < 5 := by omega
            clear hq hs HI ha
            go_wp2
            go_roundw
            case rel => exact ⟨j + 1, by omega, by go_num, grown_setNew hG (by omega) _ _, hL.setOther _ _ (by simp; omega), hM.setOther _ _ (by simp), by rw [HS.out]; exact hP.set a _⟩
            case measure => simp [intOf]; omega
        · obtain rfl : j = 5 := by omega
          go_wp2
          go_roundw
          case rel => exact ⟨i + 1, by omega, by go_num, hG, hL, hM, by rw [HO.out]; exact hP⟩
          case measure => simp [intOf]; omega
    · obtain rfl : i = 5 := by omega
      have hPl := outerK_length L m 5
      have HT : Veil (timesL L m = foldL (outerK L m 5 ++ L.drop 5)) := ⟨rfl⟩
      obtain ⟨p0, p1, p2, p3, p4, hp⟩ := five hPl
      rw [hp] at hP HT
      clear hp hPl hix hM
      obtain ⟨l0, l1, l2, l3, l4, R, rfl⟩ := fiveMore hl
      have a0 := hP.cell 0 (by simp)
      have a1 := hP.cell 1 (by simp)
      have a2 := hP.cell 2 (by simp)
      have a3 := hP.cell 3 (by simp)
      have a4 := hP.cell 4 (by simp)
      have b0 := hL.cell 0 (by simp)
      have b1 := hL.cell 1 (by simp)
      have b2 := hL.cell 2 (by simp)
      have b3 := hL.cell 3 (by simp)
      have b4 := hL.cell 4 (by simp)
      have ff := hL.frozen
      simp only [List.getElem?_cons_zero, List.getElem?_cons_succ, Option.getD_some] at a0 a1 a2 a3 a4 b0 b1 b2 b3 b4
      have hfin := ((((hL.set 0 p0).set 1 p1).set 2 p2).set 3 p3).set 4 p4
      simp only [List.set_cons_zero, List.set_cons_succ] at hfin
      have hfo := fold_any g t _ _ hfin (by simp)
      have HT2 : Veil (timesL (l0 :: l1 :: l2 :: l3 :: l4 :: R) m = foldL (p0 :: p1 :: p2 :: p3 :: p4 :: R)) := ⟨by rw [HT.out]; rfl⟩
      clear HT
      go_wp2_with (go_at_call 55; refine hfo.mono ?_; rintro e w2 ⟨⟨r, rfl⟩, h2, g2⟩)
      go_end0
      exact ⟨⟨_, rfl⟩, by rw [HT2.out]; exact h2, (grown_set (grown_set (grown_set (grown_set (grown_set hG _ _) _ _) _ _) _ _) _ _).trans g2⟩
end Go.Proofs.Ytnblcdpahpcglaa
