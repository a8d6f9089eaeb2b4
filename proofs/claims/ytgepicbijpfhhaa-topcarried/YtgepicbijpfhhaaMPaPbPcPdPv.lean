/- The number of five limbs behind a pointer: 'cut', 'carry', 'fold', 'add', as they are carried out. Bytes as numbers of five limbs: 'half', 'bare', 'numberOf'. 'times', 'settle', 'lowest'. 'settle', 'lowest', 'take', 'tag' of the adder. What the limbs are as numbers: carried, folded, multiplied. -/
import Derived.Test.YtgepicbijpfhhaaGb
import Derived.OwnWalk
import Derived.Laws.BitsLemmas
import Derived.Test.YtgepicbijpfhhaaGate2
import Derived.Laws.Bits64
import Derived.Laws.Bits64b
namespace Go.Proofs.Ytgepicbijpfhhaa
open Go.RowKit
set_option maxRecDepth 20000
set_option linter.unusedSimpArgs false

theorem grown_set {w w' : World} {g : Nat} (h : w.grownBy w' (some g)) (j : Nat) (v : Value) : w.grownBy (w'.setCell ⟨g, j, none⟩ v) (some g) :=
  h.trans ⟨rfl, rfl, rfl, by simp [World.setCell], fun k _ hk => heap_setCell_other w' _ k _ (fun e => hk (by rw [e]))⟩
theorem grown_drew {w w' : World} {r : Option Nat} (h : w.grownBy w' r) : w.grownBy w'.drew r := ⟨h.os, h.tape, h.output, by simpa using h.size, fun k a b => by rw [heap_drew]; exact h.block k a b⟩

/-- A store into a block that was not there. -/
theorem grown_setNew {w w' : World} {g b : Nat} (h : w.grownBy w' (some g)) (hb : w.heap.size ≤ b) (j : Nat) (v : Value) : w.grownBy (w'.setCell ⟨b, j, none⟩ v) (some g) :=
  ⟨h.os, h.tape, h.output, by simpa [World.setCell] using h.size, fun k hk hne => by rw [heap_setCell_other w' _ k _ (by show k ≠ b; omega)]; exact h.block k hk hne⟩

theorem cut_any (g : Nat) (t : TypeId) (L : List Int) (w : World) (h : Holds w g .u64 t L) (hl : 5 ≤ L.length) :
    Calls Try.prog 63 #[.pointer (some ⟨g, 0, none⟩)] w fun e w' => e = .returned (.int .u64 (L[4]?.getD 0 / 67108864)) ∧ Holds w' g .u64 t (L.set 4 (bits .and .u64 (L[4]?.getD 0) 67108863)) ∧ w.grownBy w' (some g) := by
  have c4 := h.cell 4 (by omega)
  have f4 := h.frozen 4
  obtain ⟨x, hx⟩ : ∃ x, L[4]?.getD 0 = x := ⟨_, rfl⟩
  rw [hx] at c4 ⊢
  clear hx
  go_enter Try.func63, Try.ntmps63
  go_upto_region 3 with fail
  refine wp_region_gate (fun w' => w'.cell? ⟨g, 4, none⟩ = some (.int .u64 x)) 8 (by kernel_rfl) ?_
  have hS : w.drew.cell? ⟨g, 4, none⟩ = some (.int .u64 x) := by simpa using c4
  have f4' : w.drew.frozen? ⟨g, 4, none⟩ = false := by simpa using f4
  refine wpAnyG_any (i := 0) (v := ?_) rfl (by kernel_rfl) (by kernel_rfl) (by kernel_rfl) (fun _ _ _ h => h) (by kernel_rfl) (fun _ => hS) (by kernel_rfl) ?_ ?_
  rotate_left
  · intro _; go_simp; try with_reducible rfl
  simp only [Act.put, List.setIfInBounds_toArray, List.set_cons_zero, List.set_cons_succ]
  refine wpAnyG_any (i := 1) (v := ?_) rfl (by kernel_rfl) (by kernel_rfl) (by kernel_rfl) (fun _ _ _ h => h) (by kernel_rfl) (fun _ => hS) (by kernel_rfl) ?_ ?_
  rotate_left
  · intro _; go_simp; try with_reducible rfl
  simp only [Act.put, List.setIfInBounds_toArray, List.set_cons_zero, List.set_cons_succ]
  refine wpAnyG_any (i := 2) (v := ?_) rfl (by kernel_rfl) (by kernel_rfl) (by kernel_rfl) (fun _ _ _ h => h) (by kernel_rfl) (fun _ => hS) (by kernel_rfl) ?_ ?_
  rotate_left
  · intro _; go_simp; try with_reducible rfl
  simp only [Act.put, List.setIfInBounds_toArray, List.set_cons_zero, List.set_cons_succ]
  refine wpAnyG_any (i := 3) (v := ?_) rfl (by kernel_rfl) (by kernel_rfl) (by kernel_rfl) (fun _ _ _ h => h) (by kernel_rfl) (fun _ => hS) (by kernel_rfl) ?_ ?_
  rotate_left
  · intro _; go_simp; try with_reducible rfl
  simp only [Act.put, List.setIfInBounds_toArray, List.set_cons_zero, List.set_cons_succ]
  refine wpAnyG_any (i := 6) (v := ?_) rfl (by kernel_rfl) (by kernel_rfl) (by kernel_rfl) (fun _ _ _ h => h) (by kernel_rfl) (fun _ => hS) (by kernel_rfl) ?_ ?_
  rotate_left
  · intro _; go_simp; try with_reducible rfl
  simp only [Act.put, List.setIfInBounds_toArray, List.set_cons_zero, List.set_cons_succ]
  refine wpAnyG_read (i := 4) (v := ?_) rfl (by kernel_rfl) (by kernel_rfl) (by kernel_rfl) (fun _ _ _ h => h) (by kernel_rfl) (by kernel_rfl) (by kernel_rfl) hS (by kernel_rfl) ?_ ?_
  rotate_left
  · intro wx hSw; go_split_ands; go_simp; try with_reducible rfl
  simp only [Act.put, List.setIfInBounds_toArray, List.set_cons_zero, List.set_cons_succ]
  refine wpAnyG_any (i := 5) (v := ?_) rfl (by kernel_rfl) (by kernel_rfl) (by kernel_rfl) (fun _ _ _ h => h) (by kernel_rfl) (fun _ => hS) (by kernel_rfl) ?_ ?_
  rotate_left
  · intro _; go_simp; try with_reducible rfl
  simp only [Act.put, List.setIfInBounds_toArray, List.set_cons_zero, List.set_cons_succ]
  refine wpAnyG_any (i := 7) (v := ?_) rfl (by kernel_rfl) (by kernel_rfl) (by kernel_rfl) (fun _ _ _ h => h) (by kernel_rfl) (fun _ => hS) (by kernel_rfl) ?_ ?_
  rotate_left
  · intro _; go_simp; try with_reducible rfl
  simp only [Act.put, List.setIfInBounds_toArray, List.set_cons_zero, List.set_cons_succ]
  refine wpAnyG_one (i := 8) rfl (by kernel_rfl) (by kernel_rfl) (fun K hK => ?_)
  go_simp
  refine hK.out _ _ (fun h => absurd (show true = false from h) (by decide)) ?_
  clear hK K
  refine wpAnyG_done (by kernel_rfl) ?_ _
  go_wp2
  go_ret
  exact ⟨rfl, (h.drew).set 4 _, grown_set (grown_drew (World.grownBy.refl w _)) 4 _⟩

/-- 'carry', step by step. -/
def carryK (L : List Int) : Nat → List Int
  | 0 => L
  | i + 1 => ((carryK L i).set (i + 1) (((carryK L i)[i + 1]?.getD 0 + (carryK L i)[i]?.getD 0 / 67108864) % 18446744073709551616)).set i (bits .and .u64 ((carryK L i)[i]?.getD 0) 67108863)
theorem carryK_length (L : List Int) (i : Nat) : (carryK L i).length = L.length := by
  induction i with
  | zero => rfl
  | succ i ih => simp [carryK, ih]

set_option maxHeartbeats 1000000 in
theorem carry_any (g : Nat) (t : TypeId) (L : List Int) (w : World) (h : Holds w g .u64 t L) (hl : 5 ≤ L.length) :
    Calls Try.prog 59 #[.pointer (some ⟨g, 0, none⟩)] w fun e w' => (∃ r, e = .returned r) ∧ Holds w' g .u64 t (carryK L 4) ∧ w.grownBy w' (some g) := by
  go_enter Try.func59, Try.ntmps59
  go_wp2_with fail
  go_loopw [3] (fun i wr => ∃ k : Nat, k ≤ 4 ∧ i = .int .i64 k ∧ Holds wr g .u64 t (carryK L k) ∧ w.grownBy wr (some g)) (fun i _ => 4 - (intOf i).toNat)
  case atStart => exact ⟨0, by omega, rfl, h, World.grownBy.refl _ _⟩
  case round =>
    obtain ⟨k, hk, rfl, hH, hG⟩ := hrel
    by_cases hlt : k < 4
    · have hKl := carryK_length L k
      have HS : Veil (carryK L (k + 1) = ((carryK L k).set (k + 1) (((carryK L k)[k + 1]?.getD 0 + (carryK L k)[k]?.getD 0 / 67108864) % 18446744073709551616)).set k (bits .and .u64 ((carryK L k)[k]?.getD 0) 67108863)) := ⟨rfl⟩
      obtain ⟨M, hM⟩ : ∃ M, carryK L k = M := ⟨_, rfl⟩
      rw [hM] at hH hKl HS
      have c1 := hH.cell k (by omega)
      have c2 := hH.cell (k + 1) (by omega)
      have f1 := hH.frozen k
      have f2 := hH.frozen (k + 1)
      obtain ⟨x, hx⟩ : ∃ x, M[k]?.getD 0 = x := ⟨_, rfl⟩
      obtain ⟨y, hy⟩ : ∃ y, M[k + 1]?.getD 0 = y := ⟨_, rfl⟩
      rw [hx] at c1 HS
      rw [hy] at c2 HS
      have hk0 : (0 : Int) ≤ (k : Int) := by omega
      have hk1 : (k : Int) < 4 := by omega
      have hk2 : (k : Int) + 1 < 5 := by omega
      have hk5 : (k : Int) < 5 := by omega
      have hw : IntKind.i64.wrap ((k : Int) + 1) = (k : Int) + 1 := by rw [IntKind.wrap_i64]; omega
      have hk01 : (0 : Int) ≤ (k : Int) + 1 := by omega
      have htn : ((k : Int) + 1).toNat = k + 1 := by omega
      have HX : Veil (M[k]?.getD 0 = x) := ⟨hx⟩
      clear hM hx hy
      go_upto_region 3 with fail
      refine wp_region_gate (fun w' => w'.cell? ⟨g, k, none⟩ = some (.int .u64 x) ∧ w'.cell? ⟨g, k + 1, none⟩ = some (.int .u64 y)) 15 (by kernel_rfl) ?_
      have hH1 := hH.drew
      have hS : wr.drew.cell? ⟨g, k, none⟩ = some (.int .u64 x) ∧ wr.drew.cell? ⟨g, k + 1, none⟩ = some (.int .u64 y) := ⟨by simpa using c1, by simpa using c2⟩
      have f2' := hH1.frozen (k + 1)
      have c2' := hS.2
      refine wpAnyG_any (i := 0) (v := ?_) rfl (by kernel_rfl) (by kernel_rfl) (by kernel_rfl) (fun _ _ _ h => h) (by kernel_rfl) (fun _ => hS) (by kernel_rfl) ?_ ?_
      rotate_left
      · intro _; go_simp; try with_reducible rfl
      simp only [Act.put, List.setIfInBounds_toArray, List.set_cons_zero, List.set_cons_succ]
      refine wpAnyG_any (i := 1) (v := ?_) rfl (by kernel_rfl) (by kernel_rfl) (by kernel_rfl) (fun _ _ _ h => h) (by kernel_rfl) (fun _ => hS) (by kernel_rfl) ?_ ?_
      rotate_left
      · intro _; go_simp; try with_reducible rfl
      simp only [Act.put, List.setIfInBounds_toArray, List.set_cons_zero, List.set_cons_succ]
      refine wpAnyG_any (i := 2) (v := ?_) rfl (by kernel_rfl) (by kernel_rfl) (by kernel_rfl) (fun _ _ _ h => h) (by kernel_rfl) (fun _ => hS) (by kernel_rfl) ?_ ?_
      rotate_left
      · intro _; go_simp; try with_reducible rfl
      simp only [Act.put, List.setIfInBounds_toArray, List.set_cons_zero, List.set_cons_succ]
      refine wpAnyG_any (i := 3) (v := ?_) rfl (by kernel_rfl) (by kernel_rfl) (by kernel_rfl) (fun _ _ _ h => h) (by kernel_rfl) (fun _ => hS) (by kernel_rfl) ?_ ?_
      rotate_left
      · intro _; go_simp; try with_reducible rfl
      simp only [Act.put, List.setIfInBounds_toArray, List.set_cons_zero, List.set_cons_succ]
      refine wpAnyG_any (i := 4) (v := ?_) rfl (by kernel_rfl) (by kernel_rfl) (by kernel_rfl) (fun _ _ _ h => h) (by kernel_rfl) (fun _ => hS) (by kernel_rfl) ?_ ?_
      rotate_left
      · intro _; go_simp; try with_reducible rfl
      simp only [Act.put, List.setIfInBounds_toArray, List.set_cons_zero, List.set_cons_succ]
      refine wpAnyG_any (i := 6) (v := ?_) rfl (by kernel_rfl) (by kernel_rfl) (by kernel_rfl) (fun _ _ _ h => h) (by kernel_rfl) (fun _ => hS) (by kernel_rfl) ?_ ?_
      rotate_left
      · intro _; go_simp; try with_reducible rfl
      simp only [Act.put, List.setIfInBounds_toArray, List.set_cons_zero, List.set_cons_succ]
      refine wpAnyG_any (i := 7) (v := ?_) rfl (by kernel_rfl) (by kernel_rfl) (by kernel_rfl) (fun _ _ _ h => h) (by kernel_rfl) (fun _ => hS) (by kernel_rfl) ?_ ?_
      rotate_left
      · intro _; go_simp; try with_reducible rfl
      simp only [Act.put, List.setIfInBounds_toArray, List.set_cons_zero, List.set_cons_succ]
      refine wpAnyG_any (i := 8) (v := ?_) rfl (by kernel_rfl) (by kernel_rfl) (by kernel_rfl) (fun _ _ _ h => h) (by kernel_rfl) (fun _ => hS) (by kernel_rfl) ?_ ?_
      rotate_left
      · intro _; go_simp; try with_reducible rfl
      simp only [Act.put, List.setIfInBounds_toArray, List.set_cons_zero, List.set_cons_succ]
      refine wpAnyG_any (i := 9) (v := ?_) rfl (by kernel_rfl) (by kernel_rfl) (by kernel_rfl) (fun _ _ _ h => h) (by kernel_rfl) (fun _ => hS) (by kernel_rfl) ?_ ?_
      rotate_left
      · intro _; go_simp; try with_reducible rfl
      simp only [Act.put, List.setIfInBounds_toArray, List.set_cons_zero, List.set_cons_succ]
      refine wpAnyG_any (i := 13) (v := ?_) rfl (by kernel_rfl) (by kernel_rfl) (by kernel_rfl) (fun _ _ _ h => h) (by kernel_rfl) (fun _ => hS) (by kernel_rfl) ?_ ?_
      rotate_left
      · intro _; go_simp; try with_reducible rfl
      simp only [Act.put, List.setIfInBounds_toArray, List.set_cons_zero, List.set_cons_succ]
      refine wpAnyG_read (i := 5) (v := ?_) rfl (by kernel_rfl) (by kernel_rfl) (by kernel_rfl) (fun _ _ _ h => h) (by kernel_rfl) (by kernel_rfl) (by kernel_rfl) hS (by kernel_rfl) ?_ ?_
      rotate_left
      · intro wx hSw; go_split_ands; go_simp; try with_reducible rfl
      simp only [Act.put, List.setIfInBounds_toArray, List.set_cons_zero, List.set_cons_succ]
      refine wpAnyG_read (i := 10) (v := ?_) rfl (by kernel_rfl) (by kernel_rfl) (by kernel_rfl) (fun _ _ _ h => h) (by kernel_rfl) (by kernel_rfl) (by kernel_rfl) hS (by kernel_rfl) ?_ ?_
      rotate_left
      · intro wx hSw; go_split_ands; go_simp; try with_reducible rfl
      simp only [Act.put, List.setIfInBounds_toArray, List.set_cons_zero, List.set_cons_succ]
      refine wpAnyG_any (i := 11) (v := ?_) rfl (by kernel_rfl) (by kernel_rfl) (by kernel_rfl) (fun _ _ _ h => h) (by kernel_rfl) (fun _ => hS) (by kernel_rfl) ?_ ?_
      rotate_left
      · intro _; go_simp; try with_reducible rfl
      simp only [Act.put, List.setIfInBounds_toArray, List.set_cons_zero, List.set_cons_succ]
      refine wpAnyG_any (i := 12) (v := ?_) rfl (by kernel_rfl) (by kernel_rfl) (by kernel_rfl) (fun _ _ _ h => h) (by kernel_rfl) (fun _ => hS) (by kernel_rfl) ?_ ?_
      rotate_left
      · intro _; go_simp; try with_reducible rfl
      simp only [Act.put, List.setIfInBounds_toArray, List.set_cons_zero, List.set_cons_succ]
      refine wpAnyG_any (i := 14) (v := ?_) rfl (by kernel_rfl) (by kernel_rfl) (by kernel_rfl) (fun _ _ _ h => h) (by kernel_rfl) (fun _ => hS) (by kernel_rfl) ?_ ?_
      rotate_left
      · intro _; go_simp; try with_reducible rfl
      simp only [Act.put, List.setIfInBounds_toArray, List.set_cons_zero, List.set_cons_succ]
      refine wpAnyG_one (i := 15) rfl (by kernel_rfl) (by kernel_rfl) (fun K hK => ?_)
      go_simp
      refine hK.out _ _ (fun h => absurd (show true = false from h) (by decide)) ?_
      clear hK K
      refine wpAnyG_done (by kernel_rfl) ?_ _
      go_upto_region 4 with fail
      refine forget (p := fun y => Code.wp _ _ _ _ y) (fun W1 => Holds W1 g .u64 t (M.set (k + 1) ((y + x / 67108864) % 18446744073709551616)) ∧ w.grownBy W1 (some g)) ⟨hH1.set (k + 1) _, grown_set (grown_drew hG) _ _⟩ ?_
      clear hS f2' c2' hH1 c1 c2 f1 f2 hH hG
      rintro W1 ⟨hH, hG⟩
      obtain ⟨M1, hM1⟩ : ∃ q, M.set (k + 1) ((y + x / 67108864) % 18446744073709551616) = q := ⟨_, rfl⟩
      have hx1 : M1[k]?.getD 0 = x := by rw [← hM1, List.getElem?_set_ne (by omega)]; exact HX.out
      have hM1l : M1.length = L.length := by rw [← hM1, List.length_set]; exact hKl
      rw [hM1] at hH HS
      clear hM1
      have hH1 := hH.drew
      have c1 := hH1.cell k (by omega)
      have f1 := hH1.frozen k
      rw [hx1] at c1
      refine wp_region_gate (fun w' => w'.cell? ⟨g, k, none⟩ = some (.int .u64 x)) 8 (by kernel_rfl) ?_
      have hS : W1.drew.cell? ⟨g, k, none⟩ = some (.int .u64 x) := c1
      refine wpAnyG_any (i := 0) (v := ?_) rfl (by kernel_rfl) (by kernel_rfl) (by kernel_rfl) (fun _ _ _ h => h) (by kernel_rfl) (fun _ => hS) (by kernel_rfl) ?_ ?_
      rotate_left
      · intro _; go_simp; try with_reducible rfl
      simp only [Act.put, List.setIfInBounds_toArray, List.set_cons_zero, List.set_cons_succ]
      refine wpAnyG_any (i := 1) (v := ?_) rfl (by kernel_rfl) (by kernel_rfl) (by kernel_rfl) (fun _ _ _ h => h) (by kernel_rfl) (fun _ => hS) (by kernel_rfl) ?_ ?_
      rotate_left
      · intro _; go_simp; try with_reducible rfl
      simp only [Act.put, List.setIfInBounds_toArray, List.set_cons_zero, List.set_cons_succ]
      refine wpAnyG_any (i := 2) (v := ?_) rfl (by kernel_rfl) (by kernel_rfl) (by kernel_rfl) (fun _ _ _ h => h) (by kernel_rfl) (fun _ => hS) (by kernel_rfl) ?_ ?_
      rotate_left
      · intro _; go_simp; try with_reducible rfl
      simp only [Act.put, List.setIfInBounds_toArray, List.set_cons_zero, List.set_cons_succ]
      refine wpAnyG_any (i := 3) (v := ?_) rfl (by kernel_rfl) (by kernel_rfl) (by kernel_rfl) (fun _ _ _ h => h) (by kernel_rfl) (fun _ => hS) (by kernel_rfl) ?_ ?_
      rotate_left
      · intro _; go_simp; try with_reducible rfl
      simp only [Act.put, List.setIfInBounds_toArray, List.set_cons_zero, List.set_cons_succ]
      refine wpAnyG_any (i := 6) (v := ?_) rfl (by kernel_rfl) (by kernel_rfl) (by kernel_rfl) (fun _ _ _ h => h) (by kernel_rfl) (fun _ => hS) (by kernel_rfl) ?_ ?_
      rotate_left
      · intro _; go_simp; try with_reducible rfl
      simp only [Act.put, List.setIfInBounds_toArray, List.set_cons_zero, List.set_cons_succ]
      refine wpAnyG_read (i := 4) (v := ?_) rfl (by kernel_rfl) (by kernel_rfl) (by kernel_rfl) (fun _ _ _ h => h) (by kernel_rfl) (by kernel_rfl) (by kernel_rfl) hS (by kernel_rfl) ?_ ?_
      rotate_left
      · intro wx hSw; go_split_ands; go_simp; try with_reducible rfl
      simp only [Act.put, List.setIfInBounds_toArray, List.set_cons_zero, List.set_cons_succ]
      refine wpAnyG_any (i := 5) (v := ?_) rfl (by kernel_rfl) (by kernel_rfl) (by kernel_rfl) (fun _ _ _ h => h) (by kernel_rfl) (fun _ => hS) (by kernel_rfl) ?_ ?_
      rotate_left
      · intro _; go_simp; try with_reducible rfl
      simp only [Act.put, List.setIfInBounds_toArray, List.set_cons_zero, List.set_cons_succ]
      refine wpAnyG_any (i := 7) (v := ?_) rfl (by kernel_rfl) (by kernel_rfl) (by kernel_rfl) (fun _ _ _ h => h) (by kernel_rfl) (fun _ => hS) (by kernel_rfl) ?_ ?_
      rotate_left
      · intro _; go_simp; try with_reducible rfl
      simp only [Act.put, List.setIfInBounds_toArray, List.set_cons_zero, List.set_cons_succ]
      refine wpAnyG_one (i := 8) rfl (by kernel_rfl) (by kernel_rfl) (fun K hK => ?_)
      go_simp
      refine hK.out _ _ (fun h => absurd (show true = false from h) (by decide)) ?_
      clear hK K
      refine wpAnyG_done (by kernel_rfl) ?_ _
      go_wp2
      go_roundw
      case rel => exact ⟨k + 1, by omega, by go_num, by rw [HS.out]; exact hH1.set k _, grown_set (grown_drew hG) _ _⟩
      case measure => simp [intOf]; omega
    · obtain rfl : k = 4 := by omega
      go_wp2
      go_end0
      exact ⟨⟨_, rfl⟩, hH, hG⟩

/-- 'fold'. -/
def foldL (L : List Int) : List Int :=
  let C := (carryK L 4).set 4 (bits .and .u64 ((carryK L 4)[4]?.getD 0) 67108863)
  let C2 := C.set 0 ((C[0]?.getD 0 + 5 * ((carryK L 4)[4]?.getD 0 / 67108864) % 18446744073709551616) % 18446744073709551616)
  let C3 := C2.set 1 ((C2[1]?.getD 0 + C2[0]?.getD 0 / 67108864) % 18446744073709551616)
  C3.set 0 (bits .and .u64 (C3[0]?.getD 0) 67108863)

set_option maxHeartbeats 1000000 in
theorem fold_any (g : Nat) (t : TypeId) (L : List Int) (w : World) (h : Holds w g .u64 t L) (hl : 5 ≤ L.length) :
    Calls Try.prog 62 #[.pointer (some ⟨g, 0, none⟩)] w fun e w' => (∃ r, e = .returned r) ∧ Holds w' g .u64 t (foldL L) ∧ w.grownBy w' (some g) := by
  have hca := carry_any g t L w h hl
  have hcl := carryK_length L 4
  have hF : ∃ F, foldL L = F := ⟨_, rfl⟩
  obtain ⟨F, hF⟩ := hF
  have HF : Veil (foldL L = F) := ⟨hF⟩
  rw [hF]
  unfold foldL at hF
  obtain ⟨C0, hC0⟩ : ∃ q, carryK L 4 = q := ⟨_, rfl⟩
  rw [hC0] at hca hcl hF
  have hcu := fun wx (hx : Holds wx g .u64 t C0) => cut_any g t C0 wx hx (by omega)
  obtain ⟨ov, hov⟩ : ∃ q, C0[4]?.getD 0 / 67108864 = q := ⟨_, rfl⟩
  rw [hov] at hcu hF
  obtain ⟨C, hC⟩ : ∃ q, C0.set 4 (bits .and .u64 (C0[4]?.getD 0) 67108863) = q := ⟨_, rfl⟩
  have hCl : C.length = L.length := by rw [← hC, List.length_set, hcl]
  rw [hC] at hcu hF
  dsimp only at hF
  obtain ⟨x0, hx0⟩ : ∃ q, C[0]?.getD 0 = q := ⟨_, rfl⟩
  rw [hx0] at hF
  obtain ⟨C2, hC2⟩ : ∃ q, C.set 0 ((x0 + 5 * ov % 18446744073709551616) % 18446744073709551616) = q := ⟨_, rfl⟩
  have hC2l : C2.length = L.length := by rw [← hC2, List.length_set, hCl]
  rw [hC2] at hF
  obtain ⟨y0, hy0⟩ : ∃ q, C2[0]?.getD 0 = q := ⟨_, rfl⟩
  obtain ⟨y1, hy1⟩ : ∃ q, C2[1]?.getD 0 = q := ⟨_, rfl⟩
  rw [hy0, hy1] at hF
  obtain ⟨C3, hC3⟩ : ∃ q, C2.set 1 ((y1 + y0 / 67108864) % 18446744073709551616) = q := ⟨_, rfl⟩
  have hC3l : C3.length = L.length := by rw [← hC3, List.length_set, hC2l]
  rw [hC3] at hF
  obtain ⟨z0, hz0⟩ : ∃ q, C3[0]?.getD 0 = q := ⟨_, rfl⟩
  rw [hz0] at hF
  have HF1 : Veil (C3.set 0 (bits .and .u64 z0 67108863) = F) := ⟨hF⟩
  have HC2 : Veil (C.set 0 ((x0 + 5 * ov % 18446744073709551616) % 18446744073709551616) = C2) := ⟨hC2⟩
  have HC3 : Veil (C2.set 1 ((y1 + y0 / 67108864) % 18446744073709551616) = C3) := ⟨hC3⟩
  clear hF hC2 hC3 hC hC0 hov
  go_enter Try.func62, Try.ntmps62
  go_upto_region 2 with (first
    | (go_at_call 59; refine hca.mono ?_; rintro e w1 ⟨⟨r, rfl⟩, h1, g1⟩)
    | (go_at_call 63; refine (hcu _ h1).mono ?_; rintro e w2 ⟨rfl, h2, g2⟩))
  have g12 := g1.trans g2
  clear hca hcu g1 g2 h1
  have h3 := h2.drew
  have c1 := h3.cell 0 (by omega)
  have f1 := h3.frozen 0
  rw [hx0] at c1
  refine wp_region_gate (fun w' => w'.cell? ⟨g, 0, none⟩ = some (.int .u64 x0)) 9 (by kernel_rfl) ?_
  have hS : w2.drew.cell? ⟨g, 0, none⟩ = some (.int .u64 x0) := c1
  refine wpAnyG_any (i := 0) (v := ?_) rfl (by kernel_rfl) (by kernel_rfl) (by kernel_rfl) (fun _ _ _ h => h) (by kernel_rfl) (fun _ => hS) (by kernel_rfl) ?_ ?_
  rotate_left
  · intro _; go_simp; try with_reducible rfl
  simp only [Act.put, List.setIfInBounds_toArray, List.set_cons_zero, List.set_cons_succ]
  refine wpAnyG_any (i := 1) (v := ?_) rfl (by kernel_rfl) (by kernel_rfl) (by kernel_rfl) (fun _ _ _ h => h) (by kernel_rfl) (fun _ => hS) (by kernel_rfl) ?_ ?_
  rotate_left
  · intro _; go_simp; try with_reducible rfl
  simp only [Act.put, List.setIfInBounds_toArray, List.set_cons_zero, List.set_cons_succ]
  refine wpAnyG_any (i := 2) (v := ?_) rfl (by kernel_rfl) (by kernel_rfl) (by kernel_rfl) (fun _ _ _ h => h) (by kernel_rfl) (fun _ => hS) (by kernel_rfl) ?_ ?_
  rotate_left
  · intro _; go_simp; try with_reducible rfl
  simp only [Act.put, List.setIfInBounds_toArray, List.set_cons_zero, List.set_cons_succ]
  refine wpAnyG_any (i := 4) (v := ?_) rfl (by kernel_rfl) (by kernel_rfl) (by kernel_rfl) (fun _ _ _ h => h) (by kernel_rfl) (fun _ => hS) (by kernel_rfl) ?_ ?_
  rotate_left
  · intro _; go_simp; try with_reducible rfl
  simp only [Act.put, List.setIfInBounds_toArray, List.set_cons_zero, List.set_cons_succ]
  refine wpAnyG_any (i := 5) (v := ?_) rfl (by kernel_rfl) (by kernel_rfl) (by kernel_rfl) (fun _ _ _ h => h) (by kernel_rfl) (fun _ => hS) (by kernel_rfl) ?_ ?_
  rotate_left
  · intro _; go_simp; try with_reducible rfl
  simp only [Act.put, List.setIfInBounds_toArray, List.set_cons_zero, List.set_cons_succ]
  refine wpAnyG_any (i := 7) (v := ?_) rfl (by kernel_rfl) (by kernel_rfl) (by kernel_rfl) (fun _ _ _ h => h) (by kernel_rfl) (fun _ => hS) (by kernel_rfl) ?_ ?_
  rotate_left
  · intro _; go_simp; try with_reducible rfl
  simp only [Act.put, List.setIfInBounds_toArray, List.set_cons_zero, List.set_cons_succ]
  refine wpAnyG_read (i := 3) (v := ?_) rfl (by kernel_rfl) (by kernel_rfl) (by kernel_rfl) (fun _ _ _ h => h) (by kernel_rfl) (by kernel_rfl) (by kernel_rfl) hS (by kernel_rfl) ?_ ?_
  rotate_left
  · intro wx hSw; go_split_ands; go_simp; try with_reducible rfl
  simp only [Act.put, List.setIfInBounds_toArray, List.set_cons_zero, List.set_cons_succ]
  refine wpAnyG_any (i := 6) (v := ?_) rfl (by kernel_rfl) (by kernel_rfl) (by kernel_rfl) (fun _ _ _ h => h) (by kernel_rfl) (fun _ => hS) (by kernel_rfl) ?_ ?_
  rotate_left
  · intro _; go_simp; try with_reducible rfl
  simp only [Act.put, List.setIfInBounds_toArray, List.set_cons_zero, List.set_cons_succ]
  refine wpAnyG_any (i := 8) (v := ?_) rfl (by kernel_rfl) (by kernel_rfl) (by kernel_rfl) (fun _ _ _ h => h) (by kernel_rfl) (fun _ => hS) (by kernel_rfl) ?_ ?_
  rotate_left
  · intro _; go_simp; try with_reducible rfl
  simp only [Act.put, List.setIfInBounds_toArray, List.set_cons_zero, List.set_cons_succ]
  refine wpAnyG_one (i := 9) rfl (by kernel_rfl) (by kernel_rfl) (fun K hK => ?_)
  go_simp
  refine hK.out _ _ (fun h => absurd (show true = false from h) (by decide)) ?_
  clear hK K
  refine wpAnyG_done (by kernel_rfl) ?_ _
  go_upto_region 3 with fail
  refine forget (p := fun y => Code.wp _ _ _ _ y) (fun W1 => Holds W1 g .u64 t C2 ∧ w.grownBy W1 (some g)) ⟨by rw [← HC2.out]; exact h3.set 0 _, grown_set (grown_drew g12) _ _⟩ ?_
  clear hS c1 f1 h3 h2 g12
  rintro W1 ⟨h2, g2⟩
  have h3 := h2.drew
  have c1 := h3.cell 0 (by omega)
  have c2 := h3.cell 1 (by omega)
  have f2 := h3.frozen 1
  rw [hy0] at c1
  rw [hy1] at c2
  refine wp_region_gate (fun w' => w'.cell? ⟨g, 0, none⟩ = some (.int .u64 y0) ∧ w'.cell? ⟨g, 1, none⟩ = some (.int .u64 y1)) 12 (by kernel_rfl) ?_
  have hS := And.intro c1 c2
  refine wpAnyG_any (i := 0) (v := ?_) rfl (by kernel_rfl) (by kernel_rfl) (by kernel_rfl) (fun _ _ _ h => h) (by kernel_rfl) (fun _ => hS) (by kernel_rfl) ?_ ?_
  rotate_left
  · intro _; go_simp; try with_reducible rfl
  simp only [Act.put, List.setIfInBounds_toArray, List.set_cons_zero, List.set_cons_succ]
  refine wpAnyG_any (i := 1) (v := ?_) rfl (by kernel_rfl) (by kernel_rfl) (by kernel_rfl) (fun _ _ _ h => h) (by kernel_rfl) (fun _ => hS) (by kernel_rfl) ?_ ?_
  rotate_left
  · intro _; go_simp; try with_reducible rfl
  simp only [Act.put, List.setIfInBounds_toArray, List.set_cons_zero, List.set_cons_succ]
  refine wpAnyG_any (i := 2) (v := ?_) rfl (by kernel_rfl) (by kernel_rfl) (by kernel_rfl) (fun _ _ _ h => h) (by kernel_rfl) (fun _ => hS) (by kernel_rfl) ?_ ?_
  rotate_left
  · intro _; go_simp; try with_reducible rfl
  simp only [Act.put, List.setIfInBounds_toArray, List.set_cons_zero, List.set_cons_succ]
  refine wpAnyG_any (i := 4) (v := ?_) rfl (by kernel_rfl) (by kernel_rfl) (by kernel_rfl) (fun _ _ _ h => h) (by kernel_rfl) (fun _ => hS) (by kernel_rfl) ?_ ?_
  rotate_left
  · intro _; go_simp; try with_reducible rfl
  simp only [Act.put, List.setIfInBounds_toArray, List.set_cons_zero, List.set_cons_succ]
  refine wpAnyG_any (i := 5) (v := ?_) rfl (by kernel_rfl) (by kernel_rfl) (by kernel_rfl) (fun _ _ _ h => h) (by kernel_rfl) (fun _ => hS) (by kernel_rfl) ?_ ?_
  rotate_left
  · intro _; go_simp; try with_reducible rfl
  simp only [Act.put, List.setIfInBounds_toArray, List.set_cons_zero, List.set_cons_succ]
  refine wpAnyG_any (i := 6) (v := ?_) rfl (by kernel_rfl) (by kernel_rfl) (by kernel_rfl) (fun _ _ _ h => h) (by kernel_rfl) (fun _ => hS) (by kernel_rfl) ?_ ?_
  rotate_left
  · intro _; go_simp; try with_reducible rfl
  simp only [Act.put, List.setIfInBounds_toArray, List.set_cons_zero, List.set_cons_succ]
  refine wpAnyG_any (i := 10) (v := ?_) rfl (by kernel_rfl) (by kernel_rfl) (by kernel_rfl) (fun _ _ _ h => h) (by kernel_rfl) (fun _ => hS) (by kernel_rfl) ?_ ?_
  rotate_left
  · intro _; go_simp; try with_reducible rfl
  simp only [Act.put, List.setIfInBounds_toArray, List.set_cons_zero, List.set_cons_succ]
  refine wpAnyG_read (i := 3) (v := ?_) rfl (by kernel_rfl) (by kernel_rfl) (by kernel_rfl) (fun _ _ _ h => h) (by kernel_rfl) (by kernel_rfl) (by kernel_rfl) hS (by kernel_rfl) ?_ ?_
  rotate_left
  · intro wx hSw; go_split_ands; go_simp; try with_reducible rfl
  simp only [Act.put, List.setIfInBounds_toArray, List.set_cons_zero, List.set_cons_succ]
  refine wpAnyG_read (i := 7) (v := ?_) rfl (by kernel_rfl) (by kernel_rfl) (by kernel_rfl) (fun _ _ _ h => h) (by kernel_rfl) (by kernel_rfl) (by kernel_rfl) hS (by kernel_rfl) ?_ ?_
  rotate_left
  · intro wx hSw; go_split_ands; go_simp; try with_reducible rfl
  simp only [Act.put, List.setIfInBounds_toArray, List.set_cons_zero, List.set_cons_succ]
  refine wpAnyG_any (i := 8) (v := ?_) rfl (by kernel_rfl) (by kernel_rfl) (by kernel_rfl) (fun _ _ _ h => h) (by kernel_rfl) (fun _ => hS) (by kernel_rfl) ?_ ?_
  rotate_left
  · intro _; go_simp; try with_reducible rfl
  simp only [Act.put, List.setIfInBounds_toArray, List.set_cons_zero, List.set_cons_succ]
  refine wpAnyG_any (i := 9) (v := ?_) rfl (by kernel_rfl) (by kernel_rfl) (by kernel_rfl) (fun _ _ _ h => h) (by kernel_rfl) (fun _ => hS) (by kernel_rfl) ?_ ?_
  rotate_left
  · intro _; go_simp; try with_reducible rfl
  simp only [Act.put, List.setIfInBounds_toArray, List.set_cons_zero, List.set_cons_succ]
  refine wpAnyG_any (i := 11) (v := ?_) rfl (by kernel_rfl) (by kernel_rfl) (by kernel_rfl) (fun _ _ _ h => h) (by kernel_rfl) (fun _ => hS) (by kernel_rfl) ?_ ?_
  rotate_left
  · intro _; go_simp; try with_reducible rfl
  simp only [Act.put, List.setIfInBounds_toArray, List.set_cons_zero, List.set_cons_succ]
  refine wpAnyG_one (i := 12) rfl (by kernel_rfl) (by kernel_rfl) (fun K hK => ?_)
  go_simp
  refine hK.out _ _ (fun h => absurd (show true = false from h) (by decide)) ?_
  clear hK K
  refine wpAnyG_done (by kernel_rfl) ?_ _
  go_upto_region 4 with fail
  refine forget (p := fun y => Code.wp _ _ _ _ y) (fun W1 => Holds W1 g .u64 t C3 ∧ w.grownBy W1 (some g)) ⟨by rw [← HC3.out]; exact h3.set 1 _, grown_set (grown_drew g2) _ _⟩ ?_
  clear hS c1 c2 f2 h3 h2 g2
  rintro W2 ⟨h2, g2⟩
  have h3 := h2.drew
  have c1 := h3.cell 0 (by omega)
  have f1 := h3.frozen 0
  rw [hz0] at c1
  refine wp_region_gate (fun w' => w'.cell? ⟨g, 0, none⟩ = some (.int .u64 z0)) 7 (by kernel_rfl) ?_
  have hS : W2.drew.cell? ⟨g, 0, none⟩ = some (.int .u64 z0) := c1
  refine wpAnyG_any (i := 0) (v := ?_) rfl (by kernel_rfl) (by kernel_rfl) (by kernel_rfl) (fun _ _ _ h => h) (by kernel_rfl) (fun _ => hS) (by kernel_rfl) ?_ ?_
  rotate_left
  · intro _; go_simp; try with_reducible rfl
  simp only [Act.put, List.setIfInBounds_toArray, List.set_cons_zero, List.set_cons_succ]
  refine wpAnyG_any (i := 1) (v := ?_) rfl (by kernel_rfl) (by kernel_rfl) (by kernel_rfl) (fun _ _ _ h => h) (by kernel_rfl) (fun _ => hS) (by kernel_rfl) ?_ ?_
  rotate_left
  · intro _; go_simp; try with_reducible rfl
  simp only [Act.put, List.setIfInBounds_toArray, List.set_cons_zero, List.set_cons_succ]
  refine wpAnyG_any (i := 2) (v := ?_) rfl (by kernel_rfl) (by kernel_rfl) (by kernel_rfl) (fun _ _ _ h => h) (by kernel_rfl) (fun _ => hS) (by kernel_rfl) ?_ ?_
  rotate_left
  · intro _; go_simp; try with_reducible rfl
  simp only [Act.put, List.setIfInBounds_toArray, List.set_cons_zero, List.set_cons_succ]
  refine wpAnyG_any (i := 5) (v := ?_) rfl (by kernel_rfl) (by kernel_rfl) (by kernel_rfl) (fun _ _ _ h => h) (by kernel_rfl) (fun _ => hS) (by kernel_rfl) ?_ ?_
  rotate_left
  · intro _; go_simp; try with_reducible rfl
  simp only [Act.put, List.setIfInBounds_toArray, List.set_cons_zero, List.set_cons_succ]
  refine wpAnyG_read (i := 3) (v := ?_) rfl (by kernel_rfl) (by kernel_rfl) (by kernel_rfl) (fun _ _ _ h => h) (by kernel_rfl) (by kernel_rfl) (by kernel_rfl) hS (by kernel_rfl) ?_ ?_
  rotate_left
  · intro wx hSw; go_split_ands; go_simp; try with_reducible rfl
  simp only [Act.put, List.setIfInBounds_toArray, List.set_cons_zero, List.set_cons_succ]
  refine wpAnyG_any (i := 4) (v := ?_) rfl (by kernel_rfl) (by kernel_rfl) (by kernel_rfl) (fun _ _ _ h => h) (by kernel_rfl) (fun _ => hS) (by kernel_rfl) ?_ ?_
  rotate_left
  · intro _; go_simp; try with_reducible rfl
  simp only [Act.put, List.setIfInBounds_toArray, List.set_cons_zero, List.set_cons_succ]
  refine wpAnyG_any (i := 6) (v := ?_) rfl (by kernel_rfl) (by kernel_rfl) (by kernel_rfl) (fun _ _ _ h => h) (by kernel_rfl) (fun _ => hS) (by kernel_rfl) ?_ ?_
  rotate_left
  · intro _; go_simp; try with_reducible rfl
  simp only [Act.put, List.setIfInBounds_toArray, List.set_cons_zero, List.set_cons_succ]
  refine wpAnyG_one (i := 7) rfl (by kernel_rfl) (by kernel_rfl) (fun K hK => ?_)
  go_simp
  refine hK.out _ _ (fun h => absurd (show true = false from h) (by decide)) ?_
  clear hK K
  refine wpAnyG_done (by kernel_rfl) ?_ _
  go_wp2
  go_end0
  exact ⟨⟨_, rfl⟩, by rw [← HF1.out]; exact h3.set 0 _, grown_set (grown_drew g2) _ _⟩

/-- 'add', step by step. -/
def addK (L m : List Int) : Nat → List Int
  | 0 => L
  | i + 1 => (addK L m i).set i (((addK L m i)[i]?.getD 0 + m[i]?.getD 0) % 18446744073709551616)
theorem addK_length (L m : List Int) (i : Nat) : (addK L m i).length = L.length := by
  induction i with
  | zero => rfl
  | succ i ih => simp [addK, ih]

set_option maxHeartbeats 1000000 in
theorem add_any (g : Nat) (t : TypeId) (L m : List Int) (w : World) (h : Holds w g .u64 t L) (hl : 5 ≤ L.length) (hm : m.length = 5) :
    Calls Try.prog 56 #[.pointer (some ⟨g, 0, none⟩), .agg (row .u64 m)] w fun e w' => (∃ r, e = .returned r) ∧ Holds w' g .u64 t (addK L m 5) ∧ w.grownBy w' (some g) := by
  have hgl := h.lt
  go_enter Try.func56, Try.ntmps56
  go_wp2_with fail
  go_loopw [5] (fun i wr => ∃ k : Nat, k ≤ 5 ∧ i = .int .i64 k ∧ Holds wr g .u64 t (addK L m k) ∧ Holds wr w.heap.size .u64 92 m ∧ w.grownBy wr (some g)) (fun i _ => 5 - (intOf i).toNat)
  case atStart => exact ⟨0, by omega, rfl, h.alloc _, Holds.new w .u64 92 m, World.grownBy_alloc _ _ _⟩
  case round =>
    obtain ⟨k, hk, rfl, hH, hM, hG⟩ := hrel
    by_cases hlt : k < 5
    · have hKl := addK_length L m k
      have HS : Veil (addK L m (k + 1) = (addK L m k).set k (((addK L m k)[k]?.getD 0 + m[k]?.getD 0) % 18446744073709551616)) := ⟨rfl⟩
      obtain ⟨A, hA⟩ : ∃ M, addK L m k = M := ⟨_, rfl⟩
      rw [hA] at hH hKl HS
      have hH1 := hH.drew
      have hM1 := hM.drew
      have c1 := hH1.cell k (by omega)
      have c2 := hM1.cell k (by omega)
      have f1 := hH1.frozen k
      obtain ⟨x, hx⟩ : ∃ x, A[k]?.getD 0 = x := ⟨_, rfl⟩
      obtain ⟨y, hy⟩ : ∃ y, m[k]?.getD 0 = y := ⟨_, rfl⟩
      rw [hx] at c1 HS
      rw [hy] at c2 HS
      have hk0 : (0 : Int) ≤ (k : Int) := by omega
      have hk5 : (k : Int) < 5 := by omega
      clear hA hx hy
      go_upto_region 4 with fail
      refine wp_region_gate (fun w' => w'.cell? ⟨g, k, none⟩ = some (.int .u64 x) ∧ w'.cell? ⟨w.heap.size, k, none⟩ = some (.int .u64 y)) 11 (by kernel_rfl) ?_
      have hS := And.intro c1 c2
      refine wpAnyG_any (i := 0) (v := ?_) rfl (by kernel_rfl) (by kernel_rfl) (by kernel_rfl) (fun _ _ _ h => h) (by kernel_rfl) (fun _ => hS) (by kernel_rfl) ?_ ?_
      rotate_left
      · intro _; go_simp; try with_reducible rfl
      simp only [Act.put, List.setIfInBounds_toArray, List.set_cons_zero, List.set_cons_succ]
      refine wpAnyG_any (i := 1) (v := ?_) rfl (by kernel_rfl) (by kernel_rfl) (by kernel_rfl) (fun _ _ _ h => h) (by kernel_rfl) (fun _ => hS) (by kernel_rfl) ?_ ?_
      rotate_left
      · intro _; go_simp; try with_reducible rfl
      simp only [Act.put, List.setIfInBounds_toArray, List.set_cons_zero, List.set_cons_succ]
      refine wpAnyG_any (i := 2) (v := ?_) rfl (by kernel_rfl) (by kernel_rfl) (by kernel_rfl) (fun _ _ _ h => h) (by kernel_rfl) (fun _ => hS) (by kernel_rfl) ?_ ?_
      rotate_left
      · intro _; go_simp; try with_reducible rfl
      simp only [Act.put, List.setIfInBounds_toArray, List.set_cons_zero, List.set_cons_succ]
      refine wpAnyG_any (i := 3) (v := ?_) rfl (by kernel_rfl) (by kernel_rfl) (by kernel_rfl) (fun _ _ _ h => h) (by kernel_rfl) (fun _ => hS) (by kernel_rfl) ?_ ?_
      rotate_left
      · intro _; go_simp; try with_reducible rfl
      simp only [Act.put, List.setIfInBounds_toArray, List.set_cons_zero, List.set_cons_succ]
      refine wpAnyG_any (i := 5) (v := ?_) rfl (by kernel_rfl) (by kernel_rfl) (by kernel_rfl) (fun _ _ _ h => h) (by kernel_rfl) (fun _ => hS) (by kernel_rfl) ?_ ?_
      rotate_left
      · intro _; go_simp; try with_reducible rfl
      simp only [Act.put, List.setIfInBounds_toArray, List.set_cons_zero, List.set_cons_succ]
      refine wpAnyG_any (i := 6) (v := ?_) rfl (by kernel_rfl) (by kernel_rfl) (by kernel_rfl) (fun _ _ _ h => h) (by kernel_rfl) (fun _ => hS) (by kernel_rfl) ?_ ?_
      rotate_left
      · intro _; go_simp; try with_reducible rfl
      simp only [Act.put, List.setIfInBounds_toArray, List.set_cons_zero, List.set_cons_succ]
      refine wpAnyG_any (i := 9) (v := ?_) rfl (by kernel_rfl) (by kernel_rfl) (by kernel_rfl) (fun _ _ _ h => h) (by kernel_rfl) (fun _ => hS) (by kernel_rfl) ?_ ?_
      rotate_left
      · intro _; go_simp; try with_reducible rfl
      simp only [Act.put, List.setIfInBounds_toArray, List.set_cons_zero, List.set_cons_succ]
      refine wpAnyG_read (i := 4) (v := ?_) rfl (by kernel_rfl) (by kernel_rfl) (by kernel_rfl) (fun _ _ _ h => h) (by kernel_rfl) (by kernel_rfl) (by kernel_rfl) hS (by kernel_rfl) ?_ ?_
      rotate_left
      · intro wx hSw; go_split_ands; go_simp; try with_reducible rfl
      simp only [Act.put, List.setIfInBounds_toArray, List.set_cons_zero, List.set_cons_succ]
      refine wpAnyG_read (i := 7) (v := ?_) rfl (by kernel_rfl) (by kernel_rfl) (by kernel_rfl) (fun _ _ _ h => h) (by kernel_rfl) (by kernel_rfl) (by kernel_rfl) hS (by kernel_rfl) ?_ ?_
      rotate_left
      · intro wx hSw; go_split_ands; go_simp; try with_reducible rfl
      simp only [Act.put, List.setIfInBounds_toArray, List.set_cons_zero, List.set_cons_succ]
      refine wpAnyG_any (i := 8) (v := ?_) rfl (by kernel_rfl) (by kernel_rfl) (by kernel_rfl) (fun _ _ _ h => h) (by kernel_rfl) (fun _ => hS) (by kernel_rfl) ?_ ?_
      rotate_left
      · intro _; go_simp; try with_reducible rfl
      simp only [Act.put, List.setIfInBounds_toArray, List.set_cons_zero, List.set_cons_succ]
      refine wpAnyG_any (i := 10) (v := ?_) rfl (by kernel_rfl) (by kernel_rfl) (by kernel_rfl) (fun _ _ _ h => h) (by kernel_rfl) (fun _ => hS) (by kernel_rfl) ?_ ?_
      rotate_left
      · intro _; go_simp; try with_reducible rfl
      simp only [Act.put, List.setIfInBounds_toArray, List.set_cons_zero, List.set_cons_succ]
      refine wpAnyG_one (i := 11) rfl (by kernel_rfl) (by kernel_rfl) (fun K hK => ?_)
      go_simp
      refine hK.out _ _ (fun h => absurd (show true = false from h) (by decide)) ?_
      clear hK K
      refine wpAnyG_done (by kernel_rfl) ?_ _
      go_wp2
      go_roundw
      case rel => exact ⟨k + 1, by omega, by go_num, by rw [HS.out]; exact hH1.set k _, hM1.setOther _ _ (by simp; omega), grown_set (grown_drew hG) _ _⟩
      case measure => simp [intOf]; omega
    · obtain rfl : k = 5 := by omega
      go_wp2
      go_end0
      exact ⟨⟨_, rfl⟩, hH, hG⟩
end Go.Proofs.Ytgepicbijpfhhaa

namespace Go.Proofs.Ytgepicbijpfhhaa
open Go.RowKit
set_option maxRecDepth 20000
set_option linter.unusedSimpArgs false

/-- Eight bytes as a number, step by step. -/
def halfK (z : List Int) : Nat → Int
  | 0 => 0
  | i + 1 => bits .or .u64 (halfK z i) (z[i]?.getD 0 % 18446744073709551616 * 2 ^ (8 * i) % 18446744073709551616)

set_option maxHeartbeats 1000000 in
theorem half_any (b off cap : Nat) (z : List Int) (w : World) (hc : ∀ j, j < 8 → w.cell? ⟨b, off + j, none⟩ = some (.int .u8 (z[j]?.getD 0))) :
    Calls Try.prog 54 #[.slice (some ⟨b, off, none⟩) 8 cap] w fun e w' => e = .returned (.int .u64 (halfK z 8)) ∧ w' = w := by
  go_enter Try.func54, Try.ntmps54
  go_wp2
  go_loop [3, 5] (fun x i => ∃ k : Nat, k ≤ 8 ∧ i = .int .i64 k ∧ x = .int .u64 (halfK z k)) (fun _ i => 8 - (intOf i).toNat)
  case atStart => exact ⟨0, by omega, rfl, rfl⟩
  case round =>
    obtain ⟨k, hk, rfl, rfl⟩ := hrel
    by_cases hlt : k < 8
    · have c := hc k hlt
      have HS : Veil (halfK z (k + 1) = bits .or .u64 (halfK z k) (z[k]?.getD 0 % 18446744073709551616 * 2 ^ (8 * k) % 18446744073709551616)) := ⟨rfl⟩
      obtain ⟨p, hp⟩ : ∃ p, z[k]?.getD 0 = p := ⟨_, rfl⟩
      obtain ⟨X, hX⟩ : ∃ p, halfK z k = p := ⟨_, rfl⟩
      rw [hp] at c HS
      rw [hX] at HS ⊢
      clear hp hX
      have hkc : k = 0 ∨ k = 1 ∨ k = 2 ∨ k = 3 ∨ k = 4 ∨ k = 5 ∨ k = 6 ∨ k = 7 := by omega
      clear hlt hk hc
      rcases hkc with rfl | rfl | rfl | rfl | rfl | rfl | rfl | rfl
      all_goals
        try rw [Nat.add_zero] at c
        go_wp2
        go_round
        case rel => exact ⟨_, by decide, rfl, by rw [HS.out]; simp [IntKind.wrap_u64]⟩
        case measure => simp [intOf]
    · obtain rfl : k = 8 := by omega
      go_wp2
      go_ret
      exact ⟨rfl, rfl⟩

theorem size17 : (Try.prog.info? 95).map (·.size) = some 17 := by kernel_rfl
theorem size5 : (Try.prog.info? 92).map (·.size) = some 5 := by kernel_rfl
theorem size16b : (Try.prog.info? 45).map (·.size) = some 16 := by kernel_rfl

theorem drop_get (z : List Int) (i j : Nat) : (z.drop i)[j]?.getD 0 = z[i + j]?.getD 0 := by rw [List.getElem?_drop]

/-- Seventeen bytes as five limbs. -/
def numL (z : List Int) : List Int :=
  let low := halfK z 8
  let high := halfK (z.drop 8) 8
  let top := z[16]?.getD 0 % 18446744073709551616
  [bits .and .u64 low 67108863, bits .and .u64 (low / 67108864) 67108863, bits .and .u64 (bits .or .u64 (low / 4503599627370496) (high * 4096 % 18446744073709551616)) 67108863, bits .and .u64 (high / 16384) 67108863, bits .or .u64 (high / 1099511627776) (top * 16777216 % 18446744073709551616)]

set_option maxHeartbeats 1000000 in
theorem numberOf_any (z : List Int) (w : World) (hz : z.length = 17) :
    Calls Try.prog 40 #[.agg (row .u8 z)] w fun e w' => e = .returned (.agg (row .u64 (numL z))) ∧ Below w.heap.size w w' := by
  have h0 : Holds (w.alloc (.cells (row .u8 z) 95)) w.heap.size .u8 95 z := Holds.new w .u8 _ z
  have hN : ∃ l, numL z = l := ⟨_, rfl⟩
  obtain ⟨l, hN⟩ := hN
  rw [hN]
  unfold numL at hN
  have h1 := fun (wx : World) (hx : Holds wx w.heap.size .u8 95 z) => half_any w.heap.size 0 17 z wx (fun j hj => by rw [Nat.zero_add]; exact hx.cell j (by omega))
  have h2 := fun (wx : World) (hx : Holds wx w.heap.size .u8 95 z) => half_any w.heap.size 8 9 (z.drop 8) wx (fun j hj => by rw [drop_get]; exact hx.cell (8 + j) (by omega))
  obtain ⟨A, hA⟩ : ∃ q, halfK z 8 = q := ⟨_, rfl⟩
  obtain ⟨B, hB⟩ : ∃ q, halfK (z.drop 8) 8 = q := ⟨_, rfl⟩
  obtain ⟨T, hT⟩ : ∃ q, z[16]?.getD 0 = q := ⟨_, rfl⟩
  rw [hA] at h1 hN
  rw [hB] at h2 hN
  rw [hT] at hN
  dsimp only at hN
  have HN : Veil (l = [bits .and .u64 A 67108863, bits .and .u64 (A / 67108864) 67108863, bits .and .u64 (bits .or .u64 (A / 4503599627370496) (IntKind.u64.wrap (B * 4096))) 67108863, bits .and .u64 (B / 16384) 67108863, bits .or .u64 (B / 1099511627776) (IntKind.u64.wrap (IntKind.u64.wrap T * 16777216))]) := ⟨by rw [← hN]; simp only [IntKind.wrap_u64]⟩
  have hll : l.length = 5 := by rw [HN.out]; rfl
  clear hN hA hB
  go_enter Try.func40, Try.ntmps40
  go_upto_region 1 with fail
  refine forget (p := fun y => Code.wp _ _ _ _ y) (fun W0 => Below w.heap.size w W0 ∧ W0.heap.size = w.heap.size + 2 ∧ Holds W0 w.heap.size .u8 95 z ∧ Holds W0 (w.heap.size + 1) .u64 92 (List.replicate 5 0)) ⟨((Below.refl _ _).alloc (Nat.le_refl _) _).alloc (by simp) _, by simp, h0.alloc _, ?_⟩ ?_
  · have := Holds.new (w.alloc (.cells (row .u8 z) 95)) .u64 92 (List.replicate 5 0)
    rw [World.size_alloc] at this
    exact this
  clear h0
  rintro W0 ⟨hB0, hs0, hz0, hR0⟩
  have hz1 := hz0.drew
  have c16 := hz1.cell 16 (by omega)
  rw [hT] at c16
  refine wp_region_gate (fun w' => w'.cell? ⟨w.heap.size, 16, none⟩ = some (.int .u8 T)) 9 (by kernel_rfl) ?_
  have hS : W0.drew.cell? ⟨w.heap.size, 16, none⟩ = some (.int .u8 T) := c16
  refine wpAnyG_any (i := 0) (v := ?_) rfl (by kernel_rfl) (by kernel_rfl) (by kernel_rfl) (fun _ _ _ h => h) (by kernel_rfl) (fun _ => hS) (by kernel_rfl) ?_ ?_
  rotate_left
  · intro _; go_simp; try with_reducible rfl
  simp only [Act.put, List.setIfInBounds_toArray, List.set_cons_zero, List.set_cons_succ]
  refine wpAnyG_any (i := 2) (v := ?_) rfl (by kernel_rfl) (by kernel_rfl) (by kernel_rfl) (fun _ _ _ h => h) (by kernel_rfl) (fun _ => hS) (by kernel_rfl) ?_ ?_
  rotate_left
  · intro _; go_simp; try with_reducible rfl
  simp only [Act.put, List.setIfInBounds_toArray, List.set_cons_zero, List.set_cons_succ]
  refine wpAnyG_any (i := 4) (v := ?_) rfl (by kernel_rfl) (by kernel_rfl) (by kernel_rfl) (fun _ _ _ h => h) (by kernel_rfl) (fun _ => hS) (by kernel_rfl) ?_ ?_
  rotate_left
  · intro _; go_simp; try with_reducible rfl
  simp only [Act.put, List.setIfInBounds_toArray, List.set_cons_zero, List.set_cons_succ]
  refine wpAnyG_read (i := 5) (v := ?_) rfl (by kernel_rfl) (by kernel_rfl) (by kernel_rfl) (fun _ _ _ h => h) (by kernel_rfl) (by kernel_rfl) (by kernel_rfl) hS (by kernel_rfl) ?_ ?_
  rotate_left
  · intro wx hSw; go_split_ands; go_simp; try with_reducible rfl
  simp only [Act.put, List.setIfInBounds_toArray, List.set_cons_zero, List.set_cons_succ]
  refine wpAnyG_any (i := 6) (v := ?_) rfl (by kernel_rfl) (by kernel_rfl) (by kernel_rfl) (fun _ _ _ h => h) (by kernel_rfl) (fun _ => hS) (by kernel_rfl) ?_ ?_
  rotate_left
  · intro _; go_simp; try with_reducible rfl
  simp only [Act.put, List.setIfInBounds_toArray, List.set_cons_zero, List.set_cons_succ]
  refine wpAnyG_one (i := 1) rfl (by kernel_rfl) (by kernel_rfl) (fun K hK => ?_)
  go_wp2_with (go_at_call 54; refine (h1 _ hz1).mono ?_; rintro e w1 ⟨rfl, rfl⟩)
  refine hK.out _ _ (fun _ => hS) ?_
  clear hK K
  refine wpAnyG_one (i := 3) rfl (by kernel_rfl) (by kernel_rfl) (fun K hK => ?_)
  go_wp2_with (go_at_call 54; refine (h2 _ hz1).mono ?_; rintro e w1 ⟨rfl, rfl⟩)
  refine hK.out _ _ (fun _ => hS) ?_
  clear hK K
  refine wpAnyG_any (i := 7) (v := ?_) rfl (by kernel_rfl) (by kernel_rfl) (by kernel_rfl) (fun _ _ _ h => h) (by kernel_rfl) (fun _ => hS) (by kernel_rfl) ?_ ?_
  rotate_left
  · intro _; go_simp; try with_reducible rfl
  simp only [Act.put, List.setIfInBounds_toArray, List.set_cons_zero, List.set_cons_succ]
  refine wpAnyG_any (i := 8) (v := ?_) rfl (by kernel_rfl) (by kernel_rfl) (by kernel_rfl) (fun _ _ _ h => h) (by kernel_rfl) (fun _ => hS) (by kernel_rfl) ?_ ?_
  rotate_left
  · intro _; go_simp; try with_reducible rfl
  simp only [Act.put, List.setIfInBounds_toArray, List.set_cons_zero, List.set_cons_succ]
  refine wpAnyG_one (i := 9) rfl (by kernel_rfl) (by kernel_rfl) (fun K hK => ?_)
  go_simp
  refine hK.out _ _ (fun h => absurd (show true = false from h) (by decide)) ?_
  clear hK K
  refine wpAnyG_done (by kernel_rfl) ?_ _
  have hR1 := hR0.drew
  go_wp2_with (refine wpList_st rfl 92 _ _ rfl _ rfl (k := .u64) (l := l) (by rw [HN.out]; rfl) hR1 (by rw [hll]; exact size5) (by simp [hll]) ?_)
  refine bodyPost_ret (results_holds (Try.results40) _ rfl (hR1.setRow _) Try.underlying92 size5 hll) rfl ⟨rfl, ?_⟩
  exact below_setRow (hB0.drew) (by omega) _

theorem bare_any (z : List Int) (w : World) (hz : z.length = 16) :
    Calls Try.prog 41 #[.agg (row .u8 z)] w fun e w' => e = .returned (.agg (row .u8 (z ++ [0]))) ∧ Below w.heap.size w w' := by
  have h0 : Holds (w.alloc (.cells (row .u8 z) 45)) w.heap.size .u8 45 z := Holds.new w .u8 _ z
  have hl : (z ++ [0]).length = 17 := by simp [hz]
  have HZ : Veil (z ++ List.replicate (17 - z.length) 0 = z ++ [0]) := ⟨by rw [hz]; rfl⟩
  go_enter Try.func41, Try.ntmps41
  go_upto_region 2 with fail
  refine forget (p := fun y => Code.wp _ _ _ _ y) (fun W0 => Below w.heap.size w W0 ∧ Holds W0 w.heap.size .u8 45 z ∧ Holds W0 (w.heap.size + 1) .u8 95 (List.replicate 17 0) ∧ Holds W0 (w.heap.size + 1 + 1) .u8 95 (List.replicate 17 0)) ⟨(((Below.refl _ _).alloc (Nat.le_refl _) _).alloc (by simp) _).alloc (by simp; omega) _, (h0.alloc _).alloc _, ?_, ?_⟩ ?_
  · have := Holds.new (w.alloc (.cells (row .u8 z) 45)) .u8 95 (List.replicate 17 0)
    rw [World.size_alloc] at this
    exact this.alloc _
  · have := Holds.new ((w.alloc (.cells (row .u8 z) 45)).alloc (.cells (row .u8 (List.replicate 17 0)) 95)) .u8 95 (List.replicate 17 0)
    rw [World.size_alloc, World.size_alloc] at this
    exact this
  clear h0
  rintro W0 ⟨hB0, hz0, hR0, hA0⟩
  have hcp := run_copy_bytes W0.drew (w.heap.size + 1 + 1) 17 (some ⟨w.heap.size, 0, none⟩) 16 16 z (hz0.drew.bytes hz.symm (by omega)) hA0.drew (by omega)
  rw [HZ.out] at hcp
  refine wp_region_gate (fun _ => True) 2 (by kernel_rfl) ?_
  have hS : True := trivial
  refine wpAnyG_any (i := 0) (v := ?_) rfl (by kernel_rfl) (by kernel_rfl) (by kernel_rfl) (fun _ _ _ h => h) (by kernel_rfl) (fun _ => hS) (by kernel_rfl) ?_ ?_
  rotate_left
  · intro _; go_simp; try with_reducible rfl
  simp only [Act.put, List.setIfInBounds_toArray, List.set_cons_zero, List.set_cons_succ]
  refine wpAnyG_any (i := 1) (v := ?_) rfl (by kernel_rfl) (by kernel_rfl) (by kernel_rfl) (fun _ _ _ h => h) (by kernel_rfl) (fun _ => hS) (by kernel_rfl) ?_ ?_
  rotate_left
  · intro _; go_simp; try with_reducible rfl
  simp only [Act.put, List.setIfInBounds_toArray, List.set_cons_zero, List.set_cons_succ]
  refine wpAnyG_one (i := 2) rfl (by kernel_rfl) (by kernel_rfl) (fun K hK => ?_)
  go_simp
  refine hK.out _ _ (fun h => absurd (show true = false from h) (by decide)) ?_
  clear hK K
  refine wpAnyG_done (by kernel_rfl) ?_ _
  go_upto_region 3 with fail
  refine forget (p := fun y => Code.wp _ _ _ _ y) (fun W1 => Below w.heap.size w W1 ∧ Holds W1 (w.heap.size + 1) .u8 95 (List.replicate 17 0) ∧ Holds W1 (w.heap.size + 1 + 1) .u8 95 (z ++ [0])) ⟨below_setRow hB0.drew (by omega) _, hR0.drew.setRowOther _ (by omega), hA0.drew.setRow _⟩ ?_
  clear hcp hA0 hR0 hz0 hB0 hS HZ
  rintro W1 ⟨hB, hR, hA⟩
  go_wp2_with (first
    | (refine wpList_ld rfl 95 _ rfl _ rfl hA Try.underlying95 size17 hl ?_)
    | (refine wpList_st rfl 95 _ _ rfl _ rfl rfl hR (by rw [hl]; exact size17) (by simp [hl]) ?_))
  refine bodyPost_ret (results_holds (Try.results41) _ rfl (hR.setRow _) Try.underlying95 size17 hl) rfl ⟨rfl, ?_⟩
  exact below_setRow hB (by omega) _
end Go.Proofs.Ytgepicbijpfhhaa

namespace Go.Proofs.Ytgepicbijpfhhaa
open Go.RowKit
set_option maxRecDepth 20000
set_option linter.unusedSimpArgs false

theorem size1u64 : (Try.prog.info? 90).map (·.size) = some 1 := by kernel_rfl
theorem five {l : List Int} (h : l.length = 5) : ∃ a b c d e, l = [a, b, c, d, e] := by
  match l, h with
  | [a, b, c, d, e], _ => exact ⟨a, b, c, d, e, rfl⟩
theorem fiveMore {l : List Int} (h : 5 ≤ l.length) : ∃ a b c d e r, l = a :: b :: c :: d :: e :: r := by
  match l, h with
  | a :: b :: c :: d :: e :: r, _ => exact ⟨a, b, c, d, e, r, rfl⟩

/-- One of the products, added where it stands. -/
def stepP (p : List Int) (x y : Int) (i j : Nat) : List Int :=
  if i + j < 5 then p.set (i + j) ((p[i + j]?.getD 0 + x * y % 18446744073709551616) % 18446744073709551616)
  else p.set (i + j - 5) ((p[i + j - 5]?.getD 0 + 5 * x % 18446744073709551616 * y % 18446744073709551616) % 18446744073709551616)
theorem stepP_length (p : List Int) (x y : Int) (i j : Nat) : (stepP p x y i j).length = p.length := by unfold stepP; split <;> simp
def innerK (x : Int) (m : List Int) (i : Nat) (p : List Int) : Nat → List Int
  | 0 => p
  | j + 1 => stepP (innerK x m i p j) x (m[j]?.getD 0) i j
theorem innerK_length (x : Int) (m : List Int) (i : Nat) (p : List Int) (j : Nat) : (innerK x m i p j).length = p.length := by
  induction j with
  | zero => rfl
  | succ j ih => simp only [innerK, stepP_length, ih]
def outerK (L m : List Int) : Nat → List Int
  | 0 => List.replicate 5 0
  | i + 1 => innerK (L[i]?.getD 0) m i (outerK L m i) 5
theorem outerK_length (L m : List Int) (i : Nat) : (outerK L m i).length = 5 := by
  induction i with
  | zero => rfl
  | succ i ih => simp only [outerK, innerK_length, ih]
def timesL (L m : List Int) : List Int := foldL (outerK L m 5 ++ L.drop 5)

set_option maxHeartbeats 4000000 in
theorem times_any (g : Nat) (t : TypeId) (L m : List Int) (w : World) (h : Holds w g .u64 t L) (hl : 5 ≤ L.length) (hm : m.length = 5) :
    Calls Try.prog 57 #[.pointer (some ⟨g, 0, none⟩), .agg (row .u64 m)] w fun e w' => (∃ r, e = .returned r) ∧ Holds w' g .u64 t (timesL L m) ∧ w.grownBy w' (some g) := by
  have hgl := h.lt
  have hix : ∀ (j : Nat), j < 5 → ∀ wx, (Instr.index 92 (.agg (row .u64 m)) (.int .i64 j)).run Try.prog wx = .ok (.int .u64 (m[j]?.getD 0)) wx := fun j hj wx => run_index_row wx 92 90 5 .u64 m j Try.underlying92 Try.underlying90 size1u64 hm hj
  go_enter Try.func57, Try.ntmps57
  go_upto_region 2 with fail
  refine forget (p := fun y => Code.wp _ _ _ _ y) (fun W0 => w.grownBy W0 (some g) ∧ Holds W0 g .u64 t L ∧ Holds W0 w.heap.size .u64 92 m ∧ Holds W0 (w.heap.size + 1) .u64 92 (List.replicate 5 0)) ⟨(World.grownBy_alloc _ _ _).trans (World.grownBy_alloc _ _ _), (h.alloc _).alloc _, (Holds.new w .u64 _ m).alloc _, ?_⟩ ?_
  · have := Holds.new (w.alloc (.cells (row .u64 m) 92)) .u64 92 (List.replicate 5 0)
    rw [World.size_alloc] at this
    exact this
  rintro W0 ⟨hG0, hL0, hM0, hP0⟩
  go_wp2_with fail
  go_loopw [11] (fun q wr => ∃ i : Nat, i ≤ 5 ∧ q = .int .i64 i ∧ w.grownBy wr (some g) ∧ Holds wr g .u64 t L ∧ Holds wr w.heap.size .u64 92 m ∧ Holds wr (w.heap.size + 1) .u64 92 (outerK L m i)) (fun q _ => 5 - (intOf q).toNat)
  case atStart => exact ⟨0, by omega, rfl, hG0, hL0, hM0, hP0⟩
  case round =>
    clear hG0 hL0 hM0 hP0
    obtain ⟨i, hi, rfl, hG, hL, hM, hP⟩ := hrel
    by_cases hlt : i < 5
    · have HO : Veil (outerK L m (i + 1) = innerK (L[i]?.getD 0) m i (outerK L m i) 5) := ⟨rfl⟩
      have hPl := outerK_length L m i
      obtain ⟨P, hPe⟩ : ∃ q, outerK L m i = q := ⟨_, rfl⟩
      rw [hPe] at hP HO hPl
      have hL1 := hL.drew
      have c1 := hL1.cell i (by omega)
      obtain ⟨x, hx⟩ : ∃ q, L[i]?.getD 0 = q := ⟨_, rfl⟩
      rw [hx] at c1 HO
      have hi0 : (0 : Int) ≤ (i : Int) := by omega
      have hi5 : (i : Int) < 5 := by omega
      clear hPe hx
      go_upto_region 4 with fail
      refine wp_region_gate (fun w' => w'.cell? ⟨g, i, none⟩ = some (.int .u64 x)) 5 (by kernel_rfl) ?_
      have hS : wr.drew.cell? ⟨g, i, none⟩ = some (.int .u64 x) := c1
      refine wpAnyG_any (i := 0) (v := ?_) rfl (by kernel_rfl) (by kernel_rfl) (by kernel_rfl) (fun _ _ _ h => h) (by kernel_rfl) (fun _ => hS) (by kernel_rfl) ?_ ?_
      rotate_left
      · intro _; go_simp; try with_reducible rfl
      simp only [Act.put, List.setIfInBounds_toArray, List.set_cons_zero, List.set_cons_succ]
      refine wpAnyG_any (i := 1) (v := ?_) rfl (by kernel_rfl) (by kernel_rfl) (by kernel_rfl) (fun _ _ _ h => h) (by kernel_rfl) (fun _ => hS) (by kernel_rfl) ?_ ?_
      rotate_left
      · intro _; go_simp; try with_reducible rfl
      simp only [Act.put, List.setIfInBounds_toArray, List.set_cons_zero, List.set_cons_succ]
      refine wpAnyG_any (i := 2) (v := ?_) rfl (by kernel_rfl) (by kernel_rfl) (by kernel_rfl) (fun _ _ _ h => h) (by kernel_rfl) (fun _ => hS) (by kernel_rfl) ?_ ?_
      rotate_left
      · intro _; go_simp; try with_reducible rfl
      simp only [Act.put, List.setIfInBounds_toArray, List.set_cons_zero, List.set_cons_succ]
      refine wpAnyG_read (i := 3) (v := ?_) rfl (by kernel_rfl) (by kernel_rfl) (by kernel_rfl) (fun _ _ _ h => h) (by kernel_rfl) (by kernel_rfl) (by kernel_rfl) hS (by kernel_rfl) ?_ ?_
      rotate_left
      · intro wx hSw; go_split_ands; go_simp; try with_reducible rfl
      simp only [Act.put, List.setIfInBounds_toArray, List.set_cons_zero, List.set_cons_succ]
      refine wpAnyG_any (i := 4) (v := ?_) rfl (by kernel_rfl) (by kernel_rfl) (by kernel_rfl) (fun _ _ _ h => h) (by kernel_rfl) (fun _ => hS) (by kernel_rfl) ?_ ?_
      rotate_left
      · intro _; go_simp; try with_reducible rfl
      simp only [Act.put, List.setIfInBounds_toArray, List.set_cons_zero, List.set_cons_succ]
      refine wpAnyG_one (i := 5) rfl (by kernel_rfl) (by kernel_rfl) (fun K hK => ?_)
      go_simp
      refine hK.out _ _ (fun h => absurd (show true = false from h) (by decide)) ?_
      clear hK K
      refine wpAnyG_done (by kernel_rfl) ?_ _
      have hM1 := hM.drew
      have hP1 := hP.drew
      have hG1 := grown_drew hG
      clear hS c1 hL hM hP hG
      go_wp2_with (refine wpList_ld rfl 92 _ rfl _ rfl hM1 Try.underlying92 size5 hm ?_)
      go_loopw [18] (fun q wq => ∃ j : Nat, j ≤ 5 ∧ q = .int .i64 j ∧ w.grownBy wq (some g) ∧ Holds wq g .u64 t L ∧ Holds wq w.heap.size .u64 92 m ∧ Holds wq (w.heap.size + 1) .u64 92 (innerK x m i P j)) (fun q _ => 5 - (intOf q).toNat)
      case atStart => exact ⟨0, by omega, rfl, hG1, hL1, hM1, hP1⟩
      case round =>
        clear hL1 hM1 hP1 hG1
        obtain ⟨j, hj, rfl, hG, hL, hM, hP⟩ := hrel
        by_cases hjl : j < 5
        · have hixj := hix j hjl
          have HI : Veil (innerK x m i P (j + 1) = stepP (innerK x m i P j) x (m[j]?.getD 0) i j) := ⟨rfl⟩
          have hIl := innerK_length x m i P j
          obtain ⟨I, hIe⟩ : ∃ q, innerK x m i P j = q := ⟨_, rfl⟩
          rw [hIe] at hP HI hIl
          obtain ⟨y, hy⟩ : ∃ q, m[j]?.getD 0 = q := ⟨_, rfl⟩
          rw [hy] at hixj HI
          have hj0 : (0 : Int) ≤ (j : Int) := by omega
          have hj5 : (j : Int) < 5 := by omega
          clear hIe hy hix
          by_cases hij : i + j < 5
          · have hs : stepP I x y i j = I.set (i + j) ((I[i + j]?.getD 0 + x * y % 18446744073709551616) % 18446744073709551616) := by unfold stepP; rw [if_pos hij]
            have c2 := hP.cell (i + j) (by omega)
            have f2 := hP.frozen (i + j)
            obtain ⟨q, hq⟩ : ∃ q, I[i + j]?.getD 0 = q := ⟨_, rfl⟩
            rw [hq] at c2 hs
            have HS : Veil (innerK x m i P (j + 1) = I.set (i + j) ((q + x * y % 18446744073709551616) % 18446744073709551616)) := ⟨by rw [HI.out, hs]⟩
            have ha0 : (0 : Int) ≤ (i : Int) + (j : Int) := by omega
            have ha5 : (i : Int) + (j : Int) < 5 := by omega
            have htn : ((i : Int) + (j : Int)).toNat = i + j := by omega
            clear hq hs HI
            go_wp2
            go_roundw
            case rel => exact ⟨j + 1, by omega, by go_num, grown_setNew hG (by omega) _ _, hL.setOther _ _ (by simp; omega), hM.setOther _ _ (by simp), by rw [HS.out]; exact hP.set (i + j) _⟩
            case measure => simp [intOf]; omega
          · have hs : stepP I x y i j = I.set (i + j - 5) ((I[i + j - 5]?.getD 0 + 5 * x % 18446744073709551616 * y % 18446744073709551616) % 18446744073709551616) := by unfold stepP; rw [if_neg hij]
            have c2 := hP.cell (i + j - 5) (by omega)
            have f2 := hP.frozen (i + j - 5)
            obtain ⟨q, hq⟩ : ∃ q, I[i + j - 5]?.getD 0 = q := ⟨_, rfl⟩
            rw [hq] at c2 hs
            have HS : Veil (innerK x m i P (j + 1) = I.set (i + j - 5) ((q + 5 * x % 18446744073709551616 * y % 18446744073709551616) % 18446744073709551616)) := ⟨by rw [HI.out, hs]⟩
            have ha5 : ¬ ((i : Int) + (j : Int) < 5) := by omega
            obtain ⟨a, ha⟩ : ∃ a, i + j - 5 = a := ⟨_, rfl⟩
            rw [ha] at c2 f2 HS
            have hai : (i : Int) + (j : Int) - 5 = (a : Int) := by omega
            have ha6 : (a : Int) < 5 := by omega
            clear hq hs HI ha
            go_wp2
            go_roundw
            case rel => exact ⟨j + 1, by omega, by go_num, grown_setNew hG (by omega) _ _, hL.setOther _ _ (by simp; omega), hM.setOther _ _ (by simp), by rw [HS.out]; exact hP.set a _⟩
            case measure => simp [intOf]; omega
        · obtain rfl : j = 5 := by omega
          go_wp2
          go_roundw
          case rel => exact ⟨i + 1, by omega, by go_num, hG, hL, hM, by rw [HO.out]; exact hP⟩
          case measure => simp [intOf]; omega
    · obtain rfl : i = 5 := by omega
      have hPl := outerK_length L m 5
      have HT : Veil (timesL L m = foldL (outerK L m 5 ++ L.drop 5)) := ⟨rfl⟩
      obtain ⟨p0, p1, p2, p3, p4, hp⟩ := five hPl
      rw [hp] at hP HT
      clear hp hPl hix hM
      obtain ⟨l0, l1, l2, l3, l4, R, rfl⟩ := fiveMore hl
      have a0 := hP.cell 0 (by simp)
      have a1 := hP.cell 1 (by simp)
      have a2 := hP.cell 2 (by simp)
      have a3 := hP.cell 3 (by simp)
      have a4 := hP.cell 4 (by simp)
      have b0 := hL.cell 0 (by simp)
      have b1 := hL.cell 1 (by simp)
      have b2 := hL.cell 2 (by simp)
      have b3 := hL.cell 3 (by simp)
      have b4 := hL.cell 4 (by simp)
      have ff := hL.frozen
      simp only [List.getElem?_cons_zero, List.getElem?_cons_succ, Option.getD_some] at a0 a1 a2 a3 a4 b0 b1 b2 b3 b4
      have hfin := ((((hL.set 0 p0).set 1 p1).set 2 p2).set 3 p3).set 4 p4
      simp only [List.set_cons_zero, List.set_cons_succ] at hfin
      have hfo := fold_any g t _ _ hfin (by simp)
      have HT2 : Veil (timesL (l0 :: l1 :: l2 :: l3 :: l4 :: R) m = foldL (p0 :: p1 :: p2 :: p3 :: p4 :: R)) := ⟨by rw [HT.out]; rfl⟩
      clear HT
      go_wp2_with (go_at_call 62; refine hfo.mono ?_; rintro e w2 ⟨⟨r, rfl⟩, h2, g2⟩)
      go_end0
      exact ⟨⟨_, rfl⟩, by rw [HT2.out]; exact h2, (grown_set (grown_set (grown_set (grown_set (grown_set hG _ _) _ _) _ _) _ _) _ _).trans g2⟩
end Go.Proofs.Ytgepicbijpfhhaa

namespace Go.Proofs.Ytgepicbijpfhhaa
open Go.RowKit
set_option maxRecDepth 20000
set_option linter.unusedSimpArgs false

/-- Limb by limb one of two numbers. -/
def selK (L S : List Int) (ch : Int) : Nat → List Int
  | 0 => L
  | i + 1 => (selK L S ch i).set i (bits .or .u64 (bits .andNot .u64 ((selK L S ch i)[i]?.getD 0) ch) (bits .and .u64 (S[i]?.getD 0) ch))
theorem selK_length (L S : List Int) (ch : Int) (i : Nat) : (selK L S ch i).length = L.length := by
  induction i with
  | zero => rfl
  | succ i ih => simp [selK, ih]
def lessL (L : List Int) : List Int := carryK ((L.take 5).set 0 ((L[0]?.getD 0 + 5) % 18446744073709551616)) 4
theorem lessL_length (L : List Int) (h : 5 ≤ L.length) : (lessL L).length = 5 := by
  unfold lessL; rw [carryK_length, List.length_set, List.length_take]; omega
def settleL (L : List Int) : List Int :=
  selK L ((lessL L).set 4 (bits .and .u64 ((lessL L)[4]?.getD 0) 67108863)) (IntKind.u64.wrap (-((lessL L)[4]?.getD 0 / 67108864))) 5

set_option maxHeartbeats 2000000 in
theorem settle_any (g : Nat) (t : TypeId) (L : List Int) (w : World) (h : Holds w g .u64 t L) (hl : 5 ≤ L.length) :
    Calls Try.prog 58 #[.pointer (some ⟨g, 0, none⟩)] w fun e w' => (∃ r, e = .returned r) ∧ Holds w' g .u64 t (settleL L) ∧ w.grownBy w' (some g) := by
  have hgl := h.lt
  have hST : Veil (settleL L = selK L ((lessL L).set 4 (bits .and .u64 ((lessL L)[4]?.getD 0) 67108863)) (IntKind.u64.wrap (-((lessL L)[4]?.getD 0 / 67108864))) 5) := ⟨rfl⟩
  have hLl := lessL_length L hl
  have hLe : Veil (lessL L = carryK ((L.take 5).set 0 ((L[0]?.getD 0 + 5) % 18446744073709551616)) 4) := ⟨rfl⟩
  obtain ⟨l0, l1, l2, l3, l4, R, hLL⟩ := fiveMore hl
  have b0 := h.cell 0 (by omega)
  have b1 := h.cell 1 (by omega)
  have b2 := h.cell 2 (by omega)
  have b3 := h.cell 3 (by omega)
  have b4 := h.cell 4 (by omega)
  have e0 : (L.take 5).set 0 ((L[0]?.getD 0 + 5) % 18446744073709551616) = [(l0 + 5) % 18446744073709551616, l1, l2, l3, l4] := by rw [hLL]; rfl
  rw [e0] at hLe
  rw [hLL] at b0 b1 b2 b3 b4
  simp only [List.getElem?_cons_zero, List.getElem?_cons_succ, Option.getD_some] at b0 b1 b2 b3 b4
  clear e0 hLL
  have hN := Holds.new w .u64 92 (List.replicate 5 0)
  have hN2 : Holds ((w.alloc (.cells (row .u64 (List.replicate 5 0)) 92)).setRow w.heap.size (row .u64 [l0, l1, l2, l3, l4])) w.heap.size .u64 92 [l0, l1, l2, l3, l4] := hN.setRow _
  have hca := fun (wx : World) (hx : Holds wx w.heap.size .u64 92 [(l0 + 5) % 18446744073709551616, l1, l2, l3, l4]) => carry_any w.heap.size 92 _ wx hx (by simp)
  rw [← hLe.out] at hca
  obtain ⟨S, hS⟩ : ∃ q, lessL L = q := ⟨_, rfl⟩
  rw [hS] at hca hLl hST
  have hcu := fun (wx : World) (hx : Holds wx w.heap.size .u64 92 S) => cut_any w.heap.size 92 S wx hx (by omega)
  obtain ⟨S2, hS2⟩ : ∃ q, S.set 4 (bits .and .u64 (S[4]?.getD 0) 67108863) = q := ⟨_, rfl⟩
  have hS2l : S2.length = 5 := by rw [← hS2, List.length_set, hLl]
  rw [hS2] at hcu hST
  obtain ⟨ov, hov⟩ : ∃ q, S[4]?.getD 0 / 67108864 = q := ⟨_, rfl⟩
  rw [hov] at hcu hST
  clear hS hLe hS2 hov
  go_enter Try.func58, Try.ntmps58
  go_upto_region 1 with (refine wpList_st rfl 92 _ _ rfl _ rfl (k := .u64) (l := [l0, l1, l2, l3, l4]) rfl hN size5 rfl ?_)
  refine forget (p := fun y => Code.wp _ _ _ _ y) (fun W0 => w.grownBy W0 (some g) ∧ Holds W0 g .u64 t L ∧ Holds W0 w.heap.size .u64 92 [l0, l1, l2, l3, l4]) ⟨?_, (h.alloc _).setRowOther _ (by omega), hN2⟩ ?_
  · exact ⟨rfl, rfl, rfl, by simp, fun k hk _ => by rw [setRow_other _ _ _ _ (by omega), Below.heap_alloc w _ k hk]⟩
  clear hN hN2 b0 b1 b2 b3 b4
  rintro W0 ⟨hG0, hL0, hS0⟩
  simp only [Act.put]
  have c0 := hS0.cell 0 (by simp)
  have f0 := hS0.frozen 0
  simp only [List.getElem?_cons_zero, Option.getD_some] at c0
  go_upto_region 2 with fail
  refine forget (p := fun y => Code.wp _ _ _ _ y) (fun W1 => w.grownBy W1 (some g) ∧ Holds W1 g .u64 t L ∧ Holds W1 w.heap.size .u64 92 [(l0 + 5) % 18446744073709551616, l1, l2, l3, l4]) ⟨grown_setNew hG0 (Nat.le_refl _) _ _, hL0.setOther _ _ (by simp; omega), hS0.set 0 _⟩ ?_
  clear c0 f0 hG0 hL0 hS0
  rintro W1 ⟨hG1, hL1, hS1⟩
  go_upto_region 4 with (first
    | (go_at_call 59; refine (hca _ hS1).mono ?_; rintro e w2 ⟨⟨r, rfl⟩, h2, g2⟩)
    | (go_at_call 63; refine (hcu _ h2).mono ?_; rintro e w3 ⟨rfl, h3, g3⟩))
  have hg23 := g2.trans g3
  have hL3 : Holds w3 g .u64 t L := by
    have hlt := hL1.lt
    unfold Holds at hL1 ⊢
    rw [hg23.block g hlt (by simp; omega)]; exact hL1
  have hG3 : w.grownBy w3 (some g) := hG1.andThen hg23 (fun j hj => by cases hj; exact .inl (Nat.le_refl _))
  clear hca hcu g2 g3 hg23 h2 hL1 hG1 hS1
  have HST : Veil (settleL L = selK L S2 (IntKind.u64.wrap (-ov)) 5) := hST
  clear hST
  obtain ⟨ch, hch⟩ : ∃ q, IntKind.u64.wrap (-ov) = q := ⟨_, rfl⟩
  rw [hch] at HST
  go_wp2_with fail
  rw [hch]
  go_loopw [15] (fun q wr => ∃ k : Nat, k ≤ 5 ∧ q = .int .i64 k ∧ w.grownBy wr (some g) ∧ Holds wr g .u64 t (selK L S2 ch k) ∧ Holds wr w.heap.size .u64 92 S2) (fun q _ => 5 - (intOf q).toNat)
  case atStart => exact ⟨0, by omega, rfl, hG3, hL3, h3⟩
  case round =>
    clear hG3 hL3 h3
    obtain ⟨k, hk, rfl, hG, hA, hB⟩ := hrel
    by_cases hlt : k < 5
    · have HS : Veil (selK L S2 ch (k + 1) = (selK L S2 ch k).set k (bits .or .u64 (bits .andNot .u64 ((selK L S2 ch k)[k]?.getD 0) ch) (bits .and .u64 (S2[k]?.getD 0) ch))) := ⟨rfl⟩
      have hAl := selK_length L S2 ch k
      obtain ⟨A, hAe⟩ : ∃ q, selK L S2 ch k = q := ⟨_, rfl⟩
      rw [hAe] at hA HS hAl
      have hA1 := hA.drew
      have hB1 := hB.drew
      have c1 := hA1.cell k (by omega)
      have c2 := hB1.cell k (by omega)
      have f1 := hA1.frozen k
      obtain ⟨x, hx⟩ : ∃ q, A[k]?.getD 0 = q := ⟨_, rfl⟩
      obtain ⟨y, hy⟩ : ∃ q, S2[k]?.getD 0 = q := ⟨_, rfl⟩
      rw [hx] at c1 HS
      rw [hy] at c2 HS
      have hk0 : (0 : Int) ≤ (k : Int) := by omega
      have hk5 : (k : Int) < 5 := by omega
      clear hAe hx hy hch
      go_upto_region 7 with fail
      refine wp_region_gate (fun w' => w'.cell? ⟨g, k, none⟩ = some (.int .u64 x) ∧ w'.cell? ⟨w.heap.size, k, none⟩ = some (.int .u64 y)) 17 (by kernel_rfl) ?_
      have hS := And.intro c1 c2
      refine wpAnyG_any (i := 0) (v := ?_) rfl (by kernel_rfl) (by kernel_rfl) (by kernel_rfl) (fun _ _ _ h => h) (by kernel_rfl) (fun _ => hS) (by kernel_rfl) ?_ ?_
      rotate_left
      · intro _; go_simp; try with_reducible rfl
      simp only [Act.put, List.setIfInBounds_toArray, List.set_cons_zero, List.set_cons_succ]
      refine wpAnyG_any (i := 1) (v := ?_) rfl (by kernel_rfl) (by kernel_rfl) (by kernel_rfl) (fun _ _ _ h => h) (by kernel_rfl) (fun _ => hS) (by kernel_rfl) ?_ ?_
      rotate_left
      · intro _; go_simp; try with_reducible rfl
      simp only [Act.put, List.setIfInBounds_toArray, List.set_cons_zero, List.set_cons_succ]
      refine wpAnyG_any (i := 2) (v := ?_) rfl (by kernel_rfl) (by kernel_rfl) (by kernel_rfl) (fun _ _ _ h => h) (by kernel_rfl) (fun _ => hS) (by kernel_rfl) ?_ ?_
      rotate_left
      · intro _; go_simp; try with_reducible rfl
      simp only [Act.put, List.setIfInBounds_toArray, List.set_cons_zero, List.set_cons_succ]
      refine wpAnyG_any (i := 3) (v := ?_) rfl (by kernel_rfl) (by kernel_rfl) (by kernel_rfl) (fun _ _ _ h => h) (by kernel_rfl) (fun _ => hS) (by kernel_rfl) ?_ ?_
      rotate_left
      · intro _; go_simp; try with_reducible rfl
      simp only [Act.put, List.setIfInBounds_toArray, List.set_cons_zero, List.set_cons_succ]
      refine wpAnyG_any (i := 4) (v := ?_) rfl (by kernel_rfl) (by kernel_rfl) (by kernel_rfl) (fun _ _ _ h => h) (by kernel_rfl) (fun _ => hS) (by kernel_rfl) ?_ ?_
      rotate_left
      · intro _; go_simp; try with_reducible rfl
      simp only [Act.put, List.setIfInBounds_toArray, List.set_cons_zero, List.set_cons_succ]
      refine wpAnyG_any (i := 5) (v := ?_) rfl (by kernel_rfl) (by kernel_rfl) (by kernel_rfl) (fun _ _ _ h => h) (by kernel_rfl) (fun _ => hS) (by kernel_rfl) ?_ ?_
      rotate_left
      · intro _; go_simp; try with_reducible rfl
      simp only [Act.put, List.setIfInBounds_toArray, List.set_cons_zero, List.set_cons_succ]
      refine wpAnyG_any (i := 7) (v := ?_) rfl (by kernel_rfl) (by kernel_rfl) (by kernel_rfl) (fun _ _ _ h => h) (by kernel_rfl) (fun _ => hS) (by kernel_rfl) ?_ ?_
      rotate_left
      · intro _; go_simp; try with_reducible rfl
      simp only [Act.put, List.setIfInBounds_toArray, List.set_cons_zero, List.set_cons_succ]
      refine wpAnyG_any (i := 9) (v := ?_) rfl (by kernel_rfl) (by kernel_rfl) (by kernel_rfl) (fun _ _ _ h => h) (by kernel_rfl) (fun _ => hS) (by kernel_rfl) ?_ ?_
      rotate_left
      · intro _; go_simp; try with_reducible rfl
      simp only [Act.put, List.setIfInBounds_toArray, List.set_cons_zero, List.set_cons_succ]
      refine wpAnyG_any (i := 10) (v := ?_) rfl (by kernel_rfl) (by kernel_rfl) (by kernel_rfl) (fun _ _ _ h => h) (by kernel_rfl) (fun _ => hS) (by kernel_rfl) ?_ ?_
      rotate_left
      · intro _; go_simp; try with_reducible rfl
      simp only [Act.put, List.setIfInBounds_toArray, List.set_cons_zero, List.set_cons_succ]
      refine wpAnyG_any (i := 12) (v := ?_) rfl (by kernel_rfl) (by kernel_rfl) (by kernel_rfl) (fun _ _ _ h => h) (by kernel_rfl) (fun _ => hS) (by kernel_rfl) ?_ ?_
      rotate_left
      · intro _; go_simp; try with_reducible rfl
      simp only [Act.put, List.setIfInBounds_toArray, List.set_cons_zero, List.set_cons_succ]
      refine wpAnyG_any (i := 15) (v := ?_) rfl (by kernel_rfl) (by kernel_rfl) (by kernel_rfl) (fun _ _ _ h => h) (by kernel_rfl) (fun _ => hS) (by kernel_rfl) ?_ ?_
      rotate_left
      · intro _; go_simp; try with_reducible rfl
      simp only [Act.put, List.setIfInBounds_toArray, List.set_cons_zero, List.set_cons_succ]
      refine wpAnyG_read (i := 6) (v := ?_) rfl (by kernel_rfl) (by kernel_rfl) (by kernel_rfl) (fun _ _ _ h => h) (by kernel_rfl) (by kernel_rfl) (by kernel_rfl) hS (by kernel_rfl) ?_ ?_
      rotate_left
      · intro wx hSw; go_split_ands; go_simp; try with_reducible rfl
      simp only [Act.put, List.setIfInBounds_toArray, List.set_cons_zero, List.set_cons_succ]
      refine wpAnyG_read (i := 11) (v := ?_) rfl (by kernel_rfl) (by kernel_rfl) (by kernel_rfl) (fun _ _ _ h => h) (by kernel_rfl) (by kernel_rfl) (by kernel_rfl) hS (by kernel_rfl) ?_ ?_
      rotate_left
      · intro wx hSw; go_split_ands; go_simp; try with_reducible rfl
      simp only [Act.put, List.setIfInBounds_toArray, List.set_cons_zero, List.set_cons_succ]
      refine wpAnyG_any (i := 8) (v := ?_) rfl (by kernel_rfl) (by kernel_rfl) (by kernel_rfl) (fun _ _ _ h => h) (by kernel_rfl) (fun _ => hS) (by kernel_rfl) ?_ ?_
      rotate_left
      · intro _; go_simp; try with_reducible rfl
      simp only [Act.put, List.setIfInBounds_toArray, List.set_cons_zero, List.set_cons_succ]
      refine wpAnyG_any (i := 13) (v := ?_) rfl (by kernel_rfl) (by kernel_rfl) (by kernel_rfl) (fun _ _ _ h => h) (by kernel_rfl) (fun _ => hS) (by kernel_rfl) ?_ ?_
      rotate_left
      · intro _; go_simp; try with_reducible rfl
      simp only [Act.put, List.setIfInBounds_toArray, List.set_cons_zero, List.set_cons_succ]
      refine wpAnyG_any (i := 14) (v := ?_) rfl (by kernel_rfl) (by kernel_rfl) (by kernel_rfl) (fun _ _ _ h => h) (by kernel_rfl) (fun _ => hS) (by kernel_rfl) ?_ ?_
      rotate_left
      · intro _; go_simp; try with_reducible rfl
      simp only [Act.put, List.setIfInBounds_toArray, List.set_cons_zero, List.set_cons_succ]
      refine wpAnyG_any (i := 16) (v := ?_) rfl (by kernel_rfl) (by kernel_rfl) (by kernel_rfl) (fun _ _ _ h => h) (by kernel_rfl) (fun _ => hS) (by kernel_rfl) ?_ ?_
      rotate_left
      · intro _; go_simp; try with_reducible rfl
      simp only [Act.put, List.setIfInBounds_toArray, List.set_cons_zero, List.set_cons_succ]
      refine wpAnyG_one (i := 17) rfl (by kernel_rfl) (by kernel_rfl) (fun K hK => ?_)
      go_simp
      refine hK.out _ _ (fun h => absurd (show true = false from h) (by decide)) ?_
      clear hK K
      refine wpAnyG_done (by kernel_rfl) ?_ _
      go_wp2
      go_roundw
      case rel => exact ⟨k + 1, by omega, by go_num, grown_set (grown_drew hG) _ _, by rw [HS.out]; exact hA1.set k _, hB1.setOther _ _ (by simp; omega)⟩
      case measure => simp [intOf]; omega
    · obtain rfl : k = 5 := by omega
      go_wp2
      go_end0
      exact ⟨⟨_, rfl⟩, by rw [HST.out]; exact hA, hG⟩

/-- The lowest sixteen bytes, step by step. -/
def lowK (lo hi : Int) : Nat → List Int
  | 0 => List.replicate 16 0
  | i + 1 => ((lowK lo hi i).set i (lo / 2 ^ (8 * i) % 256)).set (8 + i) (hi / 2 ^ (8 * i) % 256)
theorem lowK_length (lo hi : Int) (i : Nat) : (lowK lo hi i).length = 16 := by
  induction i with
  | zero => rfl
  | succ i ih => simp [lowK, ih]
def lowestL (L : List Int) : List Int :=
  lowK (bits .or .u64 (bits .or .u64 (L[0]?.getD 0) (L[1]?.getD 0 * 67108864 % 18446744073709551616)) (L[2]?.getD 0 * 4503599627370496 % 18446744073709551616))
    (bits .or .u64 (bits .or .u64 (L[2]?.getD 0 / 4096) (L[3]?.getD 0 * 16384 % 18446744073709551616)) (L[4]?.getD 0 * 1099511627776 % 18446744073709551616)) 8
theorem lowestL_length (L : List Int) : (lowestL L).length = 16 := lowK_length _ _ _
theorem sizeTag : (Try.prog.info? 46).map (·.size) = some 16 := by kernel_rfl

set_option maxHeartbeats 4000000 in
theorem lowest_any (g : Nat) (t : TypeId) (L : List Int) (w : World) (h : Holds w g .u64 t L) (hl : 5 ≤ L.length) :
    Calls Try.prog 60 #[.pointer (some ⟨g, 0, none⟩)] w fun e w' => e = .returned (.agg (row .u8 (lowestL L))) ∧ Below w.heap.size w w' := by
  have HL : Veil (lowestL L = lowK (bits .or .u64 (bits .or .u64 (L[0]?.getD 0) (IntKind.u64.wrap (L[1]?.getD 0 * 67108864))) (IntKind.u64.wrap (L[2]?.getD 0 * 4503599627370496)))
    (bits .or .u64 (bits .or .u64 (L[2]?.getD 0 / 4096) (IntKind.u64.wrap (L[3]?.getD 0 * 16384))) (IntKind.u64.wrap (L[4]?.getD 0 * 1099511627776))) 8) := ⟨by unfold lowestL; simp only [IntKind.wrap_u64]⟩
  have hll := lowestL_length L
  have b0 := (h.alloc (.cells (row .u8 (List.replicate 16 0)) 46)).cell 0 (by omega)
  have b1 := (h.alloc (.cells (row .u8 (List.replicate 16 0)) 46)).cell 1 (by omega)
  have b2 := (h.alloc (.cells (row .u8 (List.replicate 16 0)) 46)).cell 2 (by omega)
  have b3 := (h.alloc (.cells (row .u8 (List.replicate 16 0)) 46)).cell 3 (by omega)
  have b4 := (h.alloc (.cells (row .u8 (List.replicate 16 0)) 46)).cell 4 (by omega)
  obtain ⟨l0, h0⟩ : ∃ q, L[0]?.getD 0 = q := ⟨_, rfl⟩
  obtain ⟨l1, h1⟩ : ∃ q, L[1]?.getD 0 = q := ⟨_, rfl⟩
  obtain ⟨l2, h2⟩ : ∃ q, L[2]?.getD 0 = q := ⟨_, rfl⟩
  obtain ⟨l3, h3⟩ : ∃ q, L[3]?.getD 0 = q := ⟨_, rfl⟩
  obtain ⟨l4, h4⟩ : ∃ q, L[4]?.getD 0 = q := ⟨_, rfl⟩
  rw [h0] at b0 HL
  rw [h1] at b1 HL
  rw [h2] at b2 HL
  rw [h3] at b3 HL
  rw [h4] at b4 HL
  clear h0 h1 h2 h3 h4
  go_enter Try.func60, Try.ntmps60
  go_upto_region 1 with fail
  refine forget (p := fun y => Code.wp _ _ _ _ y) (fun W0 => Below w.heap.size w W0 ∧ W0.heap.size = w.heap.size + 1 ∧ Holds W0 w.heap.size .u8 46 (List.replicate 16 0) ∧ W0.cell? ⟨g, 0, none⟩ = some (.int .u64 l0) ∧ W0.cell? ⟨g, 1, none⟩ = some (.int .u64 l1) ∧ W0.cell? ⟨g, 2, none⟩ = some (.int .u64 l2) ∧ W0.cell? ⟨g, 3, none⟩ = some (.int .u64 l3) ∧ W0.cell? ⟨g, 4, none⟩ = some (.int .u64 l4)) ⟨(Below.refl _ _).alloc (Nat.le_refl _) _, by simp, Holds.new w .u8 46 (List.replicate 16 0), b0, b1, b2, b3, b4⟩ ?_
  clear b0 b1 b2 b3 b4
  rintro W0 ⟨hB0, hs0, hR0, b0, b1, b2, b3, b4⟩
  go_quiet ((fail))
  go_upto_region 2 with fail
  refine forget (p := fun y => Code.wp _ _ _ _ y) (fun W1 => Below w.heap.size w W1 ∧ W1.heap.size = w.heap.size + 1 ∧ Holds W1 w.heap.size .u8 46 (List.replicate 16 0) ∧ W1.cell? ⟨g, 2, none⟩ = some (.int .u64 l2) ∧ W1.cell? ⟨g, 3, none⟩ = some (.int .u64 l3) ∧ W1.cell? ⟨g, 4, none⟩ = some (.int .u64 l4)) ⟨below_drewN hB0 nq, by simpa using hs0, hR0.drewN nq, by simpa using b2, by simpa using b3, by simpa using b4⟩ ?_
  clear b0 b1 b2 b3 b4 hB0 hs0 hR0
  rintro W1 ⟨hB0, hs0, hR0, b2, b3, b4⟩
  go_quiet ((fail))
  obtain ⟨lo, hlo⟩ : ∃ q, bits .or .u64 (bits .or .u64 l0 (IntKind.u64.wrap (l1 * 67108864))) (IntKind.u64.wrap (l2 * 4503599627370496)) = q := ⟨_, rfl⟩
  obtain ⟨hi, hhi⟩ : ∃ q, bits .or .u64 (bits .or .u64 (l2 / 4096) (IntKind.u64.wrap (l3 * 16384))) (IntKind.u64.wrap (l4 * 1099511627776)) = q := ⟨_, rfl⟩
  rw [hlo, hhi] at HL
  go_upto_region 3 with fail
  rw [hlo, hhi]
  clear hlo hhi b2 b3 b4
  have hN : Holds ((W1.drewN nq).alloc (.cells (row .u8 (List.replicate 16 0)) 46)) (w.heap.size + 1) .u8 46 (List.replicate 16 0) := by
    have := Holds.new (W1.drewN nq) .u8 46 (List.replicate 16 0)
    rw [drewN_size, hs0] at this
    exact this
  go_upto_region 4 with fail
  refine forget (p := fun y => Code.wp _ _ _ _ y) (fun W2 => Below w.heap.size w W2 ∧ Holds W2 w.heap.size .u8 46 (List.replicate 16 0) ∧ Holds W2 (w.heap.size + 1) .u8 46 (List.replicate 16 0)) ⟨(below_drewN hB0 nq).alloc (by simp; omega) _, (hR0.drewN nq).alloc _, hN⟩ ?_
  clear hN hB0 hs0 hR0
  rintro W2 ⟨hB2, hR2, hT2⟩
  go_wp2_with fail
  go_loopw [40] (fun q wr => ∃ k : Nat, k ≤ 8 ∧ q = .int .i64 k ∧ Below w.heap.size w wr ∧ Holds wr w.heap.size .u8 46 (List.replicate 16 0) ∧ Holds wr (w.heap.size + 1) .u8 46 (lowK lo hi k)) (fun q _ => 8 - (intOf q).toNat)
  case atStart => exact ⟨0, by omega, rfl, hB2, hR2, hT2⟩
  case round =>
    clear hB2 hR2 hT2
    obtain ⟨k, hk, rfl, hB, hR, hT⟩ := hrel
    by_cases hlt : k < 8
    · have HS : Veil (lowK lo hi (k + 1) = ((lowK lo hi k).set k (lo / 2 ^ (8 * k) % 256)).set (8 + k) (hi / 2 ^ (8 * k) % 256)) := ⟨rfl⟩
      have hTl := lowK_length lo hi k
      obtain ⟨A, hA⟩ : ∃ q, lowK lo hi k = q := ⟨_, rfl⟩
      rw [hA] at hT HS hTl
      have hT1 := hT.drew
      have c1 := hT1.cell k (by omega)
      have c2 := hT1.cell (8 + k) (by omega)
      have f1 := hT1.frozen k
      have f2 := hT1.frozen (8 + k)
      have d1 := hT.cell k (by omega)
      have d2 := hT.cell (8 + k) (by omega)
      have e1 := hT.frozen k
      have e2 := hT.frozen (8 + k)
      have hkc : k = 0 ∨ k = 1 ∨ k = 2 ∨ k = 3 ∨ k = 4 ∨ k = 5 ∨ k = 6 ∨ k = 7 := by omega
      clear hA hlt hk
      have wr0 : IntKind.i64.wrap 0 = 0 := by decide
      have wr8 : IntKind.i64.wrap 8 = 8 := by decide
      have wr9 : IntKind.i64.wrap 9 = 9 := by decide
      have wr10 : IntKind.i64.wrap 10 = 10 := by decide
      have wr11 : IntKind.i64.wrap 11 = 11 := by decide
      have wr12 : IntKind.i64.wrap 12 = 12 := by decide
      have wr13 : IntKind.i64.wrap 13 = 13 := by decide
      have wr14 : IntKind.i64.wrap 14 = 14 := by decide
      have wr15 : IntKind.i64.wrap 15 = 15 := by decide
      have wr16 : IntKind.i64.wrap 16 = 16 := by decide
      have wr24 : IntKind.i64.wrap 24 = 24 := by decide
      have wr32 : IntKind.i64.wrap 32 = 32 := by decide
      have wr40 : IntKind.i64.wrap 40 = 40 := by decide
      have wr48 : IntKind.i64.wrap 48 = 48 := by decide
      have wr56 : IntKind.i64.wrap 56 = 56 := by decide
      rcases hkc with rfl | rfl | rfl | rfl | rfl | rfl | rfl | rfl
      all_goals
        try simp only [Nat.reduceAdd, Nat.add_zero] at c2 f2 d2 e2
        go_upto_region 7 with fail
        refine wp_region_gate (fun _ => True) 14 (by kernel_rfl) ?_
        have hS : True := trivial
        refine wpAnyG_any (i := 0) (v := ?_) rfl (by kernel_rfl) (by kernel_rfl) (by kernel_rfl) (fun _ _ _ h => h) (by kernel_rfl) (fun _ => hS) (by kernel_rfl) ?_ ?_
        rotate_left
        · intro _; go_simp; try with_reducible rfl
        simp only [Act.put, List.setIfInBounds_toArray, List.set_cons_zero, List.set_cons_succ]
        refine wpAnyG_any (i := 1) (v := ?_) rfl (by kernel_rfl) (by kernel_rfl) (by kernel_rfl) (fun _ _ _ h => h) (by kernel_rfl) (fun _ => hS) (by kernel_rfl) ?_ ?_
        rotate_left
        · intro _; go_simp; try with_reducible rfl
        simp only [Act.put, List.setIfInBounds_toArray, List.set_cons_zero, List.set_cons_succ]
        refine wpAnyG_any (i := 2) (v := ?_) rfl (by kernel_rfl) (by kernel_rfl) (by kernel_rfl) (fun _ _ _ h => h) (by kernel_rfl) (fun _ => hS) (by kernel_rfl) ?_ ?_
        rotate_left
        · intro _; go_simp; try with_reducible rfl
        simp only [Act.put, List.setIfInBounds_toArray, List.set_cons_zero, List.set_cons_succ]
        refine wpAnyG_any (i := 3) (v := ?_) rfl (by kernel_rfl) (by kernel_rfl) (by kernel_rfl) (fun _ _ _ h => h) (by kernel_rfl) (fun _ => hS) (by kernel_rfl) ?_ ?_
        rotate_left
        · intro _; go_simp; try with_reducible rfl
        simp only [Act.put, List.setIfInBounds_toArray, List.set_cons_zero, List.set_cons_succ]
        refine wpAnyG_any (i := 4) (v := ?_) rfl (by kernel_rfl) (by kernel_rfl) (by kernel_rfl) (fun _ _ _ h => h) (by kernel_rfl) (fun _ => hS) (by kernel_rfl) ?_ ?_
        rotate_left
        · intro _; go_simp; try with_reducible rfl
        simp only [Act.put, List.setIfInBounds_toArray, List.set_cons_zero, List.set_cons_succ]
        refine wpAnyG_any (i := 5) (v := ?_) rfl (by kernel_rfl) (by kernel_rfl) (by kernel_rfl) (fun _ _ _ h => h) (by kernel_rfl) (fun _ => hS) (by kernel_rfl) ?_ ?_
        rotate_left
        · intro _; go_simp; try with_reducible rfl
        simp only [Act.put, List.setIfInBounds_toArray, List.set_cons_zero, List.set_cons_succ]
        refine wpAnyG_any (i := 6) (v := ?_) rfl (by kernel_rfl) (by kernel_rfl) (by kernel_rfl) (fun _ _ _ h => h) (by kernel_rfl) (fun _ => hS) (by kernel_rfl) ?_ ?_
        rotate_left
        · intro _; go_simp; try with_reducible rfl
        simp only [Act.put, List.setIfInBounds_toArray, List.set_cons_zero, List.set_cons_succ]
        refine wpAnyG_any (i := 7) (v := ?_) rfl (by kernel_rfl) (by kernel_rfl) (by kernel_rfl) (fun _ _ _ h => h) (by kernel_rfl) (fun _ => hS) (by kernel_rfl) ?_ ?_
        rotate_left
        · intro _; go_simp; try with_reducible rfl
        simp only [Act.put, List.setIfInBounds_toArray, List.set_cons_zero, List.set_cons_succ]
        refine wpAnyG_any (i := 8) (v := ?_) rfl (by kernel_rfl) (by kernel_rfl) (by kernel_rfl) (fun _ _ _ h => h) (by kernel_rfl) (fun _ => hS) (by kernel_rfl) ?_ ?_
        rotate_left
        · intro _; go_simp; try with_reducible rfl
        simp only [Act.put, List.setIfInBounds_toArray, List.set_cons_zero, List.set_cons_succ]
        refine wpAnyG_any (i := 9) (v := ?_) rfl (by kernel_rfl) (by kernel_rfl) (by kernel_rfl) (fun _ _ _ h => h) (by kernel_rfl) (fun _ => hS) (by kernel_rfl) ?_ ?_
        rotate_left
        · intro _; go_simp; try with_reducible rfl
        simp only [Act.put, List.setIfInBounds_toArray, List.set_cons_zero, List.set_cons_succ]
        refine wpAnyG_any (i := 10) (v := ?_) rfl (by kernel_rfl) (by kernel_rfl) (by kernel_rfl) (fun _ _ _ h => h) (by kernel_rfl) (fun _ => hS) (by kernel_rfl) ?_ ?_
        rotate_left
        · intro _; go_simp; try with_reducible rfl
        simp only [Act.put, List.setIfInBounds_toArray, List.set_cons_zero, List.set_cons_succ]
        refine wpAnyG_any (i := 11) (v := ?_) rfl (by kernel_rfl) (by kernel_rfl) (by kernel_rfl) (fun _ _ _ h => h) (by kernel_rfl) (fun _ => hS) (by kernel_rfl) ?_ ?_
        rotate_left
        · intro _; go_simp; try with_reducible rfl
        simp only [Act.put, List.setIfInBounds_toArray, List.set_cons_zero, List.set_cons_succ]
        refine wpAnyG_any (i := 12) (v := ?_) rfl (by kernel_rfl) (by kernel_rfl) (by kernel_rfl) (fun _ _ _ h => h) (by kernel_rfl) (fun _ => hS) (by kernel_rfl) ?_ ?_
        rotate_left
        · intro _; go_simp; try with_reducible rfl
        simp only [Act.put, List.setIfInBounds_toArray, List.set_cons_zero, List.set_cons_succ]
        refine wpAnyG_any (i := 13) (v := ?_) rfl (by kernel_rfl) (by kernel_rfl) (by kernel_rfl) (fun _ _ _ h => h) (by kernel_rfl) (fun _ => hS) (by kernel_rfl) ?_ ?_
        rotate_left
        · intro _; go_simp; try with_reducible rfl
        simp only [Act.put, List.setIfInBounds_toArray, List.set_cons_zero, List.set_cons_succ]
        refine wpAnyG_one (i := 14) rfl (by kernel_rfl) (by kernel_rfl) (fun K hK => ?_)
        go_simp
        refine hK.out _ _ (fun h => absurd (show true = false from h) (by decide)) ?_
        clear hK K
        refine wpAnyG_any (i := 15) (v := ?_) rfl (by kernel_rfl) (by kernel_rfl) (by kernel_rfl) (fun _ _ _ h => h) (by kernel_rfl) (fun h => absurd (show true = false from h) (by decide)) (by kernel_rfl) ?_ ?_
        rotate_left
        · intro _; go_simp; try with_reducible rfl
        simp only [Act.put, List.setIfInBounds_toArray, List.set_cons_zero, List.set_cons_succ]
        refine wpAnyG_one (i := 16) rfl (by kernel_rfl) (by kernel_rfl) (fun K hK => ?_)
        go_simp
        refine hK.out _ _ (fun h => absurd (show true = false from h) (by decide)) ?_
        clear hK K
        refine wpAnyG_done (by kernel_rfl) ?_ _
        go_wp2
        go_roundw
        case rel =>
          refine ⟨_, ?_, rfl, (hB.drew.setCell (by simp) _).setCell (by simp) _, (hR.drew.setOther _ _ (by simp)).setOther _ _ (by simp), ?_⟩
          rotate_left
          · rw [HS.out]; simpa [IntKind.wrap_u8] using ((hT.set _ _).set _ _).drew
          · decide
        case measure => simp [intOf]
    · obtain rfl : k = 8 := by omega
      rw [← HL.out] at hT
      go_wp2_with (first
        | (refine wpList_ld rfl 46 _ rfl _ rfl hT Try.underlying46 sizeTag hll ?_)
        | (refine wpList_st rfl 46 _ _ rfl _ rfl rfl hR (by rw [hll]; exact sizeTag) (by simp [hll]) ?_))
      refine bodyPost_ret (results_holds (Try.results60) _ rfl (hR.setRow _) Try.underlying46 sizeTag hll) rfl ⟨rfl, ?_⟩
      exact below_setRow hB (Nat.le_refl _) _
end Go.Proofs.Ytgepicbijpfhhaa

namespace Go.Proofs.Ytgepicbijpfhhaa
open Go

/-- Five limbs as a number. -/
def V5 (a b c d e : Int) : Int := a + b * 67108864 + c * 4503599627370496 + d * 302231454903657293676544 + e * 20282409603651670423947251286016
theorem wraps_u64 (n : Int) (h₀ : 0 ≤ n) (h₁ : n < 2 ^ 64) : IntKind.u64.wrap n = n := by rw [IntKind.wrap_u64]; omega
theorem and26 (x : Int) (h0 : 0 ≤ x) (h1 : x < 18446744073709551616) : bits .and .u64 x 67108863 = x % 67108864 := bits_mask .u64 64 (by decide) wraps_u64 26 (by omega) x h0 (by omega)

theorem carry5 (a b c d e : Int) (R : List Int) (ha : 0 ≤ a ∧ a < 4611686018427387904) (hb : 0 ≤ b ∧ b < 4611686018427387904) (hc : 0 ≤ c ∧ c < 4611686018427387904) (hd : 0 ≤ d ∧ d < 4611686018427387904) (he : 0 ≤ e ∧ e < 4611686018427387904) :
    ∃ x0 x1 x2 x3 x4, carryK (a :: b :: c :: d :: e :: R) 4 = x0 :: x1 :: x2 :: x3 :: x4 :: R ∧ (0 ≤ x0 ∧ x0 < 67108864) ∧ (0 ≤ x1 ∧ x1 < 67108864) ∧ (0 ≤ x2 ∧ x2 < 67108864) ∧ (0 ≤ x3 ∧ x3 < 67108864) ∧ (0 ≤ x4 ∧ x4 ≤ e + 137438953472) ∧ V5 x0 x1 x2 x3 x4 = V5 a b c d e := by
  have h : carryK (a :: b :: c :: d :: e :: R) 4 = bits .and .u64 a 67108863 :: bits .and .u64 ((b + a / 67108864) % 18446744073709551616) 67108863 :: bits .and .u64 ((c + (b + a / 67108864) % 18446744073709551616 / 67108864) % 18446744073709551616) 67108863 :: bits .and .u64 ((d + (c + (b + a / 67108864) % 18446744073709551616 / 67108864) % 18446744073709551616 / 67108864) % 18446744073709551616) 67108863 :: ((e + (d + (c + (b + a / 67108864) % 18446744073709551616 / 67108864) % 18446744073709551616 / 67108864) % 18446744073709551616 / 67108864) % 18446744073709551616) :: R := rfl
  rw [h]
  obtain ⟨y1, h1⟩ : ∃ q, (b + a / 67108864) % 18446744073709551616 = q := ⟨_, rfl⟩
  rw [h1]
  obtain ⟨y2, h2⟩ : ∃ q, (c + y1 / 67108864) % 18446744073709551616 = q := ⟨_, rfl⟩
  rw [h2]
  obtain ⟨y3, h3⟩ : ∃ q, (d + y2 / 67108864) % 18446744073709551616 = q := ⟨_, rfl⟩
  rw [h3]
  obtain ⟨y4, h4⟩ : ∃ q, (e + y3 / 67108864) % 18446744073709551616 = q := ⟨_, rfl⟩
  rw [h4]
  have e1 : y1 = b + a / 67108864 := by omega
  have b1 : 0 ≤ y1 ∧ y1 < 4611686155866341376 := by omega
  have e2 : y2 = c + y1 / 67108864 := by omega
  have b2 : 0 ≤ y2 ∧ y2 < 4611686155866341376 := by omega
  have e3 : y3 = d + y2 / 67108864 := by omega
  have b3 : 0 ≤ y3 ∧ y3 < 4611686155866341376 := by omega
  have e4 : y4 = e + y3 / 67108864 := by omega
  refine ⟨_, _, _, _, _, rfl, ?_⟩
  rw [and26 a (by omega) (by omega), and26 y1 (by omega) (by omega), and26 y2 (by omega) (by omega), and26 y3 (by omega) (by omega)]
  clear h h1 h2 h3 h4
  refine ⟨by omega, by omega, by omega, by omega, by omega, ?_⟩
  unfold V5
  omega

theorem fold5 (a b c d e : Int) (R : List Int) (ha : 0 ≤ a ∧ a < 1152921504606846976) (hb : 0 ≤ b ∧ b < 1152921504606846976) (hc : 0 ≤ c ∧ c < 1152921504606846976) (hd : 0 ≤ d ∧ d < 1152921504606846976) (he : 0 ≤ e ∧ e < 1152921504606846976) :
    ∃ r0 r1 r2 r3 r4 q, foldL (a :: b :: c :: d :: e :: R) = r0 :: r1 :: r2 :: r3 :: r4 :: R ∧ (0 ≤ r0 ∧ r0 < 67108864) ∧ (0 ≤ r1 ∧ r1 < 67112960) ∧ (0 ≤ r2 ∧ r2 < 67108864) ∧ (0 ≤ r3 ∧ r3 < 67108864) ∧ (0 ≤ r4 ∧ r4 < 67108864) ∧ V5 a b c d e = V5 r0 r1 r2 r3 r4 + q * 1361129467683753853853498429727072845819 := by
  obtain ⟨x0, x1, x2, x3, x4, hx, b0, b1, b2, b3, b4, hv⟩ := carry5 a b c d e R (by omega) (by omega) (by omega) (by omega) (by omega)
  unfold foldL
  rw [hx]
  simp only [List.set_cons_zero, List.set_cons_succ, List.getElem?_cons_zero, List.getElem?_cons_succ, Option.getD_some]
  obtain ⟨ov, hov⟩ : ∃ q, x4 / 67108864 = q := ⟨_, rfl⟩
  rw [hov]
  have bo : 0 ≤ ov ∧ ov < 17179873280 := by omega
  obtain ⟨y0, hy0⟩ : ∃ q, (x0 + 5 * ov % 18446744073709551616) % 18446744073709551616 = q := ⟨_, rfl⟩
  rw [hy0]
  have e0 : y0 = x0 + 5 * ov := by omega
  obtain ⟨y1, hy1⟩ : ∃ q, (x1 + y0 / 67108864) % 18446744073709551616 = q := ⟨_, rfl⟩
  rw [hy1]
  have e1 : y1 = x1 + y0 / 67108864 := by omega
  refine ⟨_, _, _, _, _, ov, rfl, ?_⟩
  rw [and26 y0 (by omega) (by omega), and26 x4 (by omega) (by omega)]
  clear hy0 hy1 hx
  refine ⟨by omega, by omega, by omega, by omega, by omega, ?_⟩
  rw [← hv]
  unfold V5
  omega

theorem prod5 (x0 x1 x2 x3 x4 y0 y1 y2 y3 y4 : Int) :
    V5 x0 x1 x2 x3 x4 * V5 y0 y1 y2 y3 y4 = V5 (x0 * y0 + 5 * x1 * y4 + 5 * x2 * y3 + 5 * x3 * y2 + 5 * x4 * y1) (x0 * y1 + x1 * y0 + 5 * x2 * y4 + 5 * x3 * y3 + 5 * x4 * y2) (x0 * y2 + x1 * y1 + x2 * y0 + 5 * x3 * y4 + 5 * x4 * y3) (x0 * y3 + x1 * y2 + x2 * y1 + x3 * y0 + 5 * x4 * y4) (x0 * y4 + x1 * y3 + x2 * y2 + x3 * y1 + x4 * y0)
      + ((x1 * y4 + x2 * y3 + x3 * y2 + x4 * y1) + (x2 * y4 + x3 * y3 + x4 * y2) * 67108864 + (x3 * y4 + x4 * y3) * 4503599627370496 + 302231454903657293676544 * (x4 * y4)) * 1361129467683753853853498429727072845819 := by
  unfold V5
  grind

theorem mul_bd (x y X Y : Int) (hx : 0 ≤ x ∧ x < X) (hy : 0 ≤ y ∧ y < Y) : 0 ≤ x * y ∧ x * y ≤ X * Y := by
  refine ⟨Int.mul_nonneg hx.1 hy.1, ?_⟩
  exact Int.mul_le_mul (by omega) (by omega) hy.1 (by omega)

set_option maxRecDepth 20000 in
set_option maxHeartbeats 1000000 in
theorem outer5 (x0 x1 x2 x3 x4 y0 y1 y2 y3 y4 : Int) (R : List Int) :
    outerK (x0 :: x1 :: x2 :: x3 :: x4 :: R) [y0, y1, y2, y3, y4] 5 = [(x0 * y0 + 5 * x1 * y4 + 5 * x2 * y3 + 5 * x3 * y2 + 5 * x4 * y1) % 18446744073709551616, (x0 * y1 + x1 * y0 + 5 * x2 * y4 + 5 * x3 * y3 + 5 * x4 * y2) % 18446744073709551616, (x0 * y2 + x1 * y1 + x2 * y0 + 5 * x3 * y4 + 5 * x4 * y3) % 18446744073709551616, (x0 * y3 + x1 * y2 + x2 * y1 + x3 * y0 + 5 * x4 * y4) % 18446744073709551616, (x0 * y4 + x1 * y3 + x2 * y2 + x3 * y1 + x4 * y0) % 18446744073709551616] := by
  have hm : ∀ x y : Int, (5 * x % 18446744073709551616 * y) % 18446744073709551616 = (5 * x * y) % 18446744073709551616 := fun x y => by
    rw [Int.mul_emod, Int.emod_emod_of_dvd _ (Int.dvd_refl _), ← Int.mul_emod]
  simp [outerK, innerK, stepP, hm, Int.emod_add_emod, Int.add_emod_emod]
end Go.Proofs.Ytgepicbijpfhhaa
