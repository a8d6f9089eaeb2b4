/- Fg4 Fg5 -/
import Derived.Test.YthjkcfpdkhghpaaH24
namespace Go.Proofs.Ythjkcfpdkhghpaa
open Go.RowKit Go.Shelf
set_option maxRecDepth 20000
set_option linter.unusedSimpArgs false
abbrev dotZc : Array Value := #[.int .u8 0, .int .u32 0]
set_option maxHeartbeats 1000000 in
theorem run_app_zeros2 (w : World) (ty : TypeId) (g i c k : Nat) (pre : List Value) (hpre : pre.length = i * 2) (hsrc : ∀ j u, pre[j]? = some u → w.cell? ⟨g, j, none⟩ = some u) (hroom : c < i + k) (hk : i + k ≤ 1000000) (hk0 : 0 < k) :
    (Builtin.append_ #[83, 3] ty #[.slice (some ⟨g, 0, none⟩) i c, .int .i64 (k : Nat)]).run Try.prog w = .ok (.slice (some ⟨w.heap.size, 0, none⟩) (i + k) (grownCap w (i + k) c 32)) (w.drew.alloc (.cells (pre.toArray ++ Builtin.zeroCells dotZc k ++ Builtin.zeroCells dotZc (grownCap w (i + k) c 32 - (i + k))) 32)) := by
  obtain ⟨i0, hi, hz0, hz1, hz2⟩ := info_parts infoD2
  have hzc : (Value.agg #[.int .u8 0, .int .u32 0]).cells = dotZc := rfl
  have hai : ∀ wx, (asInt (.int .i64 (k : Nat))).run Try.prog wx = .ok (k : Int) wx := fun wx => by simp [asInt, asIntOf]
  have hwk : IntKind.i64.wrap (k : Int) = (k : Int) := by rw [IntKind.wrap_i64]; omega
  have hnr : ¬ (i + k ≤ c) := by omega
  have hfo := run_firstCells_some (P := Try.prog) w.drew 2 i ⟨g, 0, none⟩ i c pre hpre (fun j u hu => by rw [addF_mid, Nat.zero_add]; exact hsrc j u hu)
  have h63' : ¬ (9223372036854775807 < ((i : Int) + (k : Int))) := by omega
  have h63b : ¬ (9223372036854775807 < ((i : Int) + max (k : Int) 0)) := by omega
  have hfit := growslice_fits (need := i + k) (old := c) (bytes := 8) hroom (by omega)
  have h48' : ¬ (281474976710656 < Builtin.nextslicecap (i + k) c * 8) := by omega
  have hkn : ¬ ((k : Int) < 0) := by omega
  have hk8 : ¬ (281474976710656 < (k : Int) * 8) := by omega
  have hk2 : ¬ (k * 2 = 0) := by omega
  have hk3 : ¬ (k = 0) := by omega
  simp [Builtin.append_, run_underlying Try.underlying83, run_underlying Try.underlying3, sizeOf, typeInfo, zeroValue, hi, hz0, hz1, hz2, hai, hwk, hzc, hnr, h63', h63b, h48', hkn, hk8, hk2, hk3, Question.forced, hfo, newRow, grownCap]
theorem zeroC_list (k : Nat) : ∃ Z : List Value, Builtin.zeroCells dotZc k = Z.toArray ∧ Z.length = k * 2 := ⟨(Builtin.zeroCells dotZc k).toList, by simp, by simp [size_zeroCells]⟩
set_option maxHeartbeats 8000000 in
theorem insD_grow (g n i : Nat) (cur : List Value) (T : List Value) (gv : Nat) (w : World) (hg : w.heap[g]? = some (.cells cur.toArray 32 (0, 0))) (hcur : cur.length = n * 2) (hin : i < n) (hT2 : T.length = 2) (hT1 : ∀ u ∈ T, u.oneCell' = true) (hC1 : ∀ u ∈ cur, u.oneCell' = true) (hv : CellsAt w gv 32 T) (hlen : n ≤ 100000) :
    Calls Try.prog 38 #[.slice (some ⟨g, 0, none⟩) n n, .int .i64 (i : Nat), .slice (some ⟨gv, 0, none⟩) 1 1] w fun e w' => ∃ q, e = .returned (.slice (some ⟨w.heap.size, 0, none⟩) (n + 1) q) ∧ (∃ R : List Value, w'.heap[w.heap.size]? = some (.cells R.toArray 32 (0, 0)) ∧ R.length = q * 2 ∧ R.take ((n + 1) * 2) = cur.take (i * 2) ++ T ++ cur.drop (i * 2)) ∧ n + 1 ≤ q ∧ q ≤ maxLen ∧ Below w.heap.size w w' := by
  have uS := Try.underlying83
  have hvl := hv.lt
  have hgl : g < w.heap.size := (Array.getElem?_eq_some_iff.1 hg).1
  have hpl : (cur.take (i * 2)).length = i * 2 := by rw [List.length_take]; omega
  have happ := run_app_zeros2 w 83 g i n (n + 1 - i) (cur.take (i * 2)) hpl (fun j u hu => by
    rw [World.cell?, hg]
    rw [List.getElem?_take] at hu
    split at hu
    · simpa using hu
    · cases hu) (by omega) (by omega) (by omega)
  have hq1 := grownCap_ge w (i + (n + 1 - i)) n 32
  have hq2 : grownCap w (i + (n + 1 - i)) n 32 ≤ maxLen := grownCap_le_maxLen w (i + (n + 1 - i)) n 32 (by simp only [maxLen]; omega)
  rw [show i + (n + 1 - i) = n + 1 by omega] at happ hq1 hq2
  obtain ⟨q, hq⟩ : ∃ q, grownCap w (n + 1) n 32 = q := ⟨_, rfl⟩
  rw [hq] at happ hq1 hq2
  obtain ⟨Z1, hZ1, hZ1l⟩ := zeroC_list (n + 1 - i)
  obtain ⟨Z2, hZ2, hZ2l⟩ := zeroC_list (q - (n + 1))
  rw [hZ1, hZ2, List.append_toArray, List.append_toArray] at happ
  obtain ⟨R0, hR0⟩ : ∃ R, cur.take (i * 2) ++ Z1 ++ Z2 = R := ⟨_, rfl⟩
  rw [hR0] at happ
  have hR0l : R0.length = q * 2 := by rw [← hR0]; simp [hpl, hZ1l, hZ2l]; omega
  have hR0t : R0.take (i * 2) = cur.take (i * 2) := by rw [← hR0, List.append_assoc, List.take_left' hpl]
  obtain ⟨W1, hW1⟩ : ∃ W, w.drew.alloc (.cells R0.toArray 32) = W := ⟨_, rfl⟩
  rw [hW1] at happ
  have hB1 : Below w.heap.size w W1 := by rw [← hW1]; exact ((Below.refl _ _).drew).alloc (Nat.le_refl _) _
  have hg1 : W1.heap[w.heap.size]? = some (.cells R0.toArray 32 (0, 0)) := by rw [← hW1]; exact heap_alloc_new w.drew _
  have hv1 := hv.farM hB1
  have hcp1 := run_copy_two (P := Try.prog) W1 83 83 3 32 w.heap.size (i * 2) (n + 1 - i) (q - i) ⟨gv, 0, none⟩ 1 1 R0.toArray 32 T uS sizeDot hg1 (by rw [hT2, show Nat.min 1 (n + 1 - i) = 1 from Nat.min_eq_left (by omega)]) (fun j u hu => by
      rw [addF_mid, Nat.zero_add]
      exact (hv1.cell j).trans hu) (by simp [hT2, hR0l]; omega) hT1
  obtain ⟨R1, hR1⟩ : ∃ R, R0.take (i * 2) ++ T ++ R0.drop (i * 2 + T.length) = R := ⟨_, rfl⟩
  obtain ⟨W2, hW2⟩ : ∃ W, W1.setRow w.heap.size (R0.toArray.toList.take (i * 2) ++ T ++ R0.toArray.toList.drop (i * 2 + T.length)).toArray = W := ⟨_, rfl⟩
  rw [hW2] at hcp1
  have hg2 : W2.heap[w.heap.size]? = some (.cells R1.toArray 32 (0, 0)) := by rw [← hW2, ← hR1]; exact setRow_heap _ _ _ _ 32 _ hg1
  have hB2 : Below w.heap.size w W2 := by rw [← hW2]; exact below_setRow hB1 (Nat.le_refl _) _
  have hR1l : R1.length = q * 2 := by rw [← hR1]; simp [hT2, hR0l]; omega
  have hg2d : W2.drew.heap[w.heap.size]? = some (.cells R1.toArray 32 (0, 0)) := hg2
  obtain ⟨C1, hC1d⟩ : ∃ C, cur.drop (i * 2) = C := ⟨_, rfl⟩
  have hC1l : C1.length = (n - i) * 2 := by rw [← hC1d, List.length_drop]; omega
  have hC1o : ∀ u ∈ C1, u.oneCell' = true := fun u hu => hC1 u (by rw [← hC1d] at hu; exact List.mem_of_mem_drop hu)
  have hgW : W2.drew.heap[g]? = some (.cells cur.toArray 32 (0, 0)) := (hB2.block g hgl).trans hg
  have hcp2 := run_copy_two (P := Try.prog) W2.drew 83 83 3 32 w.heap.size ((i + 1) * 2) (n - i) (q - (i + 1)) ⟨g, i * 2, none⟩ (n - i) (n - i) R1.toArray 32 C1 uS sizeDot hg2d (by rw [hC1l]; congr 1; exact (Nat.min_self _).symm) (fun j u hu => by
      rw [addF_mid, World.cell?, hgW]
      rw [← hC1d, List.getElem?_drop] at hu
      simpa using hu) (by simp [hC1l, hR1l]; omega) hC1o
  obtain ⟨R2, hR2⟩ : ∃ R, R1.take ((i + 1) * 2) ++ C1 ++ R1.drop ((i + 1) * 2 + C1.length) = R := ⟨_, rfl⟩
  obtain ⟨W3, hW3⟩ : ∃ W, W2.drew.setRow w.heap.size (R1.toArray.toList.take ((i + 1) * 2) ++ C1 ++ R1.toArray.toList.drop ((i + 1) * 2 + C1.length)).toArray = W := ⟨_, rfl⟩
  rw [hW3] at hcp2
  have HF : Veil ((∃ R : List Value, W3.heap[w.heap.size]? = some (.cells R.toArray 32 (0, 0)) ∧ R.length = q * 2 ∧ R.take ((n + 1) * 2) = cur.take (i * 2) ++ T ++ C1) ∧ n + 1 ≤ q ∧ q ≤ maxLen ∧ Below w.heap.size w W3) := by
    refine ⟨⟨R2, by rw [← hW3, ← hR2]; exact setRow_heap _ _ _ _ 32 _ hg2d, by rw [← hR2]; simp [hC1l, hR1l]; omega, ?_⟩, hq1, hq2, by rw [← hW3]; exact below_setRow hB2.drew (Nat.le_refl _) _⟩
    have e1 : R1.take ((i + 1) * 2) = cur.take (i * 2) ++ T := by rw [← hR1, hR0t, List.take_left' (by rw [List.length_append, hpl, hT2]; omega)]
    rw [← hR2, e1, List.take_left' (by rw [List.length_append, List.length_append, hpl, hT2, hC1l]; omega)]
  have hi0 : (0 : Int) ≤ (i : Int) := by omega
  have hii : (i : Int) ≤ (n : Int) := by omega
  have hnb : ((i : Int) == (n : Int)) = false := by simp; omega
  have hw1 : IntKind.i64.wrap ((n : Int) + 1) = (n : Int) + 1 := by rw [IntKind.wrap_i64]; omega
  have hw2 : IntKind.i64.wrap ((i : Int) + 1) = (i : Int) + 1 := by rw [IntKind.wrap_i64]; omega
  have hwk : IntKind.i64.wrap ((n : Int) + 1 - (i : Int)) = ((n + 1 - i : Nat) : Int) := by rw [IntKind.wrap_i64]; omega
  have hnn : ¬ i = n := by omega
  have hcc : ¬ n = i := by omega
  have hqq : ¬ q = i := by omega
  have hqq2 : ¬ q = i + 1 := by omega
  have hneg1 : ((i : Int) + 1 < 0) = False := by simp; omega
  have hneg2 : ((n : Int) + 1 < (i : Int)) = False := by simp; omega
  have hneg3 : ((n : Int) < (i : Int)) = False := by simp; omega
  have hin2 : (i : Int) + 1 ≤ (n : Int) + 1 := by omega
  have hin3 : (i : Int) ≤ (n : Int) + 1 := by omega
  clear hg1 hg2 hg2d hgW hW1 hW2 hW3 hR0 hR1 hR2 hB1 hB2 hv1 hv hg hR0t hR0l hR1l hZ1 hZ2 hZ1l hZ2l hq hC1o hC1l hC1 hpl
  rw [hC1d]
  clear hC1d
  go_enter Try.func38, Try.ntmps38
  go_upto_region 11 with (first
    | (refine wpList_plain rfl fun _ hK => ?_; refine wpx_copy (.tmp 43) (.tmp 44) 83 83 rfl (.slice (some ⟨w.heap.size, i * 2, none⟩) (n + 1 - i) (q - i)) (.slice (some ⟨gv, 0, none⟩) 1 1) _ W2 rfl rfl hcp1 ?_; refine hK _ _ ?_)
    | (refine wpList_appx rfl (.tmp 34) (.tmp 39) 83 3 rfl (.slice (some ⟨g, 0, none⟩) i n) (.int .i64 ((n + 1 - i : Nat) : Int)) _ W1 rfl rfl happ ?_))
  simp only [Act.put, List.getElem_toArray, List.getElem_cons_succ, List.getElem_cons_zero, List.setIfInBounds_toArray, List.set_cons_zero, List.set_cons_succ]
  clear happ hcp1
  refine wp_region_gate (fun _ => True) 8 (by kernel_rfl) ?_
  have hS : (fun _ : World => True) W2.drew := trivial
  refine wpAnyG_any (i := 0) (v := ?_) rfl (by kernel_rfl) (by kernel_rfl) (by kernel_rfl) (fun _ _ _ h => h) (by kernel_rfl) (fun _ => hS) (by kernel_rfl) ?_ ?_
  rotate_left
  · intro _; go_simp; try with_reducible rfl
  simp only [Act.put, List.getElem_toArray, List.getElem_cons_succ, List.getElem_cons_zero, List.setIfInBounds_toArray, List.set_cons_zero, List.set_cons_succ]
  refine wpAnyG_any (i := 1) (v := ?_) rfl (by kernel_rfl) (by kernel_rfl) (by kernel_rfl) (fun _ _ _ h => h) (by kernel_rfl) (fun _ => hS) (by kernel_rfl) ?_ ?_
  rotate_left
  · intro _; go_simp; try with_reducible rfl
  simp only [Act.put, List.getElem_toArray, List.getElem_cons_succ, List.getElem_cons_zero, List.setIfInBounds_toArray, List.set_cons_zero, List.set_cons_succ]
  refine wpAnyG_any (i := 2) (v := ?_) rfl (by kernel_rfl) (by kernel_rfl) (by kernel_rfl) (fun _ _ _ h => h) (by kernel_rfl) (fun _ => hS) (by kernel_rfl) ?_ ?_
  rotate_left
  · intro _; go_simp; try with_reducible rfl
  simp only [Act.put, List.getElem_toArray, List.getElem_cons_succ, List.getElem_cons_zero, List.setIfInBounds_toArray, List.set_cons_zero, List.set_cons_succ]
  refine wpAnyG_any (i := 3) (v := .int .i64 ((i : Int) + 1)) rfl (by kernel_rfl) (by kernel_rfl) (by kernel_rfl) (fun _ _ _ h => h) (by kernel_rfl) (fun _ => hS) (by kernel_rfl) ?_ ?_
  · intro _; go_simp
  simp only [Act.put, List.getElem_toArray, List.getElem_cons_succ, List.getElem_cons_zero, List.setIfInBounds_toArray, List.set_cons_zero, List.set_cons_succ]
  refine wpAnyG_any (i := 4) (v := .slice (some ⟨w.heap.size, (i + 1) * 2, none⟩) (n - i) (q - (i + 1))) rfl (by kernel_rfl) (by kernel_rfl) (by kernel_rfl) (fun _ _ _ h => h) (by kernel_rfl) (fun _ => hS) (by kernel_rfl) ?_ ?_
  · intro _; go_simp
  simp only [Act.put, List.getElem_toArray, List.getElem_cons_succ, List.getElem_cons_zero, List.setIfInBounds_toArray, List.set_cons_zero, List.set_cons_succ]
  refine wpAnyG_any (i := 5) (v := ?_) rfl (by kernel_rfl) (by kernel_rfl) (by kernel_rfl) (fun _ _ _ h => h) (by kernel_rfl) (fun _ => hS) (by kernel_rfl) ?_ ?_
  rotate_left
  · intro _; go_simp; try with_reducible rfl
  simp only [Act.put, List.getElem_toArray, List.getElem_cons_succ, List.getElem_cons_zero, List.setIfInBounds_toArray, List.set_cons_zero, List.set_cons_succ]
  refine wpAnyG_any (i := 6) (v := ?_) rfl (by kernel_rfl) (by kernel_rfl) (by kernel_rfl) (fun _ _ _ h => h) (by kernel_rfl) (fun _ => hS) (by kernel_rfl) ?_ ?_
  rotate_left
  · intro _; go_simp; try with_reducible rfl
  simp only [Act.put, List.getElem_toArray, List.getElem_cons_succ, List.getElem_cons_zero, List.setIfInBounds_toArray, List.set_cons_zero, List.set_cons_succ]
  refine wpAnyG_any (i := 7) (v := .slice (some ⟨g, i * 2, none⟩) (n - i) (n - i)) rfl (by kernel_rfl) (by kernel_rfl) (by kernel_rfl) (fun _ _ _ h => h) (by kernel_rfl) (fun _ => hS) (by kernel_rfl) ?_ ?_
  · intro _; go_simp
  simp only [Act.put, List.getElem_toArray, List.getElem_cons_succ, List.getElem_cons_zero, List.setIfInBounds_toArray, List.set_cons_zero, List.set_cons_succ]
  refine wpAnyG_one (i := 8) rfl (by kernel_rfl) (by kernel_rfl) (fun K hK => ?_)
  refine wpx_copy (.tmp 50) (.tmp 53) 83 83 rfl (.slice (some ⟨w.heap.size, (i + 1) * 2, none⟩) (n - i) (q - (i + 1))) (.slice (some ⟨g, i * 2, none⟩) (n - i) (n - i)) _ W3 rfl rfl hcp2 ?_
  refine hK.out _ _ (fun h => absurd (show true = false from h) (by decide)) ?_
  clear hK K
  try simp only [Act.put, List.getElem_toArray, List.getElem_cons_succ, List.getElem_cons_zero, List.setIfInBounds_toArray, List.set_cons_zero, List.set_cons_succ]
  refine wpAnyG_done (by kernel_rfl) ?_ _
  clear hS hcp2
  go_wp2
  go_ret
  exact ⟨q, rfl, HF.out⟩
end Go.Proofs.Ythjkcfpdkhghpaa
