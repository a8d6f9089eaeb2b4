/- Fg5 Fg6 -/
import Derived.Test.YtnmjplngbleopaaF10
namespace Go.Proofs.Ytnmjplngbleopaa
open Go.RowKit Go.Shelf
set_option maxRecDepth 20000
set_option linter.unusedSimpArgs false
theorem zeroC_list (k : Nat) : ∃ Z : List Value, Builtin.zeroCells dotZc k = Z.toArray ∧ Z.length = k * 2 := ⟨(Builtin.zeroCells dotZc k).toList, by simp, by simp [size_zeroCells]⟩
set_option maxHeartbeats 8000000 in
theorem insD_grow (g n i : Nat) (cur : List Value) (T : List Value) (gv : Nat) (w : World) (hg : w.heap[g]? = some (.cells cur.toArray 32 (0, 0))) (hcur : cur.length = n * 2) (hin : i < n) (hT2 : T.length = 2) (hT1 : ∀ u ∈ T, u.oneCell' = true) (hC1 : ∀ u ∈ cur, u.oneCell' = true) (hv : CellsAt w gv 32 T) (hlen : n ≤ 100000) :
    Calls Try.prog 33 #[.slice (some ⟨g, 0, none⟩) n n, .int .i64 (i : Nat), .slice (some ⟨gv, 0, none⟩) 1 1] w fun e w' => ∃ q, e = .returned (.slice (some ⟨w.heap.size, 0, none⟩) (n + 1) q) ∧ (∃ R : List Value, w'.heap[w.heap.size]? = some (.cells R.toArray 32 (0, 0)) ∧ R.length = q * 2 ∧ R.take ((n + 1) * 2) = cur.take (i * 2) ++ T ++ cur.drop (i * 2)) ∧ n + 1 ≤ q ∧ q ≤ maxLen ∧ Below w.heap.size w w' := by
  have uS := Try.underlying57
  have hvl := hv.lt
  have hgl : g < w.heap.size := (Array.getElem?_eq_some_iff.1 hg).1
  have hpl : (cur.take (i * 2)).length = i * 2 := by rw [List.length_take]; omega
  have happ := run_app_zeros2 w 57 g i n (n + 1 - i) (cur.take (i * 2)) hpl (fun j u hu => by
    rw [World.cell?, hg]
    rw [List.getElem?_take] at hu
    split at hu
    · simpa using hu
    · cases hu) (by omega) (by omega) (by omega)
  have hq1 := grownCap_ge w (i + (n + 1 - i)) n 32
  have hq2 : grownCap w (i + (n + 1 - i)) n 32 ≤ maxLen := grownCap_le_maxLen w (i + (n + 1 - i)) n 32 (by simp only [maxLen]; omega)
  rw [show i + (n + 1 - i) = n + 1 by omega] at happ hq1 hq2
  obtain ⟨q, hq⟩ : ∃ q, grownCap w (n + 1) n 32 = q := ⟨_, rfl⟩
  rw [hq] at happ hq1 hq2
  obtain ⟨Z1, hZ1, hZ1l⟩ := zeroC_list (n + 1 - i)
  obtain ⟨Z2, hZ2, hZ2l⟩ := zeroC_list (q - (n + 1))
  rw [hZ1, hZ2, List.append_toArray, List.append_toArray] at happ
  obtain ⟨R0, hR0⟩ : ∃ R, cur.take (i * 2) ++ Z1 ++ Z2 = R := ⟨_, rfl⟩
  rw [hR0] at happ
  have hR0l : R0.length = q * 2 := by rw [← hR0]; simp [hpl, hZ1l, hZ2l]; omega
  have hR0t : R0.take (i * 2) = cur.take (i * 2) := by rw [← hR0, List.append_assoc, List.take_left' hpl]
  obtain ⟨W1, hW1⟩ : ∃ W, w.drew.alloc (.cells R0.toArray 32) = W := ⟨_, rfl⟩
  rw [hW1] at happ
  have hB1 : Below w.heap.size w W1 := by rw [← hW1]; exact ((Below.refl _ _).drew).alloc (Nat.le_refl _) _
  have hg1 : W1.heap[w.heap.size]? = some (.cells R0.toArray 32 (0, 0)) := by rw [← hW1]; exact heap_alloc_new w.drew _
  have hv1 := hv.farM hB1
  have hcp1 := run_copy_two (P := Try.prog) W1 57 57 3 32 w.heap.size (i * 2) (n + 1 - i) (q - i) ⟨gv, 0, none⟩ 1 1 R0.toArray 32 T uS sizeDot hg1 (by rw [hT2, show Nat.min 1 (n + 1 - i) = 1 from Nat.min_eq_left (by omega)]) (fun j u hu => by
      rw [addF_mid, Nat.zero_add]
      exact (hv1.cell j).trans hu) (by simp [hT2, hR0l]; omega) hT1
  obtain ⟨R1, hR1⟩ : ∃ R, R0.take (i * 2) ++ T ++ R0.drop (i * 2 + T.length) = R := ⟨_, rfl⟩
  obtain ⟨W2, hW2⟩ : ∃ W, W1.setRow w.heap.size (R0.toArray.toList.take (i * 2) ++ T ++ R0.toArray.toList.drop (i * 2 + T.length)).toArray = W := ⟨_, rfl⟩
  rw [hW2] at hcp1
  have hg2 : W2.heap[w.heap.size]? = some (.cells R1.toArray 32 (0, 0)) := by rw [← hW2, ← hR1]; exact setRow_heap _ _ _ _ 32 _ hg1
  have hB2 : Below w.heap.size w W2 := by rw [← hW2]; exact below_setRow hB1 (Nat.le_refl _) _
  have hR1l : R1.length = q * 2 := by rw [← hR1]; simp [hT2, hR0l]; omega
  have hg2d : W2.drew.heap[w.heap.size]? = some (.cells R1.toArray 32 (0, 0)) := hg2
  obtain ⟨C1, hC1d⟩ : ∃ C, cur.drop (i * 2) = C := ⟨_, rfl⟩
  have hC1l : C1.length = (n - i) * 2 := by rw [← hC1d, List.length_drop]; omega
  have hC1o : ∀ u ∈ C1, u.oneCell' = true := fun u hu => hC1 u (by rw [← hC1d] at hu; exact List.mem_of_mem_drop hu)
  have hgW : W2.drew.heap[g]? = some (.cells cur.toArray 32 (0, 0)) := (hB2.block g hgl).trans hg
  have hcp2 := run_copy_two (P := Try.prog) W2.drew 57 57 3 32 w.heap.size ((i + 1) * 2) (n - i) (q - (i + 1)) ⟨g, i * 2, none⟩ (n - i) (n - i) R1.toArray 32 C1 uS sizeDot hg2d (by rw [hC1l]; congr 1; exact (Nat.min_self _).symm) (fun j u hu => by
      rw [addF_mid, World.cell?, hgW]
      rw [← hC1d, List.getElem?_drop] at hu
      simpa using hu) (by simp [hC1l, hR1l]; omega) hC1o
  obtain ⟨R2, hR2⟩ : ∃ R, R1.take ((i + 1) * 2) ++ C1 ++ R1.drop ((i + 1) * 2 + C1.length) = R := ⟨_, rfl⟩
  obtain ⟨W3, hW3⟩ : ∃ W, W2.drew.setRow w.heap.size (R1.toArray.toList.take ((i + 1) * 2) ++ C1 ++ R1.toArray.toList.drop ((i + 1) * 2 + C1.length)).toArray = W := ⟨_, rfl⟩
  rw [hW3] at hcp2
  have HF : Veil ((∃ R : List Value, W3.heap[w.heap.size]? = some (.cells R.toArray 32 (0, 0)) ∧ R.length = q * 2 ∧ R.take ((n + 1) * 2) = cur.take (i * 2) ++ T ++ C1) ∧ n + 1 ≤ q ∧ q ≤ maxLen ∧ Below w.heap.size w W3) := by
    refine ⟨⟨R2, by rw [← hW3, ← hR2]; exact setRow_heap _ _ _ _ 32 _ hg2d, by rw [← hR2]; simp [hC1l, hR1l]; omega, ?_⟩, hq1, hq2, by rw [← hW3]; exact below_setRow hB2.drew (Nat.le_refl _) _⟩
    have e1 : R1.take ((i + 1) * 2) = cur.take (i * 2) ++ T := by rw [← hR1, hR0t, List.take_left' (by rw [List.length_append, hpl, hT2]; omega)]
    rw [← hR2, e1, List.take_left' (by rw [List.length_append, List.length_append, hpl, hT2, hC1l]; omega)]
  have hi0 : (0 : Int) ≤ (i : Int) := by omega
  have hii : (i : Int) ≤ (n : Int) := by omega
  have hnb : ((i : Int) == (n : Int)) = false := by simp; omega
  have hw1 : IntKind.i64.wrap ((n : Int) + 1) = (n : Int) + 1 := by rw [IntKind.wrap_i64]; omega
  have hw2 : IntKind.i64.wrap ((i : Int) + 1) = (i : Int) + 1 := by rw [IntKind.wrap_i64]; omega
  have hwk : IntKind.i64.wrap ((n : Int) + 1 - (i : Int)) = ((n + 1 - i : Nat) : Int) := by rw [IntKind.wrap_i64]; omega
  have hnn : ¬ i = n := by omega
  have hcc : ¬ n = i := by omega
  have hqq : ¬ q = i := by omega
  have hqq2 : ¬ q = i + 1 := by omega
  have hneg1 : ((i : Int) + 1 < 0) = False := by simp; omega
  have hneg2 : ((n : Int) + 1 < (i : Int)) = False := by simp; omega
  have hneg3 : ((n : Int) < (i : Int)) = False := by simp; omega
  have hin2 : (i : Int) + 1 ≤ (n : Int) + 1 := by omega
  have hin3 : (i : Int) ≤ (n : Int) + 1 := by omega
  clear hg1 hg2 hg2d hgW hW1 hW2 hW3 hR0 hR1 hR2 hB1 hB2 hv1 hv hg hR0t hR0l hR1l hZ1 hZ2 hZ1l hZ2l hq hC1o hC1l hC1 hpl
  rw [hC1d]
  clear hC1d
  go_enter Try.func33, Try.ntmps33
  go_upto_region 11 with (first
    | (refine wpList_plain rfl fun _ hK => ?_; refine wpx_copy (.tmp 43) (.tmp 44) 57 57 rfl (.slice (some ⟨w.heap.size, i * 2, none⟩) (n + 1 - i) (q - i)) (.slice (some ⟨gv, 0, none⟩) 1 1) _ W2 rfl rfl hcp1 ?_; refine hK _ _ ?_)
    | (refine wpList_appx rfl (.tmp 34) (.tmp 39) 57 3 rfl (.slice (some ⟨g, 0, none⟩) i n) (.int .i64 ((n + 1 - i : Nat) : Int)) _ W1 rfl rfl happ ?_))
  simp only [Act.put, List.getElem_toArray, List.getElem_cons_succ, List.getElem_cons_zero, List.setIfInBounds_toArray, List.set_cons_zero, List.set_cons_succ]
  clear happ hcp1
  refine wp_region_gate (fun _ => True) 8 (by kernel_rfl) ?_
  have hS : (fun _ : World => True) W2.drew := trivial
  refine wpAnyG_any (i := 0) (v := ?_) rfl (by kernel_rfl) (by kernel_rfl) (by kernel_rfl) (fun _ _ _ h => h) (by kernel_rfl) (fun _ => hS) (by kernel_rfl) ?_ ?_
  rotate_left
  · intro _; go_simp; try with_reducible rfl
  simp only [Act.put, List.getElem_toArray, List.getElem_cons_succ, List.getElem_cons_zero, List.setIfInBounds_toArray, List.set_cons_zero, List.set_cons_succ]
  refine wpAnyG_any (i := 1) (v := ?_) rfl (by kernel_rfl) (by kernel_rfl) (by kernel_rfl) (fun _ _ _ h => h) (by kernel_rfl) (fun _ => hS) (by kernel_rfl) ?_ ?_
  rotate_left
  · intro _; go_simp; try with_reducible rfl
  simp only [Act.put, List.getElem_toArray, List.getElem_cons_succ, List.getElem_cons_zero, List.setIfInBounds_toArray, List.set_cons_zero, List.set_cons_succ]
  refine wpAnyG_any (i := 2) (v := ?_) rfl (by kernel_rfl) (by kernel_rfl) (by kernel_rfl) (fun _ _ _ h => h) (by kernel_rfl) (fun _ => hS) (by kernel_rfl) ?_ ?_
  rotate_left
  · intro _; go_simp; try with_reducible rfl
  simp only [Act.put, List.getElem_toArray, List.getElem_cons_succ, List.getElem_cons_zero, List.setIfInBounds_toArray, List.set_cons_zero, List.set_cons_succ]
  refine wpAnyG_any (i := 3) (v := .int .i64 ((i : Int) + 1)) rfl (by kernel_rfl) (by kernel_rfl) (by kernel_rfl) (fun _ _ _ h => h) (by kernel_rfl) (fun _ => hS) (by kernel_rfl) ?_ ?_
  · intro _; go_simp
  simp only [Act.put, List.getElem_toArray, List.getElem_cons_succ, List.getElem_cons_zero, List.setIfInBounds_toArray, List.set_cons_zero, List.set_cons_succ]
  refine wpAnyG_any (i := 4) (v := .slice (some ⟨w.heap.size, (i + 1) * 2, none⟩) (n - i) (q - (i + 1))) rfl (by kernel_rfl) (by kernel_rfl) (by kernel_rfl) (fun _ _ _ h => h) (by kernel_rfl) (fun _ => hS) (by kernel_rfl) ?_ ?_
  · intro _; go_simp
  simp only [Act.put, List.getElem_toArray, List.getElem_cons_succ, List.getElem_cons_zero, List.setIfInBounds_toArray, List.set_cons_zero, List.set_cons_succ]
  refine wpAnyG_any (i := 5) (v := ?_) rfl (by kernel_rfl) (by kernel_rfl) (by kernel_rfl) (fun _ _ _ h => h) (by kernel_rfl) (fun _ => hS) (by kernel_rfl) ?_ ?_
  rotate_left
  · intro _; go_simp; try with_reducible rfl
  simp only [Act.put, List.getElem_toArray, List.getElem_cons_succ, List.getElem_cons_zero, List.setIfInBounds_toArray, List.set_cons_zero, List.set_cons_succ]
  refine wpAnyG_any (i := 6) (v := ?_) rfl (by kernel_rfl) (by kernel_rfl) (by kernel_rfl) (fun _ _ _ h => h) (by kernel_rfl) (fun _ => hS) (by kernel_rfl) ?_ ?_
  rotate_left
  · intro _; go_simp; try with_reducible rfl
  simp only [Act.put, List.getElem_toArray, List.getElem_cons_succ, List.getElem_cons_zero, List.setIfInBounds_toArray, List.set_cons_zero, List.set_cons_succ]
  refine wpAnyG_any (i := 7) (v := .slice (some ⟨g, i * 2, none⟩) (n - i) (n - i)) rfl (by kernel_rfl) (by kernel_rfl) (by kernel_rfl) (fun _ _ _ h => h) (by kernel_rfl) (fun _ => hS) (by kernel_rfl) ?_ ?_
  · intro _; go_simp
  simp only [Act.put, List.getElem_toArray, List.getElem_cons_succ, List.getElem_cons_zero, List.setIfInBounds_toArray, List.set_cons_zero, List.set_cons_succ]
  refine wpAnyG_one (i := 8) rfl (by kernel_rfl) (by kernel_rfl) (fun K hK => ?_)
  refine wpx_copy (.tmp 50) (.tmp 53) 57 57 rfl (.slice (some ⟨w.heap.size, (i + 1) * 2, none⟩) (n - i) (q - (i + 1))) (.slice (some ⟨g, i * 2, none⟩) (n - i) (n - i)) _ W3 rfl rfl hcp2 ?_
  refine hK.out _ _ (fun h => absurd (show true = false from h) (by decide)) ?_
  clear hK K
  try simp only [Act.put, List.getElem_toArray, List.getElem_cons_succ, List.getElem_cons_zero, List.setIfInBounds_toArray, List.set_cons_zero, List.set_cons_succ]
  refine wpAnyG_done (by kernel_rfl) ?_ _
  clear hS hcp2
  go_wp2
  go_ret
  exact ⟨q, rfl, HF.out⟩
theorem flat_take {k : Nat} (L : List (List Value)) (hL : ∀ c ∈ L, c.length = k) (i : Nat) : (L.take i).flatten = L.flatten.take (i * k) := by
  induction L generalizing i with
  | nil => simp
  | cons e L ih =>
    have he : e.length = k := hL e (by simp)
    cases i with
    | zero => simp
    | succ i =>
      rw [List.take_succ_cons, List.flatten_cons, List.flatten_cons, ih (fun c hc => hL c (by simp [hc])), show (i + 1) * k = e.length + i * k by rw [he, Nat.add_mul]; omega, List.take_length_add_append]
theorem flat_drop {k : Nat} (L : List (List Value)) (hL : ∀ c ∈ L, c.length = k) (i : Nat) : (L.drop i).flatten = L.flatten.drop (i * k) := by
  have h1 := flat_take L hL i
  have h2 : (L.take i).flatten ++ (L.drop i).flatten = L.flatten := by rw [← List.flatten_append, List.take_append_drop]
  have h3 : (L.take i).flatten ++ L.flatten.drop (i * k) = L.flatten := by rw [h1, List.take_append_drop]
  exact List.append_cancel_left (h2.trans h3.symm)
theorem insD_any (base : Nat) (x : Option Addr) (n c i : Nat) (L : List (List Value)) (T : List Value) (gv : Nat) (w : World) (hO : OwnI w base 32 2 (.slice x n c) L) (hi : i ≤ n) (hL1 : ∀ e ∈ L, ∀ u ∈ e, u.oneCell' = true) (hT2 : T.length = 2) (hT1 : ∀ u ∈ T, u.oneCell' = true) (hg : CellsAt w gv 32 T) (hne : (Value.slice x n c).ownBlock ≠ some gv) (hbase : base ≤ w.heap.size) (hlen : n ≤ 100000) :
    Calls Try.prog 33 #[.slice x n c, .int .i64 (i : Nat), .slice (some ⟨gv, 0, none⟩) 1 1] w fun e w' => ∃ v', e = .returned v' ∧ InsP base (.slice x n c) w (L.take i ++ [T] ++ L.drop i) v' w' := by
  have hnL : n = L.length := by
    obtain ⟨y, d, e⟩ := hO.isSlice
    injection e
  have hflat1 : ∀ u ∈ L.flatten, u.oneCell' = true := fun u hu => by
    obtain ⟨e, he, hu⟩ := List.mem_flatten.1 hu
    exact hL1 e he u hu
  have hnew : ∀ e ∈ L.take i ++ [T] ++ L.drop i, e.length = 2 := fun e he => by
    rcases List.mem_append.1 he with he | he
    · rcases List.mem_append.1 he with he | he
      · exact hO.each e (List.mem_of_mem_take he)
      · rw [List.mem_singleton.1 he]; exact hT2
    · exact hO.each e (List.mem_of_mem_drop he)
  have hnl : (L.take i ++ [T] ++ L.drop i).length = n + 1 := by
    simp only [List.length_append, List.length_take, List.length_drop, List.length_singleton]; omega
  have hnf : (L.take i ++ [T] ++ L.drop i).flatten = L.flatten.take (i * 2) ++ T ++ L.flatten.drop (i * 2) := by
    rw [List.flatten_append, List.flatten_append, flat_take L hO.each, flat_drop L hO.each]; simp
  have hfl : L.flatten.length = n * 2 := by rw [flat_len L hO.each, hnL]
  have hnfl := flat_len _ hnew
  have hc : n ≤ c := by
    rcases hO.own.2 with ⟨h1, h0⟩ | ⟨g, cap, cur, h1, _, _, h4, _⟩
    · omega
    · injection h1 with _ _ h1; omega
  by_cases hin : i = n
  · subst hin
    rw [List.take_of_length_le (by omega), List.drop_of_length_le (by omega), List.append_nil]
    exact insD_end base x i c L T gv w hO hnL.symm hc hT2 hT1 hg hbase hlen
  · rcases hO.own.2 with ⟨h1, h0⟩ | ⟨g, cap, cur, h1, hb, hgc, h4, h5, h6, h7⟩
    · omega
    · injection h1 with hx _ hcc
      subst hx hcc
      have hcl : cur.toList.length = c * 2 := by rw [Array.length_toList]; exact h6
      rw [← hnL] at h7
      have hgn : gv ≠ g := fun e => hne (by rw [e]; rfl)
      have hgc' : w.heap[g]? = some (.cells cur.toList.toArray 32 (0, 0)) := by rw [Array.toArray_toList]; exact hgc
      by_cases hroom : n + 1 ≤ c
      · refine (insD_room g n c i cur.toList T gv w hgc' hcl (by omega) hroom hT2 hT1 (by rw [h7]; exact hflat1) hg hgn h5).mono ?_
        rintro e w' ⟨he, hh, hgr⟩
        refine ⟨_, he, ⟨⟨?_, .inr ⟨g, c, _, by rw [hnl], hb, hh, by rw [hnl]; exact hroom, h5, ?_, ?_⟩⟩, hnew⟩, hgr, .inl rfl⟩
        · exact hnfl
        · simp only [List.size_toArray, List.length_append, List.length_take, List.length_drop, hcl, hT2]; omega
        · rw [hnl, hnf, ← h7]
          simp only [List.toList_toArray]
          rw [List.take_left' (by simp only [List.length_append, List.length_take, List.length_drop, hcl, hT2]; omega), List.take_take, List.drop_take, Nat.min_eq_left (by omega), show n * 2 - i * 2 = (n - i) * 2 by omega, List.append_assoc]
      · obtain rfl : c = n := by omega
        have h8 : cur.toList = L.flatten := by rw [← h7]; exact (List.take_of_length_le (by omega)).symm
        refine (insD_grow g c i cur.toList T gv w hgc' hcl (by omega) hT2 hT1 (by rw [h8]; exact hflat1) hg hlen).mono ?_
        rintro e w' ⟨q, he, ⟨R, hh, hRl, hRt⟩, hq1, hq2, hB⟩
        refine ⟨_, he, ⟨⟨?_, .inr ⟨w.heap.size, q, _, by rw [hnl], hbase, hh, by rw [hnl]; exact hq1, hq2, ?_, ?_⟩⟩, hnew⟩, ⟨hB.os, hB.tape, hB.output, hB.size, fun k hk _ => hB.block k hk⟩, .inr ⟨_, rfl, Nat.le_refl _⟩⟩
        · exact hnfl
        · simpa using hRl
        · rw [hnl, hnf, ← h8]; exact hRt
end Go.Proofs.Ytnmjplngbleopaa
