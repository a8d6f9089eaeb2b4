/- Fg4 Fg5 Fg6 Mg Fk -/
import Derived.Test.YtmbdohnmbkpfaaaGreatU11
import Derived.Test.YtmbdohnmbkpfaaaGreatU01
import Derived.Maps.OwnSet
import Derived.DeepKeys3
import Derived.Laws.StructEq
namespace Go.Proofs.YtmbdohnmbkpfaaaGreat
open Go.RowKit Go.Shelf
set_option maxRecDepth 20000
set_option linter.unusedSimpArgs false
abbrev dotZc : Array Value := #[.int .u8 0, .int .u32 0]
set_option maxHeartbeats 1000000 in
theorem run_app_zeros2 (w : World) (ty : TypeId) (g i c k : Nat) (pre : List Value) (hpre : pre.length = i * 2) (hsrc : ∀ j u, pre[j]? = some u → w.cell? ⟨g, j, none⟩ = some u) (hroom : c < i + k) (hk : i + k ≤ 1000000) (hk0 : 0 < k) :
    (Builtin.append_ #[139, 3] ty #[.slice (some ⟨g, 0, none⟩) i c, .int .i64 (k : Nat)]).run Tryz.prog w = .ok (.slice (some ⟨w.heap.size, 0, none⟩) (i + k) (grownCap w (i + k) c 40)) (w.drew.alloc (.cells (pre.toArray ++ Builtin.zeroCells dotZc k ++ Builtin.zeroCells dotZc (grownCap w (i + k) c 40 - (i + k))) 40)) := by
  obtain ⟨i0, hi, hz0, hz1, hz2⟩ := info_parts infoD2
  have hzc : (Value.agg #[.int .u8 0, .int .u32 0]).cells = dotZc := rfl
  have hai : ∀ wx, (asInt (.int .i64 (k : Nat))).run Tryz.prog wx = .ok (k : Int) wx := fun wx => by simp [asInt, asIntOf]
  have hwk : IntKind.i64.wrap (k : Int) = (k : Int) := by rw [IntKind.wrap_i64]; omega
  have hnr : ¬ (i + k ≤ c) := by omega
  have hfo := run_firstCells_some (P := Tryz.prog) w.drew 2 i ⟨g, 0, none⟩ i c pre hpre (fun j u hu => by rw [addF_mid, Nat.zero_add]; exact hsrc j u hu)
  have h63' : ¬ (9223372036854775807 < ((i : Int) + (k : Int))) := by omega
  have h63b : ¬ (9223372036854775807 < ((i : Int) + max (k : Int) 0)) := by omega
  have hfit := growslice_fits (need := i + k) (old := c) (bytes := 8) hroom (by omega)
  have h48' : ¬ (281474976710656 < Builtin.nextslicecap (i + k) c * 8) := by omega
  have hkn : ¬ ((k : Int) < 0) := by omega
  have hk8 : ¬ (281474976710656 < (k : Int) * 8) := by omega
  have hk2 : ¬ (k * 2 = 0) := by omega
  have hk3 : ¬ (k = 0) := by omega
  simp [Builtin.append_, run_underlying Tryz.underlying139, run_underlying Tryz.underlying3, sizeOf, typeInfo, zeroValue, hi, hz0, hz1, hz2, hai, hwk, hzc, hnr, h63', h63b, h48', hkn, hk8, hk2, hk3, Question.forced, hfo, newRow, grownCap]
theorem zeroC_list (k : Nat) : ∃ Z : List Value, Builtin.zeroCells dotZc k = Z.toArray ∧ Z.length = k * 2 := ⟨(Builtin.zeroCells dotZc k).toList, by simp, by simp [size_zeroCells]⟩
set_option maxHeartbeats 8000000 in
theorem insD_grow (g n i : Nat) (cur : List Value) (T : List Value) (gv : Nat) (w : World) (hg : w.heap[g]? = some (.cells cur.toArray 40 (0, 0))) (hcur : cur.length = n * 2) (hin : i < n) (hT2 : T.length = 2) (hT1 : ∀ u ∈ T, u.oneCell' = true) (hC1 : ∀ u ∈ cur, u.oneCell' = true) (hv : CellsAt w gv 40 T) (hlen : n ≤ 100000) :
    Calls Tryz.prog 129 #[.slice (some ⟨g, 0, none⟩) n n, .int .i64 (i : Nat), .slice (some ⟨gv, 0, none⟩) 1 1] w fun e w' => ∃ q, e = .returned (.slice (some ⟨w.heap.size, 0, none⟩) (n + 1) q) ∧ (∃ R : List Value, w'.heap[w.heap.size]? = some (.cells R.toArray 40 (0, 0)) ∧ R.length = q * 2 ∧ R.take ((n + 1) * 2) = cur.take (i * 2) ++ T ++ cur.drop (i * 2)) ∧ n + 1 ≤ q ∧ q ≤ maxLen ∧ Below w.heap.size w w' := by
  have uS := Tryz.underlying139
  have hvl := hv.lt
  have hgl : g < w.heap.size := (Array.getElem?_eq_some_iff.1 hg).1
  have hpl : (cur.take (i * 2)).length = i * 2 := by rw [List.length_take]; omega
  have happ := run_app_zeros2 w 139 g i n (n + 1 - i) (cur.take (i * 2)) hpl (fun j u hu => by
    rw [World.cell?, hg]
    rw [List.getElem?_take] at hu
    split at hu
    · simpa using hu
    · cases hu) (by omega) (by omega) (by omega)
  have hq1 := grownCap_ge w (i + (n + 1 - i)) n 40
  have hq2 : grownCap w (i + (n + 1 - i)) n 40 ≤ maxLen := grownCap_le_maxLen w (i + (n + 1 - i)) n 40 (by simp only [maxLen]; omega)
  rw [show i + (n + 1 - i) = n + 1 by omega] at happ hq1 hq2
  obtain ⟨q, hq⟩ : ∃ q, grownCap w (n + 1) n 40 = q := ⟨_, rfl⟩
  rw [hq] at happ hq1 hq2
  obtain ⟨Z1, hZ1, hZ1l⟩ := zeroC_list (n + 1 - i)
  obtain ⟨Z2, hZ2, hZ2l⟩ := zeroC_list (q - (n + 1))
  rw [hZ1, hZ2, List.append_toArray, List.append_toArray] at happ
  obtain ⟨R0, hR0⟩ : ∃ R, cur.take (i * 2) ++ Z1 ++ Z2 = R := ⟨_, rfl⟩
  rw [hR0] at happ
  have hR0l : R0.length = q * 2 := by rw [← hR0]; simp [hpl, hZ1l, hZ2l]; omega
  have hR0t : R0.take (i * 2) = cur.take (i * 2) := by rw [← hR0, List.append_assoc, List.take_left' hpl]
  obtain ⟨W1, hW1⟩ : ∃ W, w.drew.alloc (.cells R0.toArray 40) = W := ⟨_, rfl⟩
  rw [hW1] at happ
  have hB1 : Below w.heap.size w W1 := by rw [← hW1]; exact ((Below.refl _ _).drew).alloc (Nat.le_refl _) _
  have hg1 : W1.heap[w.heap.size]? = some (.cells R0.toArray 40 (0, 0)) := by rw [← hW1]; exact heap_alloc_new w.drew _
  have hv1 := hv.farM hB1
  have hcp1 := run_copy_two (P := Tryz.prog) W1 139 139 3 40 w.heap.size (i * 2) (n + 1 - i) (q - i) ⟨gv, 0, none⟩ 1 1 R0.toArray 40 T uS sizeDot hg1 (by rw [hT2, show Nat.min 1 (n + 1 - i) = 1 from Nat.min_eq_left (by omega)]) (fun j u hu => by
      rw [addF_mid, Nat.zero_add]
      exact (hv1.cell j).trans hu) (by simp [hT2, hR0l]; omega) hT1
  obtain ⟨R1, hR1⟩ : ∃ R, R0.take (i * 2) ++ T ++ R0.drop (i * 2 + T.length) = R := ⟨_, rfl⟩
  obtain ⟨W2, hW2⟩ : ∃ W, W1.setRow w.heap.size (R0.toArray.toList.take (i * 2) ++ T ++ R0.toArray.toList.drop (i * 2 + T.length)).toArray = W := ⟨_, rfl⟩
  rw [hW2] at hcp1
  have hg2 : W2.heap[w.heap.size]? = some (.cells R1.toArray 40 (0, 0)) := by rw [← hW2, ← hR1]; exact setRow_heap _ _ _ _ 40 _ hg1
  have hB2 : Below w.heap.size w W2 := by rw [← hW2]; exact below_setRow hB1 (Nat.le_refl _) _
  have hR1l : R1.length = q * 2 := by rw [← hR1]; simp [hT2, hR0l]; omega
  have hg2d : W2.drew.heap[w.heap.size]? = some (.cells R1.toArray 40 (0, 0)) := hg2
  obtain ⟨C1, hC1d⟩ : ∃ C, cur.drop (i * 2) = C := ⟨_, rfl⟩
  have hC1l : C1.length = (n - i) * 2 := by rw [← hC1d, List.length_drop]; omega
  have hC1o : ∀ u ∈ C1, u.oneCell' = true := fun u hu => hC1 u (by rw [← hC1d] at hu; exact List.mem_of_mem_drop hu)
  have hgW : W2.drew.heap[g]? = some (.cells cur.toArray 40 (0, 0)) := (hB2.block g hgl).trans hg
  have hcp2 := run_copy_two (P := Tryz.prog) W2.drew 139 139 3 40 w.heap.size ((i + 1) * 2) (n - i) (q - (i + 1)) ⟨g, i * 2, none⟩ (n - i) (n - i) R1.toArray 40 C1 uS sizeDot hg2d (by rw [hC1l]; congr 1; exact (Nat.min_self _).symm) (fun j u hu => by
      rw [addF_mid, World.cell?, hgW]
      rw [← hC1d, List.getElem?_drop] at hu
      simpa using hu) (by simp [hC1l, hR1l]; omega) hC1o
  obtain ⟨R2, hR2⟩ : ∃ R, R1.take ((i + 1) * 2) ++ C1 ++ R1.drop ((i + 1) * 2 + C1.length) = R := ⟨_, rfl⟩
  obtain ⟨W3, hW3⟩ : ∃ W, W2.drew.setRow w.heap.size (R1.toArray.toList.take ((i + 1) * 2) ++ C1 ++ R1.toArray.toList.drop ((i + 1) * 2 + C1.length)).toArray = W := ⟨_, rfl⟩
  rw [hW3] at hcp2
  have HF : Veil ((∃ R : List Value, W3.heap[w.heap.size]? = some (.cells R.toArray 40 (0, 0)) ∧ R.length = q * 2 ∧ R.take ((n + 1) * 2) = cur.take (i * 2) ++ T ++ C1) ∧ n + 1 ≤ q ∧ q ≤ maxLen ∧ Below w.heap.size w W3) := by
    refine ⟨⟨R2, by rw [← hW3, ← hR2]; exact setRow_heap _ _ _ _ 40 _ hg2d, by rw [← hR2]; simp [hC1l, hR1l]; omega, ?_⟩, hq1, hq2, by rw [← hW3]; exact below_setRow hB2.drew (Nat.le_refl _) _⟩
    have e1 : R1.take ((i + 1) * 2) = cur.take (i * 2) ++ T := by rw [← hR1, hR0t, List.take_left' (by rw [List.length_append, hpl, hT2]; omega)]
    rw [← hR2, e1, List.take_left' (by rw [List.length_append, List.length_append, hpl, hT2, hC1l]; omega)]
  have hi0 : (0 : Int) ≤ (i : Int) := by omega
  have hii : (i : Int) ≤ (n : Int) := by omega
  have hnb : ((i : Int) == (n : Int)) = false := by simp; omega
  have hw1 : IntKind.i64.wrap ((n : Int) + 1) = (n : Int) + 1 := by rw [IntKind.wrap_i64]; omega
  have hw2 : IntKind.i64.wrap ((i : Int) + 1) = (i : Int) + 1 := by rw [IntKind.wrap_i64]; omega
  have hwk : IntKind.i64.wrap ((n : Int) + 1 - (i : Int)) = ((n + 1 - i : Nat) : Int) := by rw [IntKind.wrap_i64]; omega
  have hnn : ¬ i = n := by omega
  have hcc : ¬ n = i := by omega
  have hqq : ¬ q = i := by omega
  have hqq2 : ¬ q = i + 1 := by omega
  have hneg1 : ((i : Int) + 1 < 0) = False := by simp; omega
  have hneg2 : ((n : Int) + 1 < (i : Int)) = False := by simp; omega
  have hneg3 : ((n : Int) < (i : Int)) = False := by simp; omega
  have hin2 : (i : Int) + 1 ≤ (n : Int) + 1 := by omega
  have hin3 : (i : Int) ≤ (n : Int) + 1 := by omega
  clear hg1 hg2 hg2d hgW hW1 hW2 hW3 hR0 hR1 hR2 hB1 hB2 hv1 hv hg hR0t hR0l hR1l hZ1 hZ2 hZ1l hZ2l hq hC1o hC1l hC1 hpl
  rw [hC1d]
  clear hC1d
  go_enter Tryz.func129, Tryz.ntmps129
  go_upto_region 11 with (first
    | (refine wpList_plain rfl fun _ hK => ?_; refine wpx_copy (.tmp 43) (.tmp 44) 139 139 rfl (.slice (some ⟨w.heap.size, i * 2, none⟩) (n + 1 - i) (q - i)) (.slice (some ⟨gv, 0, none⟩) 1 1) _ W2 rfl rfl hcp1 ?_; refine hK _ _ ?_)
    | (refine wpList_appx rfl (.tmp 34) (.tmp 39) 139 3 rfl (.slice (some ⟨g, 0, none⟩) i n) (.int .i64 ((n + 1 - i : Nat) : Int)) _ W1 rfl rfl happ ?_))
  simp only [Act.put, gA, gS, gZ, sI, sZ, sS]
  clear happ hcp1
  refine wp_region_gate (fun _ => True) 8 (by kernel_rfl) ?_
  have hS : (fun _ : World => True) W2.drew := trivial
  refine ga 0 ?_ hS ?_ ?_
  rotate_left
  · intro _; go_simp; try with_reducible rfl
  simp only [Act.put, gA, gS, gZ, sI, sZ, sS]
  refine ga 1 ?_ hS ?_ ?_
  rotate_left
  · intro _; go_simp; try with_reducible rfl
  simp only [Act.put, gA, gS, gZ, sI, sZ, sS]
  refine ga 2 ?_ hS ?_ ?_
  rotate_left
  · intro _; go_simp; try with_reducible rfl
  simp only [Act.put, gA, gS, gZ, sI, sZ, sS]
  refine ga 3 (.int .i64 ((i : Int) + 1)) hS ?_ ?_
  · intro _; go_simp
  simp only [Act.put, gA, gS, gZ, sI, sZ, sS]
  refine ga 4 (.slice (some ⟨w.heap.size, (i + 1) * 2, none⟩) (n - i) (q - (i + 1))) hS ?_ ?_
  · intro _; go_simp
  simp only [Act.put, gA, gS, gZ, sI, sZ, sS]
  refine ga 5 ?_ hS ?_ ?_
  rotate_left
  · intro _; go_simp; try with_reducible rfl
  simp only [Act.put, gA, gS, gZ, sI, sZ, sS]
  refine ga 6 ?_ hS ?_ ?_
  rotate_left
  · intro _; go_simp; try with_reducible rfl
  simp only [Act.put, gA, gS, gZ, sI, sZ, sS]
  refine ga 7 (.slice (some ⟨g, i * 2, none⟩) (n - i) (n - i)) hS ?_ ?_
  · intro _; go_simp
  simp only [Act.put, gA, gS, gZ, sI, sZ, sS]
  refine wpAnyG_one (i := 8) rfl (by kernel_rfl) (by kernel_rfl) (fun K hK => ?_)
  refine wpx_copy (.tmp 50) (.tmp 53) 139 139 rfl (.slice (some ⟨w.heap.size, (i + 1) * 2, none⟩) (n - i) (q - (i + 1))) (.slice (some ⟨g, i * 2, none⟩) (n - i) (n - i)) _ W3 rfl rfl hcp2 ?_
  refine hK.out _ _ (fun h => absurd (show true = false from h) (by decide)) ?_
  clear hK K
  try simp only [Act.put, gA, gS, gZ, sI, sZ, sS]
  refine wpAnyG_done (by kernel_rfl) ?_ _
  clear hS hcp2
  go_wp2
  go_ret
  exact ⟨q, rfl, HF.out⟩
theorem flat_take {k : Nat} (L : List (List Value)) (hL : ∀ c ∈ L, c.length = k) (i : Nat) : (L.take i).flatten = L.flatten.take (i * k) := by
  induction L generalizing i with
  | nil => simp
  | cons e L ih =>
    have he : e.length = k := hL e (by simp)
    cases i with
    | zero => simp
    | succ i =>
      rw [List.take_succ_cons, List.flatten_cons, List.flatten_cons, ih (fun c hc => hL c (by simp [hc])), show (i + 1) * k = e.length + i * k by rw [he, Nat.add_mul]; omega, List.take_length_add_append]
theorem flat_drop {k : Nat} (L : List (List Value)) (hL : ∀ c ∈ L, c.length = k) (i : Nat) : (L.drop i).flatten = L.flatten.drop (i * k) := by
  have h1 := flat_take L hL i
  have h2 : (L.take i).flatten ++ (L.drop i).flatten = L.flatten := by rw [← List.flatten_append, List.take_append_drop]
  have h3 : (L.take i).flatten ++ L.flatten.drop (i * k) = L.flatten := by rw [h1, List.take_append_drop]
  exact List.append_cancel_left (h2.trans h3.symm)
theorem insD_any (base : Nat) (x : Option Addr) (n c i : Nat) (L : List (List Value)) (T : List Value) (gv : Nat) (w : World) (hO : OwnI w base 40 2 (.slice x n c) L) (hi : i ≤ n) (hL1 : ∀ e ∈ L, ∀ u ∈ e, u.oneCell' = true) (hT2 : T.length = 2) (hT1 : ∀ u ∈ T, u.oneCell' = true) (hg : CellsAt w gv 40 T) (hne : (Value.slice x n c).ownBlock ≠ some gv) (hbase : base ≤ w.heap.size) (hlen : n ≤ 100000) :
    Calls Tryz.prog 129 #[.slice x n c, .int .i64 (i : Nat), .slice (some ⟨gv, 0, none⟩) 1 1] w fun e w' => ∃ v', e = .returned v' ∧ InsP base (.slice x n c) w (L.take i ++ [T] ++ L.drop i) v' w' := by
  have hnL : n = L.length := by
    obtain ⟨y, d, e⟩ := hO.isSlice
    injection e
  have hflat1 : ∀ u ∈ L.flatten, u.oneCell' = true := fun u hu => by
    obtain ⟨e, he, hu⟩ := List.mem_flatten.1 hu
    exact hL1 e he u hu
  have hnew : ∀ e ∈ L.take i ++ [T] ++ L.drop i, e.length = 2 := fun e he => by
    rcases List.mem_append.1 he with he | he
    · rcases List.mem_append.1 he with he | he
      · exact hO.each e (List.mem_of_mem_take he)
      · rw [List.mem_singleton.1 he]; exact hT2
    · exact hO.each e (List.mem_of_mem_drop he)
  have hnl : (L.take i ++ [T] ++ L.drop i).length = n + 1 := by
    simp only [List.length_append, List.length_take, List.length_drop, List.length_singleton]; omega
  have hnf : (L.take i ++ [T] ++ L.drop i).flatten = L.flatten.take (i * 2) ++ T ++ L.flatten.drop (i * 2) := by
    rw [List.flatten_append, List.flatten_append, flat_take L hO.each, flat_drop L hO.each]; simp
  have hfl : L.flatten.length = n * 2 := by rw [flat_len L hO.each, hnL]
  have hnfl := flat_len _ hnew
  have hc : n ≤ c := by
    rcases hO.own.2 with ⟨h1, h0⟩ | ⟨g, cap, cur, h1, _, _, h4, _⟩
    · omega
    · injection h1 with _ _ h1; omega
  by_cases hin : i = n
  · subst hin
    rw [List.take_of_length_le (by omega), List.drop_of_length_le (by omega), List.append_nil]
    exact insD_end base x i c L T gv w hO hnL.symm hc hT2 hT1 hg hbase hlen
  · rcases hO.own.2 with ⟨h1, h0⟩ | ⟨g, cap, cur, h1, hb, hgc, h4, h5, h6, h7⟩
    · omega
    · injection h1 with hx _ hcc
      subst hx hcc
      have hcl : cur.toList.length = c * 2 := by rw [Array.length_toList]; exact h6
      rw [← hnL] at h7
      have hgn : gv ≠ g := fun e => hne (by rw [e]; rfl)
      have hgc' : w.heap[g]? = some (.cells cur.toList.toArray 40 (0, 0)) := by rw [Array.toArray_toList]; exact hgc
      by_cases hroom : n + 1 ≤ c
      · refine (insD_room g n c i cur.toList T gv w hgc' hcl (by omega) hroom hT2 hT1 (by rw [h7]; exact hflat1) hg hgn h5).mono ?_
        rintro e w' ⟨he, hh, hgr⟩
        refine ⟨_, he, ⟨⟨?_, .inr ⟨g, c, _, by rw [hnl], hb, hh, by rw [hnl]; exact hroom, h5, ?_, ?_⟩⟩, hnew⟩, hgr, .inl rfl⟩
        · exact hnfl
        · simp only [List.size_toArray, List.length_append, List.length_take, List.length_drop, hcl, hT2]; omega
        · rw [hnl, hnf, ← h7]
          simp only [List.toList_toArray]
          rw [List.take_left' (by simp only [List.length_append, List.length_take, List.length_drop, hcl, hT2]; omega), List.take_take, List.drop_take, Nat.min_eq_left (by omega), show n * 2 - i * 2 = (n - i) * 2 by omega, List.append_assoc]
      · obtain rfl : c = n := by omega
        have h8 : cur.toList = L.flatten := by rw [← h7]; exact (List.take_of_length_le (by omega)).symm
        refine (insD_grow g c i cur.toList T gv w hgc' hcl (by omega) hT2 hT1 (by rw [h8]; exact hflat1) hg hlen).mono ?_
        rintro e w' ⟨q, he, ⟨R, hh, hRl, hRt⟩, hq1, hq2, hB⟩
        refine ⟨_, he, ⟨⟨?_, .inr ⟨w.heap.size, q, _, by rw [hnl], hbase, hh, by rw [hnl]; exact hq1, hq2, ?_, ?_⟩⟩, hnew⟩, ⟨hB.os, hB.tape, hB.output, hB.size, fun k hk _ => hB.block k hk⟩, .inr ⟨_, rfl, Nat.le_refl _⟩⟩
        · exact hnfl
        · simpa using hRl
        · rw [hnl, hnf, ← h8]; exact hRt
open Go.RowKit
set_option linter.unusedSectionVars false
def rawE (v : Value) : Option (DataW Value × List MemPlace) := some (.held v, [])
structure KeyEnc (P : Program) (kt : TypeId) {α : Type} (enc : α → Value) (ok : α → Prop) : Prop where
  keyed : Go.Maps.Keyed P kt
  has : ∀ x, ok x → ∃ l, keyOf P kt (enc x) = some l
  inj : ∀ x y, ok x → ok y → enc x = enc y → x = y
section
variable {P : Program} {kt : TypeId} {α : Type} [DecidableEq α] {enc : α → Value} {ok : α → Prop}
def MapG (P : Program) (kt : TypeId) (enc : α → Value) (ok : α → Prop) (w : World) (b n : Nat) (M : α → Option Value) : Prop :=
  ∃ D : DataW Value, w.ownsMap P kt rawE b n D ∧ ∀ x, ok x → ∀ l, keyOf P kt (enc x) = some l → ∀ z, D.atKey l z = (match M x with | some v => .held v | none => z)
def putG (M : α → Option Value) (x : α) (v : Value) : α → Option Value := fun y => if y = x then some v else M y
def delG (M : α → Option Value) (x : α) : α → Option Value := fun y => if y = x then none else M y
theorem MapG.made (w : World) : MapG P kt enc ok (w.alloc (.map #[] 0)) w.heap.size 0 (fun _ => none) := ⟨_, World.ownsMap_made w _ _ _, fun _ _ _ _ _ => rfl⟩
theorem MapG.lt {w : World} {b n : Nat} {M : α → Option Value} (h : MapG P kt enc ok w b n M) : b < w.heap.size := by obtain ⟨D, h, _⟩ := h; exact h.lt
theorem MapG.congr {w w' : World} {b n : Nat} {M : α → Option Value} (h : MapG P kt enc ok w b n M) (he : w'.heap[b]? = w.heap[b]?) : MapG P kt enc ok w' b n M := by
  obtain ⟨D, ⟨es, cl, hb, r⟩, hM⟩ := h
  exact ⟨D, ⟨es, cl, he.trans hb, r⟩, hM⟩
theorem MapG.cellsNe {w : World} {b n g : Nat} {M : α → Option Value} (h : MapG P kt enc ok w b n M) {t : TypeId} {cs : List Value} (hg : CellsAt w g t cs) : b ≠ g := by
  intro e
  subst e
  obtain ⟨D, ⟨es, cl, hb, _⟩, _⟩ := h
  unfold CellsAt at hg
  rw [hb] at hg
  cases hg
theorem MapG.look (K : KeyEnc P kt enc ok) {w : World} {b n : Nat} {M : α → Option Value} (h : MapG P kt enc ok w b n M) {t e : TypeId} (ht : P.underlying t = some (.map kt e)) {z : Value} (hz : (zeroValue e).run P w = .ok z w) (x : α) (hx : ok x) :
    (Instr.lookup t (.map (some b)) (enc x) true).run P w = .ok (.tuple #[(M x).getD z, .bool (M x).isSome]) w := by
  obtain ⟨D, hD, hM⟩ := h
  obtain ⟨l, hl⟩ := K.has x hx
  have h2 := hM x hx l hl
  have h1 : Maps.has D l = (M x).isSome := by
    cases hv : M x with
    | none => exact Maps.has_false_of_atKey fun z => by rw [h2, hv]
    | some v => exact Maps.has_true_of_atKey (y := .held v) fun z => by rw [h2, hv]
  obtain ⟨v, ps, hrun, hv⟩ := hD.look_ok K.keyed ht hz (zd := .held z) (zp := []) rfl hl
  rw [hrun, h1]
  unfold rawE at hv
  injection hv with hv
  injection hv with hv _
  rw [h2] at hv
  cases hm : M x with
  | none => rw [hm] at hv; injection hv with hv; rw [hv]; rfl
  | some u => rw [hm] at hv; injection hv with hv; rw [hv]; rfl
theorem MapG.get (K : KeyEnc P kt enc ok) {w : World} {b n : Nat} {M : α → Option Value} (h : MapG P kt enc ok w b n M) {t e : TypeId} (ht : P.underlying t = some (.map kt e)) {z : Value} (hz : (zeroValue e).run P w = .ok z w) (x : α) (hx : ok x) :
    (Instr.lookup t (.map (some b)) (enc x) false).run P w = .ok ((M x).getD z) w := by
  obtain ⟨D, hD, hM⟩ := h
  obtain ⟨l, hl⟩ := K.has x hx
  have h2 := hM x hx l hl
  obtain ⟨v, ps, hrun, hv⟩ := hD.lookup K.keyed ht hz (zd := .held z) (zp := []) rfl hl
  rw [hrun]
  unfold rawE at hv
  injection hv with hv
  injection hv with hv _
  rw [h2] at hv
  cases hm : M x with
  | none => rw [hm] at hv; injection hv with hv; rw [hv]; rfl
  | some u => rw [hm] at hv; injection hv with hv; rw [hv]; rfl
theorem KeyEnc.lit_inj (K : KeyEnc P kt enc ok) {x y : α} (hx : ok x) (hy : ok y) {l : Lit} (h1 : keyOf P kt (enc x) = some l) (h2 : keyOf P kt (enc y) = some l) : x = y := K.inj x y hx hy (K.keyed.inj h1 h2)
theorem MapG.store (K : KeyEnc P kt enc ok) {w : World} {b n : Nat} {M : α → Option Value} (h : MapG P kt enc ok w b n M) {t e : TypeId} (ht : P.underlying t = some (.map kt e)) (hn : n < maxLen) (x : α) (hx : ok x) (v : Value) :
    ∃ w', (Instr.mapUpdate t (.map (some b)) (enc x) v).run P w = .ok () w' ∧ MapG P kt enc ok w' b (n + 1) (putG M x v) ∧ w.grownBy w' (some b) := by
  obtain ⟨D, hD, hM⟩ := h
  obtain ⟨l, hl⟩ := K.has x hx
  obtain ⟨w', hrun, hown, ht'⟩ := hD.store K.keyed ht hn hl (d := .held v) (ps := []) rfl
  refine ⟨w', hrun, ⟨_, hown, fun y hy ly hly z => ?_⟩, ht'.grown⟩
  unfold putG
  by_cases e : y = x
  · subst e
    obtain rfl : ly = l := by rw [hl] at hly; injection hly with h; exact h.symm
    rw [if_pos rfl, Maps.atKey_put_same hD.isMap (K.keyed.key hl)]
  · rw [if_neg e, Maps.atKey_put_other (fun q : ly = l => e (K.lit_inj hy hx hly (by rw [q]; exact hl))), hM y hy ly hly]
theorem MapG.drop (K : KeyEnc P kt enc ok) {w : World} {b n : Nat} {M : α → Option Value} (h : MapG P kt enc ok w b n M) {t e : TypeId} (ht : P.underlying t = some (.map kt e)) (ty : TypeId) (x : α) (hx : ok x) :
    ∃ w', (Builtin.delete_ #[t, kt] ty #[.map (some b), enc x]).run P w = .ok (.tuple #[]) w' ∧ MapG P kt enc ok w' b n (delG M x) ∧ w.grownBy w' (some b) := by
  obtain ⟨D, hD, hM⟩ := h
  obtain ⟨l, hl⟩ := K.has x hx
  obtain ⟨w', hrun, hown, ht'⟩ := hD.drop K.keyed ht hl ty
  refine ⟨w', hrun, ⟨_, hown, fun y hy ly hly z => ?_⟩, ht'.grown⟩
  unfold delG
  by_cases e : y = x
  · subst e
    obtain rfl : ly = l := by rw [hl] at hly; injection hly with h; exact h.symm
    rw [if_pos rfl, Maps.atKey_del_same]
  · rw [if_neg e, Maps.atKey_del_other (fun q : ly = l => e (K.lit_inj hy hx hly (by rw [q]; exact hl))), hM y hy ly hly]
end
theorem u8_wfG {a : Int} (h1 : 0 ≤ a) (h2 : a ≤ 255) : (Lit.int .u8 a).wf = true := by
  show (decide ((0 : Int) ≤ a) && decide (a ≤ 255)) = true
  simp; omega
theorem u32_wfG {a : Int} (h1 : 0 ≤ a) (h2 : a ≤ 4294967295) : (Lit.int .u32 a).wf = true := by
  show (decide ((0 : Int) ≤ a) && decide (a ≤ 4294967295)) = true
  simp; omega
section
variable {P : Program}
theorem litsU8G {t : TypeId} (hu : P.underlying t = some (.int .u8)) (d : Nat) (a : Int) (h1 : 0 ≤ a) (h2 : a ≤ 255) : P.keyLits (d + 1) t [.int .u8 a] = some [.int .u8 a] := by
  unfold Program.keyLits; simp [hu, u8_wfG h1 h2]
theorem litsU32G {t : TypeId} (hu : P.underlying t = some (.int .u32)) (d : Nat) (a : Int) (h1 : 0 ≤ a) (h2 : a ≤ 4294967295) : P.keyLits (d + 1) t [.int .u32 a] = some [.int .u32 a] := by
  unfold Program.keyLits; simp [hu, u32_wfG h1 h2]
end
def Flat (P : Program) (d : Nat) (t : TypeId) (cs : List Value) : Prop := ∃ L, P.keyLits d t cs = some L
theorem mapM_some {α β : Type} (f : α → Option β) : ∀ l : List α, (∀ x ∈ l, ∃ y, f x = some y) → ∃ ys, l.mapM f = some ys
  | [], _ => ⟨[], by simp⟩
  | x :: l, h => by
    obtain ⟨y, hy⟩ := h x (by simp)
    obtain ⟨ys, hys⟩ := mapM_some f l (fun z hz => h z (by simp [hz]))
    exact ⟨y :: ys, by simp [List.mapM_cons, hy, hys]⟩
section
variable {P : Program} {d : Nat} {t : TypeId}
theorem flat_u8 (hu : P.underlying t = some (.int .u8)) (a : Int) (h1 : 0 ≤ a) (h2 : a ≤ 255) : Flat P (d + 1) t [.int .u8 a] := ⟨_, litsU8G hu d a h1 h2⟩
theorem flat_u32 (hu : P.underlying t = some (.int .u32)) (a : Int) (h1 : 0 ≤ a) (h2 : a ≤ 4294967295) : Flat P (d + 1) t [.int .u32 a] := ⟨_, litsU32G hu d a h1 h2⟩
theorem flat_bool (hu : P.underlying t = some .bool) (b : Bool) : Flat P (d + 1) t [.bool b] := ⟨[.bool b], by unfold Program.keyLits; simp [hu]⟩
theorem flat_arr {n c : Nat} {e : TypeId} {cs : List Value} (hu : P.underlying t = some (.array n e)) (hc : P.cellsOf e = c) (hl : cs.length = P.cellsOf t) (h : ∀ i, i < n → Flat P d e ((cs.drop (i * c)).take c)) : Flat P (d + 1) t cs := by
  obtain ⟨ys, hys⟩ := mapM_some (fun i => P.keyLits d e ((cs.drop (i * P.cellsOf e)).take (P.cellsOf e))) (List.range n) (fun i hi => by
    rw [hc]; exact h i (List.mem_range.1 hi))
  refine ⟨ys.flatten, ?_⟩
  unfold Program.keyLits
  simp only [hu, hl, if_true, hys, Option.map_some]
theorem flat_row32 {n : Nat} {e : TypeId} {l : List Int} (hu : P.underlying t = some (.array n e)) (hue : P.underlying e = some (.int .u32)) (hc : P.cellsOf e = 1) (ht : P.cellsOf t = n) (hl : l.length = n) (hb : ∀ v ∈ l, 0 ≤ v ∧ v ≤ 4294967295) : Flat P (d + 1 + 1) t (l.map (Value.int .u32)) :=
  flat_arr hu hc (by rw [List.length_map, hl, ht]) fun i hi => by
    have h1 : i < l.length := by omega
    have := hb _ (List.getElem_mem h1)
    rw [Nat.mul_one, ← List.map_drop, ← List.map_take, List.drop_eq_getElem_cons h1]
    exact flat_u32 hue _ this.1 this.2
theorem flat_struct {fs : Array Field} {cs : List Value} {tl : List (TypeId × Nat × Nat)} (hu : P.underlying t = some (.struct fs)) (hn : fs.all (·.name != "_") = true) (hl : cs.length = P.cellsOf t)
    (hm : fs.toList.map (fun f => (f.type, f.offset, P.cellsOf f.type)) = tl) (h : ∀ p ∈ tl, Flat P d p.1 ((cs.drop p.2.1).take p.2.2)) : Flat P (d + 1) t cs := by
  obtain ⟨ys, hys⟩ := mapM_some (fun f : Field => P.keyLits d f.type ((cs.drop f.offset).take (P.cellsOf f.type))) fs.toList (fun f hf => h (f.type, f.offset, P.cellsOf f.type) (by rw [← hm]; exact List.mem_map_of_mem hf))
  refine ⟨ys.flatten, ?_⟩
  unfold Program.keyLits
  simp only [hu, hl, hn, and_self, if_true, hys, Option.map_some]
theorem key_of_flat {cs : List Value} (hwide : (match P.underlying t with | some (.array _ _) | some (.struct _) => true | _ => false) = true) (hk : P.keyType t = true) (hl : cs.length = P.cellsOf t) (h : Flat P (P.types.size + 1) t cs) : ∃ l, keyOf P t (.agg cs.toArray) = some l := by
  obtain ⟨L, hL⟩ := h
  have hf : Value.formed P t (.agg cs.toArray) = true := by
    unfold Value.formed
    cases hu : P.underlying t with
    | none => simp [hu] at hwide
    | some q => cases q <;> simp_all
  refine ⟨.string (keyBytes L), ?_⟩
  unfold keyOf
  cases hu : P.underlying t with
  | none => simp [hu] at hwide
  | some q => cases q <;> simp_all [Value.cells]
end
section
variable {P : Program} {kt : TypeId} {α : Type} [DecidableEq α] {enc : α → Value} {ok : α → Prop}
theorem KeyEnc.equal (K : KeyEnc P kt enc ok) {m : Nat} (hm : m ≤ 10000) (hk : P.keyTypeAt m kt = true) (hwide : (match P.underlying kt with | some (.array _ _) | some (.struct _) => true | _ => false) = true) (x y : α) (hx : ok x) (hy : ok y) (w : World) :
    (Op.equal kt (enc x) (enc y)).run P w = .ok (decide (x = y)) w := by
  obtain ⟨lx, h1⟩ := K.has x hx
  obtain ⟨ly, h2⟩ := K.has y hy
  obtain ⟨r, hr, hi⟩ := run_equal_deep w hm hk hwide h1 h2
  rw [hr]
  have : r = decide (x = y) := by
    rw [Bool.eq_iff_iff, hi, decide_eq_true_iff]
    constructor
    · intro e; subst e; exact K.lit_inj hx hy h1 h2
    · intro e; subst e; rw [h1] at h2; injection h2
  rw [this]
theorem KeyEnc.eql (K : KeyEnc P kt enc ok) {cx cy : Array Value} {m : Nat} (hm : m ≤ 10000) (hk : P.keyTypeAt m kt = true) (hwide : (match P.underlying kt with | some (.array _ _) | some (.struct _) => true | _ => false) = true) (x y : α) (hx : ok x) (hy : ok y) (ex : enc x = .agg cx) (ey : enc y = .agg cy) (w : World) :
    (binOp .eql kt (.agg cx) (.agg cy)).run P w = .ok (.bool (decide (x = y))) w := by
  have h := K.equal hm hk hwide x y hx hy w
  rw [ex, ey] at h
  rw [run_eql_struct, show Op.equalIn 10000 kt (.agg cx) (.agg cy) = Op.equal kt (.agg cx) (.agg cy) from rfl, h]; rfl
theorem KeyEnc.neq (K : KeyEnc P kt enc ok) {cx cy : Array Value} {m : Nat} (hm : m ≤ 10000) (hk : P.keyTypeAt m kt = true) (hwide : (match P.underlying kt with | some (.array _ _) | some (.struct _) => true | _ => false) = true) (x y : α) (hx : ok x) (hy : ok y) (ex : enc x = .agg cx) (ey : enc y = .agg cy) (w : World) :
    (binOp .neq kt (.agg cx) (.agg cy)).run P w = .ok (.bool (!decide (x = y))) w := by
  have h := K.equal hm hk hwide x y hx hy w
  rw [ex, ey] at h
  rw [run_neq_struct, show Op.equalIn 10000 kt (.agg cx) (.agg cy) = Op.equal kt (.agg cx) (.agg cy) from rfl, h]; rfl
end
theorem manyTypes : ∃ m, Tryz.prog.types.size + 1 = m + 1 + 1 + 1 + 1 + 1 + 1 := by
  have h : Nat.ble 6 Tryz.prog.types.size = true := by kernel_rfl
  exact ⟨Tryz.prog.types.size - 5, by have := Nat.le_of_ble_eq_true h; omega⟩
theorem mapI_inj {k : IntKind} {l m : List Int} (h : l.map (Value.int k) = m.map (Value.int k)) : l = m := (List.map_inj_right (fun x y e => by injection e)).1 h
end Go.Proofs.YtmbdohnmbkpfaaaGreat
