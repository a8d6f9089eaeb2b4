/- fugue: slices.Insert at dots, one more, wherever it is put. -/
import Derived.Test.YthjkcfpdkhghpaaFg5
namespace Go.Proofs.Ythjkcfpdkhghpaa
open Go.RowKit Go.Shelf
set_option maxRecDepth 20000
set_option linter.unusedSimpArgs false
theorem flat_take {k : Nat} (L : List (List Value)) (hL : ∀ c ∈ L, c.length = k) (i : Nat) : (L.take i).flatten = L.flatten.take (i * k) := by
  induction L generalizing i with
  | nil => simp
  | cons e L ih =>
    have he : e.length = k := hL e (by simp)
    cases i with
    | zero => simp
    | succ i =>
      rw [List.take_succ_cons, List.flatten_cons, List.flatten_cons, ih (fun c hc => hL c (by simp [hc])), show (i + 1) * k = e.length + i * k by rw [he, Nat.add_mul]; omega, List.take_length_add_append]
theorem flat_drop {k : Nat} (L : List (List Value)) (hL : ∀ c ∈ L, c.length = k) (i : Nat) : (L.drop i).flatten = L.flatten.drop (i * k) := by
  have h1 := flat_take L hL i
  have h2 : (L.take i).flatten ++ (L.drop i).flatten = L.flatten := by rw [← List.flatten_append, List.take_append_drop]
  have h3 : (L.take i).flatten ++ L.flatten.drop (i * k) = L.flatten := by rw [h1, List.take_append_drop]
  exact List.append_cancel_left (h2.trans h3.symm)
theorem insD_any (base : Nat) (x : Option Addr) (n c i : Nat) (L : List (List Value)) (T : List Value) (gv : Nat) (w : World) (hO : OwnI w base 32 2 (.slice x n c) L) (hi : i ≤ n) (hL1 : ∀ e ∈ L, ∀ u ∈ e, u.oneCell' = true) (hT2 : T.length = 2) (hT1 : ∀ u ∈ T, u.oneCell' = true) (hg : CellsAt w gv 32 T) (hne : (Value.slice x n c).ownBlock ≠ some gv) (hbase : base ≤ w.heap.size) (hlen : n ≤ 100000) :
    Calls Try.prog 38 #[.slice x n c, .int .i64 (i : Nat), .slice (some ⟨gv, 0, none⟩) 1 1] w fun e w' => ∃ v', e = .returned v' ∧ InsP base (.slice x n c) w (L.take i ++ [T] ++ L.drop i) v' w' := by
  have hnL : n = L.length := by
    obtain ⟨y, d, e⟩ := hO.isSlice
    injection e
  have hflat1 : ∀ u ∈ L.flatten, u.oneCell' = true := fun u hu => by
    obtain ⟨e, he, hu⟩ := List.mem_flatten.1 hu
    exact hL1 e he u hu
  have hnew : ∀ e ∈ L.take i ++ [T] ++ L.drop i, e.length = 2 := fun e he => by
    rcases List.mem_append.1 he with he | he
    · rcases List.mem_append.1 he with he | he
      · exact hO.each e (List.mem_of_mem_take he)
      · rw [List.mem_singleton.1 he]; exact hT2
    · exact hO.each e (List.mem_of_mem_drop he)
  have hnl : (L.take i ++ [T] ++ L.drop i).length = n + 1 := by
    simp only [List.length_append, List.length_take, List.length_drop, List.length_singleton]; omega
  have hnf : (L.take i ++ [T] ++ L.drop i).flatten = L.flatten.take (i * 2) ++ T ++ L.flatten.drop (i * 2) := by
    rw [List.flatten_append, List.flatten_append, flat_take L hO.each, flat_drop L hO.each]; simp
  have hfl : L.flatten.length = n * 2 := by rw [flat_len L hO.each, hnL]
  have hnfl := flat_len _ hnew
  have hc : n ≤ c := by
    rcases hO.own.2 with ⟨h1, h0⟩ | ⟨g, cap, cur, h1, _, _, h4, _⟩
    · omega
    · injection h1 with _ _ h1; omega
  by_cases hin : i = n
  · subst hin
    rw [List.take_of_length_le (by omega), List.drop_of_length_le (by omega), List.append_nil]
    exact insD_end base x i c L T gv w hO hnL.symm hc hT2 hT1 hg hbase hlen
  · rcases hO.own.2 with ⟨h1, h0⟩ | ⟨g, cap, cur, h1, hb, hgc, h4, h5, h6, h7⟩
    · omega
    · injection h1 with hx _ hcc
      subst hx hcc
      have hcl : cur.toList.length = c * 2 := by rw [Array.length_toList]; exact h6
      rw [← hnL] at h7
      have hgn : gv ≠ g := fun e => hne (by rw [e]; rfl)
      have hgc' : w.heap[g]? = some (.cells cur.toList.toArray 32 (0, 0)) := by rw [Array.toArray_toList]; exact hgc
      by_cases hroom : n + 1 ≤ c
      · refine (insD_room g n c i cur.toList T gv w hgc' hcl (by omega) hroom hT2 hT1 (by rw [h7]; exact hflat1) hg hgn h5).mono ?_
        rintro e w' ⟨he, hh, hgr⟩
        refine ⟨_, he, ⟨⟨?_, .inr ⟨g, c, _, by rw [hnl], hb, hh, by rw [hnl]; exact hroom, h5, ?_, ?_⟩⟩, hnew⟩, hgr, .inl rfl⟩
        · exact hnfl
        · simp only [List.size_toArray, List.length_append, List.length_take, List.length_drop, hcl, hT2]; omega
        · rw [hnl, hnf, ← h7]
          simp only [List.toList_toArray]
          rw [List.take_left' (by simp only [List.length_append, List.length_take, List.length_drop, hcl, hT2]; omega), List.take_take, List.drop_take, Nat.min_eq_left (by omega), show n * 2 - i * 2 = (n - i) * 2 by omega, List.append_assoc]
      · obtain rfl : c = n := by omega
        have h8 : cur.toList = L.flatten := by rw [← h7]; exact (List.take_of_length_le (by omega)).symm
        refine (insD_grow g c i cur.toList T gv w hgc' hcl (by omega) hT2 hT1 (by rw [h8]; exact hflat1) hg hlen).mono ?_
        rintro e w' ⟨q, he, ⟨R, hh, hRl, hRt⟩, hq1, hq2, hB⟩
        refine ⟨_, he, ⟨⟨?_, .inr ⟨w.heap.size, q, _, by rw [hnl], hbase, hh, by rw [hnl]; exact hq1, hq2, ?_, ?_⟩⟩, hnew⟩, ⟨hB.os, hB.tape, hB.output, hB.size, fun k hk _ => hB.block k hk⟩, .inr ⟨_, rfl, Nat.le_refl _⟩⟩
        · exact hnfl
        · simpa using hRl
        · rw [hnl, hnf, ← h8]; exact hRt
end Go.Proofs.Ythjkcfpdkhghpaa

