/- Fg2 Fg3 Fg4 -/
import Derived.Lib.Overlaps
import Derived.Lib.AppendZeros
import Derived.Laws.CopyRow
import Derived.Test.YtnmjplngbleopaaF09
import Derived.Test.YtnmjplngbleopaaF04
namespace Go.Proofs.Ytnmjplngbleopaa
open Go.RowKit Go.Shelf
set_option maxRecDepth 20000
set_option linter.unusedSimpArgs false
theorem infoD2 : (Try.prog.info? 32).map (fun i => (i.zero, i.size, i.bytes)) = some (some (.agg #[.int .u8 0, .int .u32 0]), 2, 8) := by kernel_rfl
structure InsP (base : Nat) (v : Value) (w : World) (L : List (List Value)) (v' : Value) (w' : World) : Prop where
  own : OwnI w' base 32 2 v' L
  grown : w.grownBy w' v.ownBlock
  block : v'.ownBlock = v.ownBlock ∨ ∃ k, v'.ownBlock = some k ∧ w.heap.size ≤ k
set_option maxHeartbeats 8000000 in
theorem insD_end (base : Nat) (x : Option Addr) (n c : Nat) (vs : List (List Value)) (T : List Value) (gv : Nat) (w : World) (hO : OwnI w base 32 2 (.slice x n c) vs) (hn : vs.length = n) (hc : n ≤ c) (hT2 : T.length = 2) (hT1 : ∀ u ∈ T, u.oneCell' = true) (hg : CellsAt w gv 32 T) (hbase : base ≤ w.heap.size) (hlen : n ≤ 100000) :
    Calls Try.prog 33 #[.slice x n c, .int .i64 (n : Nat), .slice (some ⟨gv, 0, none⟩) 1 1] w fun e w' => ∃ v', e = .returned v' ∧ InsP base (.slice x n c) w (vs ++ [T]) v' w' := by
  have uS := Try.underlying57
  obtain ⟨v9, W9, hrun, ho9, hg9, hb9⟩ := hO.app (P := Try.prog) 57 57 uS infoD2 rfl (by decide) T hT2 hT1 gv hg.wholeM (by omega) (by decide) hbase
  have HE : Veil (InsP base (.slice x n c) w (vs ++ [T]) v9 W9) := ⟨⟨ho9, hg9, by rcases hb9 with q | q; exact .inl q; exact .inr ⟨_, q, Nat.le_refl _⟩⟩⟩
  obtain ⟨x9, c9, hv9⟩ := ho9.isSlice
  generalize (vs ++ [T]).length = n9 at hv9
  have hci : (n : Int) ≤ (c : Int) := by omega
  have hn0 : (0 : Int) ≤ (n : Int) := by omega
  have hbe : ((n : Int) == (n : Int)) = true := beq_self_eq_true _
  subst hv9
  clear ho9 hg9 hb9 hO hg
  go_enter Try.func33, Try.ntmps33
  by_cases hcn : c = n
  · subst hcn
    go_wp2_with (refine wpList_appx rfl _ _ _ _ rfl _ _ _ W9 rfl rfl hrun ?_)
    go_ret
    exact ⟨_, rfl, HE.out⟩
  · go_wp2_with (refine wpList_appx rfl _ _ _ _ rfl _ _ _ W9 rfl rfl hrun ?_)
    go_ret
    exact ⟨_, rfl, HE.out⟩
theorem addF_mid (b o j : Nat) : (⟨b, o, none⟩ : Addr).add j = ⟨b, o + j, none⟩ := by unfold Addr.add; split <;> simp_all
theorem run_copy_two {P : Program} (w : World) (dT sT ty elem : TypeId) (g o dLen dCap : Nat) (a : Addr) (sLen sCap : Nat) (cur : Array Value) (t : TypeId) (cs : List Value)
    (hu : P.underlying dT = some (.slice elem)) (hs : (P.info? elem).map (·.size) = some 2)
    (hg : w.heap[g]? = some (.cells cur t (0, 0))) (hn : cs.length = Nat.min sLen dLen * 2)
    (hsrc : ∀ j v, cs[j]? = some v → w.cell? (a.add j) = some v) (hfit : o + cs.length ≤ cur.size) (h1 : ∀ v ∈ cs, v.oneCell' = true) :
    (Builtin.copy_ #[dT, sT] ty #[.slice (some ⟨g, o, none⟩) dLen dCap, .slice (some a) sLen sCap]).run P w =
      .ok (goInt (Nat.min sLen dLen)) (w.setRow g (cur.toList.take o ++ cs ++ cur.toList.drop (o + cs.length)).toArray) := by
  have hl := run_loadCells_list (P := P) w a cs hsrc
  have hst := run_storeCells_at P g o t cs 0 cur w hg (by simpa using hfit) h1
  cases hq : P.info? elem with
  | none => simp [hq] at hs
  | some i =>
    have hi : i.size = 2 := by simpa [hq] using hs
    simp [Builtin.copy_, run_underlying hu, Builtin.lenOf, Builtin.firstCells, sizeOf, typeInfo, hq, hi, ← hn, hl, hst]
set_option maxHeartbeats 8000000 in
theorem insD_room (g n c i : Nat) (cur : List Value) (T : List Value) (gv : Nat) (w : World) (hg : w.heap[g]? = some (.cells cur.toArray 32 (0, 0))) (hcur : cur.length = c * 2) (hin : i < n) (hnc : n + 1 ≤ c) (hT2 : T.length = 2) (hT1 : ∀ u ∈ T, u.oneCell' = true) (hC1 : ∀ u ∈ cur.take (n * 2), u.oneCell' = true) (hv : CellsAt w gv 32 T) (hne : gv ≠ g) (hlen : c ≤ maxLen) :
    Calls Try.prog 33 #[.slice (some ⟨g, 0, none⟩) n c, .int .i64 (i : Nat), .slice (some ⟨gv, 0, none⟩) 1 1] w fun e w' => e = .returned (.slice (some ⟨g, 0, none⟩) (n + 1) c) ∧ w'.heap[g]? = some (.cells (cur.take (i * 2) ++ (T ++ (cur.drop (i * 2)).take ((n - i) * 2)) ++ cur.drop ((n + 1) * 2)).toArray 32 (0, 0)) ∧ w.grownBy w' (some g) := by
  simp only [maxLen] at hlen
  have uS := Try.underlying57
  have hi0 : (0 : Int) ≤ (i : Int) := by omega
  have hii : (i : Int) ≤ (n : Int) := by omega
  have hic : (i : Int) ≤ (c : Int) := by omega
  have hnb : ((i : Int) == (n : Int)) = false := by simp; omega
  have hw1 : IntKind.i64.wrap ((n : Int) + 1) = (n : Int) + 1 := by rw [IntKind.wrap_i64]; omega
  have hw2 : IntKind.i64.wrap ((i : Int) + 1) = (i : Int) + 1 := by rw [IntKind.wrap_i64]; omega
  have hng : ¬ (c : Int) < (n : Int) + 1 := by omega
  have hnn : ¬ i = n := by omega
  have hneg1 : ((i : Int) + 1 < 0) = False := by simp; omega
  have hneg2 : ((n : Int) + 1 < (i : Int)) = False := by simp; omega
  have hcc : ¬ c = i := by omega
  have hcc2 : ¬ c = i + 1 := by omega
  have hnc2 : (n : Int) + 1 ≤ (c : Int) := by omega
  have hin2 : (i : Int) + 1 ≤ (n : Int) + 1 := by omega
  have hv' : w.heap[gv]? = some (.cells T.toArray 32 (0, 0)) := hv
  have hsa : w.shape? gv = some (32, 2) := by simp [World.shape?, hv', hT2]
  have hsb : w.shape? g = some (32, c * 2) := by simp [World.shape?, hg, hcur]
  have hfa := hv.frozen 0
  have hfe := hv.frozen 2
  have hov := Go.Lib.run_overlaps_apart (P := Try.prog) w 57 4 32 uS 2 Try.sizeOf32 ⟨gv, 0, none⟩ ⟨g, (i + 1) * 2, none⟩ 1 1 (n - i) (c - (i + 1)) hne _ _ _ _ hsa hsb (by omega) hfa hfe
  -- the two copies
  obtain ⟨C1, hC1d⟩ : ∃ q, (cur.drop (i * 2)).take ((n - i) * 2) = q := ⟨_, rfl⟩
  have hC1l : C1.length = (n - i) * 2 := by rw [← hC1d, List.length_take, List.length_drop]; omega
  have hC1o : ∀ u ∈ C1, u.oneCell' = true := fun u hu => hC1 u (by rw [← hC1d, List.take_drop, show i * 2 + (n - i) * 2 = n * 2 by omega] at hu; exact List.mem_of_mem_drop hu)
  have hgd : w.drew.heap[g]? = some (.cells cur.toArray 32 (0, 0)) := hg
  have hcp1 := run_copy_two (P := Try.prog) w.drew 57 57 3 32 g ((i + 1) * 2) (n - i) (c - (i + 1)) ⟨g, i * 2, none⟩ (n + 1 - i) (c - i) cur.toArray 32 C1 uS sizeDot hgd (by rw [hC1l]; congr 1; exact (Nat.min_eq_right (by omega)).symm) (fun j u hu => by
      rw [addF_mid, World.cell?, hgd]
      rw [← hC1d, List.getElem?_take] at hu
      split at hu
      · rw [List.getElem?_drop] at hu
        simpa using hu
      · cases hu) (by simp [hC1l, hcur]; omega) hC1o
  obtain ⟨W1, hW1⟩ : ∃ q, w.drew.setRow g (cur.toArray.toList.take ((i + 1) * 2) ++ C1 ++ cur.toArray.toList.drop ((i + 1) * 2 + C1.length)).toArray = q := ⟨_, rfl⟩
  rw [hW1] at hcp1
  obtain ⟨R1, hR1⟩ : ∃ q, cur.take ((i + 1) * 2) ++ C1 ++ cur.drop ((i + 1) * 2 + C1.length) = q := ⟨_, rfl⟩
  have hg1 : W1.heap[g]? = some (.cells R1.toArray 32 (0, 0)) := by rw [← hW1, ← hR1]; exact setRow_heap _ g _ _ 32 _ hgd
  have hv1 : CellsAt W1 gv 32 T := by rw [← hW1]; exact (hv.congr (w' := w.drew) rfl).setRowM _ hne
  have hR1l : R1.length = c * 2 := by rw [← hR1]; simp [hC1l, hcur]; omega
  have hcp2 := run_copy_two (P := Try.prog) W1 57 57 3 32 g (i * 2) (n + 1 - i) (c - i) ⟨gv, 0, none⟩ 1 1 R1.toArray 32 T uS sizeDot hg1 (by rw [hT2, show Nat.min 1 (n + 1 - i) = 1 from Nat.min_eq_left (by omega)]) (fun j u hu => by
      rw [addF_mid, Nat.zero_add]
      exact (hv1.cell j).trans hu) (by simp [hT2, hR1l]; omega) hT1
  obtain ⟨W2, hW2⟩ : ∃ q, W1.setRow g (R1.toArray.toList.take (i * 2) ++ T ++ R1.toArray.toList.drop (i * 2 + T.length)).toArray = q := ⟨_, rfl⟩
  rw [hW2] at hcp2
  have HF : Veil (W2.heap[g]? = some (.cells (cur.take (i * 2) ++ (T ++ C1) ++ cur.drop ((n + 1) * 2)).toArray 32 (0, 0)) ∧ w.grownBy W2 (some g)) := ⟨by
      have e : R1.take (i * 2) ++ T ++ R1.drop (i * 2 + T.length) = cur.take (i * 2) ++ (T ++ C1) ++ cur.drop ((n + 1) * 2) := by
        have e1 : R1.take (i * 2) = cur.take (i * 2) := by
          rw [← hR1, List.append_assoc, List.take_append_of_le_length (by rw [List.length_take]; omega), List.take_take]
          congr 1; omega
        have e2 : R1.drop (i * 2 + T.length) = C1 ++ cur.drop ((n + 1) * 2) := by
          rw [← hR1, List.append_assoc, hT2, show i * 2 + 2 = (i + 1) * 2 by omega]
          rw [List.drop_left' (by rw [List.length_take]; omega), hC1l]
          congr 2; omega
        rw [e1, e2]
        simp [List.append_assoc]
      rw [← hW2, ← e]
      exact setRow_heap _ g _ _ 32 _ hg1, by
      rw [← hW2, ← hW1]
      refine ⟨rfl, rfl, rfl, by simp [World.setRow], fun k hk hkn => ?_⟩
      rw [setRow_other _ _ _ _ (fun q => hkn (by rw [q])), setRow_other _ _ _ _ (fun q => hkn (by rw [q]))]; rfl⟩
  have hmin : Nat.min (n + 1 - i) (n - i) = n - i := Nat.min_eq_right (by omega)
  clear hg1 hv1 hW1 hW2 hR1 hgd hsa hsb hfa hfe hv' hg hv hR1l hC1o hC1l hC1
  rw [hC1d]
  clear hC1d
  go_enter Try.func33, Try.ntmps33
  go_wp2
  rw [run_callFunc_extern Try.func40 (by kernel_rfl) (by kernel_rfl) (by kernel_rfl) (e := Extern.SlicesOverlaps.overlaps #[57, 57] #[4]) (by kernel_rfl), hov]
  simp only [Result.andThen]
  rw [Oper.upon_value]
  go_upto_region 15 with fail
  refine wp_region_gate (fun _ => True) 8 (by kernel_rfl) ?_
  have hS : (fun _ : World => True) w.drew := trivial
  refine wpAnyG_any (i := 0) (v := ?_) rfl (by kernel_rfl) (by kernel_rfl) (by kernel_rfl) (fun _ _ _ h => h) (by kernel_rfl) (fun _ => hS) (by kernel_rfl) ?_ ?_
  rotate_left
  · intro _; go_simp; try with_reducible rfl
  simp only [Act.put, List.getElem_toArray, List.getElem_cons_succ, List.getElem_cons_zero, List.setIfInBounds_toArray, List.set_cons_zero, List.set_cons_succ]
  refine wpAnyG_any (i := 1) (v := ?_) rfl (by kernel_rfl) (by kernel_rfl) (by kernel_rfl) (fun _ _ _ h => h) (by kernel_rfl) (fun _ => hS) (by kernel_rfl) ?_ ?_
  rotate_left
  · intro _; go_simp; try with_reducible rfl
  simp only [Act.put, List.getElem_toArray, List.getElem_cons_succ, List.getElem_cons_zero, List.setIfInBounds_toArray, List.set_cons_zero, List.set_cons_succ]
  refine wpAnyG_any (i := 2) (v := ?_) rfl (by kernel_rfl) (by kernel_rfl) (by kernel_rfl) (fun _ _ _ h => h) (by kernel_rfl) (fun _ => hS) (by kernel_rfl) ?_ ?_
  rotate_left
  · intro _; go_simp; try with_reducible rfl
  simp only [Act.put, List.getElem_toArray, List.getElem_cons_succ, List.getElem_cons_zero, List.setIfInBounds_toArray, List.set_cons_zero, List.set_cons_succ]
  refine wpAnyG_any (i := 3) (v := .int .i64 ((i : Int) + 1)) rfl (by kernel_rfl) (by kernel_rfl) (by kernel_rfl) (fun _ _ _ h => h) (by kernel_rfl) (fun _ => hS) (by kernel_rfl) ?_ ?_
  · intro _; go_simp
  simp only [Act.put, List.getElem_toArray, List.getElem_cons_succ, List.getElem_cons_zero, List.setIfInBounds_toArray, List.set_cons_zero, List.set_cons_succ]
  refine wpAnyG_any (i := 4) (v := .slice (some ⟨g, (i + 1) * 2, none⟩) (n - i) (c - (i + 1))) rfl (by kernel_rfl) (by kernel_rfl) (by kernel_rfl) (fun _ _ _ h => h) (by kernel_rfl) (fun _ => hS) (by kernel_rfl) ?_ ?_
  · intro _; go_simp
  simp only [Act.put, List.getElem_toArray, List.getElem_cons_succ, List.getElem_cons_zero, List.setIfInBounds_toArray, List.set_cons_zero, List.set_cons_succ]
  refine wpAnyG_any (i := 5) (v := ?_) rfl (by kernel_rfl) (by kernel_rfl) (by kernel_rfl) (fun _ _ _ h => h) (by kernel_rfl) (fun _ => hS) (by kernel_rfl) ?_ ?_
  rotate_left
  · intro _; go_simp; try with_reducible rfl
  simp only [Act.put, List.getElem_toArray, List.getElem_cons_succ, List.getElem_cons_zero, List.setIfInBounds_toArray, List.set_cons_zero, List.set_cons_succ]
  refine wpAnyG_any (i := 6) (v := ?_) rfl (by kernel_rfl) (by kernel_rfl) (by kernel_rfl) (fun _ _ _ h => h) (by kernel_rfl) (fun _ => hS) (by kernel_rfl) ?_ ?_
  rotate_left
  · intro _; go_simp; try with_reducible rfl
  simp only [Act.put, List.getElem_toArray, List.getElem_cons_succ, List.getElem_cons_zero, List.setIfInBounds_toArray, List.set_cons_zero, List.set_cons_succ]
  refine wpAnyG_any (i := 7) (v := .slice (some ⟨g, i * 2, none⟩) (n + 1 - i) (c - i)) rfl (by kernel_rfl) (by kernel_rfl) (by kernel_rfl) (fun _ _ _ h => h) (by kernel_rfl) (fun _ => hS) (by kernel_rfl) ?_ ?_
  · intro _; go_simp
  simp only [Act.put, List.getElem_toArray, List.getElem_cons_succ, List.getElem_cons_zero, List.setIfInBounds_toArray, List.set_cons_zero, List.set_cons_succ]
  refine wpAnyG_one (i := 8) rfl (by kernel_rfl) (by kernel_rfl) (fun K hK => ?_)
  refine wpx_copy (.tmp 73) (.tmp 76) 57 57 rfl (.slice (some ⟨g, (i + 1) * 2, none⟩) (n - i) (c - (i + 1))) (.slice (some ⟨g, i * 2, none⟩) (n + 1 - i) (c - i)) _ W1 rfl rfl hcp1 ?_
  refine hK.out _ _ (fun h => absurd (show true = false from h) (by decide)) ?_
  clear hK K
  try simp only [Act.put, List.getElem_toArray, List.getElem_cons_succ, List.getElem_cons_zero, List.setIfInBounds_toArray, List.set_cons_zero, List.set_cons_succ]
  refine wpAnyG_done (by kernel_rfl) ?_ _
  clear hS hcp1 hov
  go_wp2_with (refine wpList_plain rfl fun _ hK => ?_; refine wpx_copy (.tmp 80) (.tmp 81) 57 57 rfl (.slice (some ⟨g, i * 2, none⟩) (n + 1 - i) (c - i)) (.slice (some ⟨gv, 0, none⟩) 1 1) _ W2 rfl rfl hcp2 ?_; refine hK _ _ ?_)
  go_ret
  exact ⟨rfl, HF.out⟩
abbrev dotZc : Array Value := #[.int .u8 0, .int .u32 0]
set_option maxHeartbeats 1000000 in
theorem run_app_zeros2 (w : World) (ty : TypeId) (g i c k : Nat) (pre : List Value) (hpre : pre.length = i * 2) (hsrc : ∀ j u, pre[j]? = some u → w.cell? ⟨g, j, none⟩ = some u) (hroom : c < i + k) (hk : i + k ≤ 1000000) (hk0 : 0 < k) :
    (Builtin.append_ #[57, 3] ty #[.slice (some ⟨g, 0, none⟩) i c, .int .i64 (k : Nat)]).run Try.prog w = .ok (.slice (some ⟨w.heap.size, 0, none⟩) (i + k) (grownCap w (i + k) c 32)) (w.drew.alloc (.cells (pre.toArray ++ Builtin.zeroCells dotZc k ++ Builtin.zeroCells dotZc (grownCap w (i + k) c 32 - (i + k))) 32)) := by
  obtain ⟨i0, hi, hz0, hz1, hz2⟩ := info_parts infoD2
  have hzc : (Value.agg #[.int .u8 0, .int .u32 0]).cells = dotZc := rfl
  have hai : ∀ wx, (asInt (.int .i64 (k : Nat))).run Try.prog wx = .ok (k : Int) wx := fun wx => by simp [asInt, asIntOf]
  have hwk : IntKind.i64.wrap (k : Int) = (k : Int) := by rw [IntKind.wrap_i64]; omega
  have hnr : ¬ (i + k ≤ c) := by omega
  have hfo := run_firstCells_some (P := Try.prog) w.drew 2 i ⟨g, 0, none⟩ i c pre hpre (fun j u hu => by rw [addF_mid, Nat.zero_add]; exact hsrc j u hu)
  have h63' : ¬ (9223372036854775807 < ((i : Int) + (k : Int))) := by omega
  have h63b : ¬ (9223372036854775807 < ((i : Int) + max (k : Int) 0)) := by omega
  have hfit := growslice_fits (need := i + k) (old := c) (bytes := 8) hroom (by omega)
  have h48' : ¬ (281474976710656 < Builtin.nextslicecap (i + k) c * 8) := by omega
  have hkn : ¬ ((k : Int) < 0) := by omega
  have hk8 : ¬ (281474976710656 < (k : Int) * 8) := by omega
  have hk2 : ¬ (k * 2 = 0) := by omega
  have hk3 : ¬ (k = 0) := by omega
  simp [Builtin.append_, run_underlying Try.underlying57, run_underlying Try.underlying3, sizeOf, typeInfo, zeroValue, hi, hz0, hz1, hz2, hai, hwk, hzc, hnr, h63', h63b, h48', hkn, hk8, hk2, hk3, Question.forced, hfo, newRow, grownCap]
end Go.Proofs.Ytnmjplngbleopaa
