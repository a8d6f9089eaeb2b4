/- Fg2 Fg3 Fg4 Fg5 Fg6 -/
import Derived.Lib.Overlaps
import Derived.Lib.AppendZeros
import Derived.Laws.CopyRow
import Derived.Test.YtmbdohnmbkpfaaaGreatV09
import Derived.Test.YtmbdohnmbkpfaaaGreatV07
namespace Go.Proofs.YtmbdohnmbkpfaaaGreat
open Go.RowKit Go.Shelf
set_option maxRecDepth 20000
set_option linter.unusedSimpArgs false
theorem infoD2 : (Tryz.prog.info? 40).map (fun i => (i.zero, i.size, i.bytes)) = some (some (.agg #[.int .u8 0, .int .u32 0]), 2, 8) := by kernel_rfl
structure InsP (base : Nat) (v : Value) (w : World) (L : List (List Value)) (v' : Value) (w' : World) : Prop where
 own : OwnI w' base 40 2 v' L
 grown : w.grownBy w' v.ownBlock
 block : v'.ownBlock = v.ownBlock ∨ ∃ k, v'.ownBlock = some k ∧ w.heap.size ≤ k
set_option maxHeartbeats 8000000 in
theorem insD_end (base : Nat) (x : Option Addr) (n c : Nat) (vs : List (List Value)) (T : List Value) (gv : Nat) (w : World) (hO : OwnI w base 40 2 (.slice x n c) vs) (hn : vs.length = n) (hc : n ≤ c) (hT2 : T.length = 2) (hT1 : ∀ u ∈ T, u.oneCell' = true) (hg : CellsAt w gv 40 T) (hbase : base ≤ w.heap.size) (hlen : n ≤ 100000) :
    Calls Tryz.prog 129 #[.slice x n c, .int .i64 (n : Nat), .slice (some ⟨gv, 0, none⟩) 1 1] w fun e w' => ∃ v', e = .returned v' ∧ InsP base (.slice x n c) w (vs ++ [T]) v' w' := by
 have uS := Tryz.underlying139
 obtain ⟨v9, W9, hrun, ho9, hg9, hb9⟩ := hO.app (P := Tryz.prog) 139 139 uS infoD2 rfl (by decide) T hT2 hT1 gv hg.wholeM (by omega) (by decide) hbase
 have HE : Veil (InsP base (.slice x n c) w (vs ++ [T]) v9 W9) := ⟨⟨ho9, hg9, by rcases hb9 with q | q; exact .inl q; exact .inr ⟨_, q, Nat.le_refl _⟩⟩⟩
 obtain ⟨x9, c9, hv9⟩ := ho9.isSlice
 generalize (vs ++ [T]).length = n9 at hv9
 have hci : (n : Int) ≤ (c : Int) := by omega
 have hn0 : (0 : Int) ≤ (n : Int) := by omega
 have hbe : ((n : Int) == (n : Int)) = true := beq_self_eq_true _
 subst hv9
 clear ho9 hg9 hb9 hO hg
 go_enter Tryz.func129, Tryz.ntmps129
 by_cases hcn : c = n
 · subst hcn
   go_wp2_with (refine wpList_appx rfl _ _ _ _ rfl _ _ _ W9 rfl rfl hrun ?_)
   go_ret
   exact ⟨_, rfl, HE.out⟩
 · go_wp2_with (refine wpList_appx rfl _ _ _ _ rfl _ _ _ W9 rfl rfl hrun ?_)
   go_ret
   exact ⟨_, rfl, HE.out⟩
theorem addF_mid (b o j : Nat) : (⟨b, o, none⟩ : Addr).add j = ⟨b, o + j, none⟩ := by unfold Addr.add; split <;> simp_all
theorem run_copy_two {P : Program} (w : World) (dT sT ty elem : TypeId) (g o dLen dCap : Nat) (a : Addr) (sLen sCap : Nat) (cur : Array Value) (t : TypeId) (cs : List Value)
    (hu : P.underlying dT = some (.slice elem)) (hs : (P.info? elem).map (·.size) = some 2)
    (hg : w.heap[g]? = some (.cells cur t (0, 0))) (hn : cs.length = Nat.min sLen dLen * 2)
    (hsrc : ∀ j v, cs[j]? = some v → w.cell? (a.add j) = some v) (hfit : o + cs.length ≤ cur.size) (h1 : ∀ v ∈ cs, v.oneCell' = true) :
    (Builtin.copy_ #[dT, sT] ty #[.slice (some ⟨g, o, none⟩) dLen dCap, .slice (some a) sLen sCap]).run P w =
     .ok (goInt (Nat.min sLen dLen)) (w.setRow g (cur.toList.take o ++ cs ++ cur.toList.drop (o + cs.length)).toArray) := by
 have hl := run_loadCells_list (P := P) w a cs hsrc
 have hst := run_storeCells_at P g o t cs 0 cur w hg (by simpa using hfit) h1
 cases hq : P.info? elem with
 | none => simp [hq] at hs
 | some i =>
  have hi : i.size = 2 := by simpa [hq] using hs
  simp [Builtin.copy_, run_underlying hu, Builtin.lenOf, Builtin.firstCells, sizeOf, typeInfo, hq, hi, ← hn, hl, hst]
set_option maxHeartbeats 8000000 in
theorem insD_room (g n c i : Nat) (cur : List Value) (T : List Value) (gv : Nat) (w : World) (hg : w.heap[g]? = some (.cells cur.toArray 40 (0, 0))) (hcur : cur.length = c * 2) (hin : i < n) (hnc : n + 1 ≤ c) (hT2 : T.length = 2) (hT1 : ∀ u ∈ T, u.oneCell' = true) (hC1 : ∀ u ∈ cur.take (n * 2), u.oneCell' = true) (hv : CellsAt w gv 40 T) (hne : gv ≠ g) (hlen : c ≤ maxLen) :
    Calls Tryz.prog 129 #[.slice (some ⟨g, 0, none⟩) n c, .int .i64 (i : Nat), .slice (some ⟨gv, 0, none⟩) 1 1] w fun e w' => e = .returned (.slice (some ⟨g, 0, none⟩) (n + 1) c) ∧ w'.heap[g]? = some (.cells (cur.take (i * 2) ++ (T ++ (cur.drop (i * 2)).take ((n - i) * 2)) ++ cur.drop ((n + 1) * 2)).toArray 40 (0, 0)) ∧ w.grownBy w' (some g) := by
 simp only [maxLen] at hlen
 have uS := Tryz.underlying139
 have hi0 : (0 : Int) ≤ (i : Int) := by omega
 have hii : (i : Int) ≤ (n : Int) := by omega
 have hic : (i : Int) ≤ (c : Int) := by omega
 have hnb : ((i : Int) == (n : Int)) = false := by simp; omega
 have hw1 : IntKind.i64.wrap ((n : Int) + 1) = (n : Int) + 1 := by rw [IntKind.wrap_i64]; omega
 have hw2 : IntKind.i64.wrap ((i : Int) + 1) = (i : Int) + 1 := by rw [IntKind.wrap_i64]; omega
 have hng : ¬ (c : Int) < (n : Int) + 1 := by omega
 have hnn : ¬ i = n := by omega
 have hneg1 : ((i : Int) + 1 < 0) = False := by simp; omega
 have hneg2 : ((n : Int) + 1 < (i : Int)) = False := by simp; omega
 have hcc : ¬ c = i := by omega
 have hcc2 : ¬ c = i + 1 := by omega
 have hnc2 : (n : Int) + 1 ≤ (c : Int) := by omega
 have hin2 : (i : Int) + 1 ≤ (n : Int) + 1 := by omega
 have hv' : w.heap[gv]? = some (.cells T.toArray 40 (0, 0)) := hv
 have hsa : w.shape? gv = some (40, 2) := by simp [World.shape?, hv', hT2]
 have hsb : w.shape? g = some (40, c * 2) := by simp [World.shape?, hg, hcur]
 have hfa := hv.frozen 0
 have hfe := hv.frozen 2
 have hov := Go.Lib.run_overlaps_apart (P := Tryz.prog) w 139 4 40 uS 2 Tryz.sizeOf40 ⟨gv, 0, none⟩ ⟨g, (i + 1) * 2, none⟩ 1 1 (n - i) (c - (i + 1)) hne _ _ _ _ hsa hsb (by omega) hfa hfe
 -- the two copies
 obtain ⟨C1, hC1d⟩ : ∃ q, (cur.drop (i * 2)).take ((n - i) * 2) = q := ⟨_, rfl⟩
 have hC1l : C1.length = (n - i) * 2 := by rw [← hC1d, List.length_take, List.length_drop]; omega
 have hC1o : ∀ u ∈ C1, u.oneCell' = true := fun u hu => hC1 u (by rw [← hC1d, List.take_drop, show i * 2 + (n - i) * 2 = n * 2 by omega] at hu; exact List.mem_of_mem_drop hu)
 have hgd : w.drew.heap[g]? = some (.cells cur.toArray 40 (0, 0)) := hg
 have hcp1 := run_copy_two (P := Tryz.prog) w.drew 139 139 3 40 g ((i + 1) * 2) (n - i) (c - (i + 1)) ⟨g, i * 2, none⟩ (n + 1 - i) (c - i) cur.toArray 40 C1 uS sizeDot hgd (by rw [hC1l]; congr 1; exact (Nat.min_eq_right (by omega)).symm) (fun j u hu => by
     rw [addF_mid, World.cell?, hgd]
     rw [← hC1d, List.getElem?_take] at hu
     split at hu
     · rw [List.getElem?_drop] at hu
       simpa using hu
     · cases hu) (by simp [hC1l, hcur]; omega) hC1o
 obtain ⟨W1, hW1⟩ : ∃ q, w.drew.setRow g (cur.toArray.toList.take ((i + 1) * 2) ++ C1 ++ cur.toArray.toList.drop ((i + 1) * 2 + C1.length)).toArray = q := ⟨_, rfl⟩
 rw [hW1] at hcp1
 obtain ⟨R1, hR1⟩ : ∃ q, cur.take ((i + 1) * 2) ++ C1 ++ cur.drop ((i + 1) * 2 + C1.length) = q := ⟨_, rfl⟩
 have hg1 : W1.heap[g]? = some (.cells R1.toArray 40 (0, 0)) := by rw [← hW1, ← hR1]; exact setRow_heap _ g _ _ 40 _ hgd
 have hv1 : CellsAt W1 gv 40 T := by rw [← hW1]; exact (hv.congr (w' := w.drew) rfl).setRowM _ hne
 have hR1l : R1.length = c * 2 := by rw [← hR1]; simp [hC1l, hcur]; omega
 have hcp2 := run_copy_two (P := Tryz.prog) W1 139 139 3 40 g (i * 2) (n + 1 - i) (c - i) ⟨gv, 0, none⟩ 1 1 R1.toArray 40 T uS sizeDot hg1 (by rw [hT2, show Nat.min 1 (n + 1 - i) = 1 from Nat.min_eq_left (by omega)]) (fun j u hu => by
     rw [addF_mid, Nat.zero_add]
     exact (hv1.cell j).trans hu) (by simp [hT2, hR1l]; omega) hT1
 obtain ⟨W2, hW2⟩ : ∃ q, W1.setRow g (R1.toArray.toList.take (i * 2) ++ T ++ R1.toArray.toList.drop (i * 2 + T.length)).toArray = q := ⟨_, rfl⟩
 rw [hW2] at hcp2
 have HF : Veil (W2.heap[g]? = some (.cells (cur.take (i * 2) ++ (T ++ C1) ++ cur.drop ((n + 1) * 2)).toArray 40 (0, 0)) ∧ w.grownBy W2 (some g)) := ⟨by
     have e : R1.take (i * 2) ++ T ++ R1.drop (i * 2 + T.length) = cur.take (i * 2) ++ (T ++ C1) ++ cur.drop ((n + 1) * 2) := by
      have e1 : R1.take (i * 2) = cur.take (i * 2) := by
       rw [← hR1, List.append_assoc, List.take_append_of_le_length (by rw [List.length_take]; omega), List.take_take]
       congr 1; omega
      have e2 : R1.drop (i * 2 + T.length) = C1 ++ cur.drop ((n + 1) * 2) := by
       rw [← hR1, List.append_assoc, hT2, show i * 2 + 2 = (i + 1) * 2 by omega]
       rw [List.drop_left' (by rw [List.length_take]; omega), hC1l]
       congr 2; omega
      rw [e1, e2]
      simp [List.append_assoc]
     rw [← hW2, ← e]
     exact setRow_heap _ g _ _ 40 _ hg1, by
     rw [← hW2, ← hW1]
     refine ⟨rfl, rfl, rfl, by simp [World.setRow], fun k hk hkn => ?_⟩
     rw [setRow_other _ _ _ _ (fun q => hkn (by rw [q])), setRow_other _ _ _ _ (fun q => hkn (by rw [q]))]; rfl⟩
 have hmin : Nat.min (n + 1 - i) (n - i) = n - i := Nat.min_eq_right (by omega)
 clear hg1 hv1 hW1 hW2 hR1 hgd hsa hsb hfa hfe hv' hg hv hR1l hC1o hC1l hC1
 rw [hC1d]
 clear hC1d
 go_enter Tryz.func129, Tryz.ntmps129
 go_wp2
 rw [run_callFunc_extern Tryz.func133 (by kernel_rfl) (by kernel_rfl) (by kernel_rfl) (e := Extern.SlicesOverlaps.overlaps #[139, 139] #[4]) (by kernel_rfl), hov]
 simp only [Result.andThen]
 rw [Oper.upon_value]
 go_upto_region 15 with fail
 refine wp_region_gate (fun _ => True) 8 (by kernel_rfl) ?_
 have hS : (fun _ : World => True) w.drew := trivial
 refine gaA 0 _ hS ?_
 simp only [Act.put, gA, gS, gZ, sI, sZ, sS]
 refine gaA 1 _ hS ?_
 simp only [Act.put, gA, gS, gZ, sI, sZ, sS]
 refine gaA 2 _ hS ?_
 simp only [Act.put, gA, gS, gZ, sI, sZ, sS]
 refine ga 3 (.int .i64 ((i : Int) + 1)) hS ?_ ?_
 · intro _; go_simp
 simp only [Act.put, gA, gS, gZ, sI, sZ, sS]
 refine ga 4 (.slice (some ⟨g, (i + 1) * 2, none⟩) (n - i) (c - (i + 1))) hS ?_ ?_
 · intro _; go_simp
 simp only [Act.put, gA, gS, gZ, sI, sZ, sS]
 refine gaA 5 _ hS ?_
 simp only [Act.put, gA, gS, gZ, sI, sZ, sS]
 refine gaA 6 _ hS ?_
 simp only [Act.put, gA, gS, gZ, sI, sZ, sS]
 refine ga 7 (.slice (some ⟨g, i * 2, none⟩) (n + 1 - i) (c - i)) hS ?_ ?_
 · intro _; go_simp
 simp only [Act.put, gA, gS, gZ, sI, sZ, sS]
 refine wpAnyG_one (i := 8) rfl (by kernel_rfl) (by kernel_rfl) (fun K hK => ?_)
 refine wpx_copy (.tmp 73) (.tmp 76) 139 139 rfl (.slice (some ⟨g, (i + 1) * 2, none⟩) (n - i) (c - (i + 1))) (.slice (some ⟨g, i * 2, none⟩) (n + 1 - i) (c - i)) _ W1 rfl rfl hcp1 ?_
 refine hK.out _ _ (fun h => absurd (show true = false from h) (by decide)) ?_
 clear hK K
 try simp only [Act.put, gA, gS, gZ, sI, sZ, sS]
 refine wpAnyG_done (by kernel_rfl) ?_ _
 clear hS hcp1 hov
 go_wp2_with (refine wpList_plain rfl fun _ hK => ?_; refine wpx_copy (.tmp 80) (.tmp 81) 139 139 rfl (.slice (some ⟨g, i * 2, none⟩) (n + 1 - i) (c - i)) (.slice (some ⟨gv, 0, none⟩) 1 1) _ W2 rfl rfl hcp2 ?_; refine hK _ _ ?_)
 go_ret
 exact ⟨rfl, HF.out⟩
abbrev dotZc : Array Value := #[.int .u8 0, .int .u32 0]
set_option maxHeartbeats 1000000 in
theorem run_app_zeros2 (w : World) (ty : TypeId) (g i c k : Nat) (pre : List Value) (hpre : pre.length = i * 2) (hsrc : ∀ j u, pre[j]? = some u → w.cell? ⟨g, j, none⟩ = some u) (hroom : c < i + k) (hk : i + k ≤ 1000000) (hk0 : 0 < k) :
    (Builtin.append_ #[139, 3] ty #[.slice (some ⟨g, 0, none⟩) i c, .int .i64 (k : Nat)]).run Tryz.prog w = .ok (.slice (some ⟨w.heap.size, 0, none⟩) (i + k) (grownCap w (i + k) c 40)) (w.drew.alloc (.cells (pre.toArray ++ Builtin.zeroCells dotZc k ++ Builtin.zeroCells dotZc (grownCap w (i + k) c 40 - (i + k))) 40)) := by
 obtain ⟨i0, hi, hz0, hz1, hz2⟩ := info_parts infoD2
 have hzc : (Value.agg #[.int .u8 0, .int .u32 0]).cells = dotZc := rfl
 have hai : ∀ wx, (asInt (.int .i64 (k : Nat))).run Tryz.prog wx = .ok (k : Int) wx := fun wx => by simp [asInt, asIntOf]
 have hwk : IntKind.i64.wrap (k : Int) = (k : Int) := by rw [IntKind.wrap_i64]; omega
 have hnr : ¬ (i + k ≤ c) := by omega
 have hfo := run_firstCells_some (P := Tryz.prog) w.drew 2 i ⟨g, 0, none⟩ i c pre hpre (fun j u hu => by rw [addF_mid, Nat.zero_add]; exact hsrc j u hu)
 have h63' : ¬ (9223372036854775807 < ((i : Int) + (k : Int))) := by omega
 have h63b : ¬ (9223372036854775807 < ((i : Int) + max (k : Int) 0)) := by omega
 have hfit := growslice_fits (need := i + k) (old := c) (bytes := 8) hroom (by omega)
 have h48' : ¬ (281474976710656 < Builtin.nextslicecap (i + k) c * 8) := by omega
 have hkn : ¬ ((k : Int) < 0) := by omega
 have hk8 : ¬ (281474976710656 < (k : Int) * 8) := by omega
 have hk2 : ¬ (k * 2 = 0) := by omega
 have hk3 : ¬ (k = 0) := by omega
 simp [Builtin.append_, run_underlying Tryz.underlying139, run_underlying Tryz.underlying3, sizeOf, typeInfo, zeroValue, hi, hz0, hz1, hz2, hai, hwk, hzc, hnr, h63', h63b, h48', hkn, hk8, hk2, hk3, Question.forced, hfo, newRow, grownCap]
theorem zeroC_list (k : Nat) : ∃ Z : List Value, Builtin.zeroCells dotZc k = Z.toArray ∧ Z.length = k * 2 := ⟨(Builtin.zeroCells dotZc k).toList, by simp, by simp [size_zeroCells]⟩
set_option maxHeartbeats 8000000 in
theorem insD_grow (g n i : Nat) (cur : List Value) (T : List Value) (gv : Nat) (w : World) (hg : w.heap[g]? = some (.cells cur.toArray 40 (0, 0))) (hcur : cur.length = n * 2) (hin : i < n) (hT2 : T.length = 2) (hT1 : ∀ u ∈ T, u.oneCell' = true) (hC1 : ∀ u ∈ cur, u.oneCell' = true) (hv : CellsAt w gv 40 T) (hlen : n ≤ 100000) :
    Calls Tryz.prog 129 #[.slice (some ⟨g, 0, none⟩) n n, .int .i64 (i : Nat), .slice (some ⟨gv, 0, none⟩) 1 1] w fun e w' => ∃ q, e = .returned (.slice (some ⟨w.heap.size, 0, none⟩) (n + 1) q) ∧ (∃ R : List Value, w'.heap[w.heap.size]? = some (.cells R.toArray 40 (0, 0)) ∧ R.length = q * 2 ∧ R.take ((n + 1) * 2) = cur.take (i * 2) ++ T ++ cur.drop (i * 2)) ∧ n + 1 ≤ q ∧ q ≤ maxLen ∧ Below w.heap.size w w' := by
 have uS := Tryz.underlying139
 have hvl := hv.lt
 have hgl : g < w.heap.size := (Array.getElem?_eq_some_iff.1 hg).1
 have hpl : (cur.take (i * 2)).length = i * 2 := by rw [List.length_take]; omega
 have happ := run_app_zeros2 w 139 g i n (n + 1 - i) (cur.take (i * 2)) hpl (fun j u hu => by
  rw [World.cell?, hg]
  rw [List.getElem?_take] at hu
  split at hu
  · simpa using hu
  · cases hu) (by omega) (by omega) (by omega)
 have hq1 := grownCap_ge w (i + (n + 1 - i)) n 40
 have hq2 : grownCap w (i + (n + 1 - i)) n 40 ≤ maxLen := grownCap_le_maxLen w (i + (n + 1 - i)) n 40 (by simp only [maxLen]; omega)
 rw [show i + (n + 1 - i) = n + 1 by omega] at happ hq1 hq2
 obtain ⟨q, hq⟩ : ∃ q, grownCap w (n + 1) n 40 = q := ⟨_, rfl⟩
 rw [hq] at happ hq1 hq2
 obtain ⟨Z1, hZ1, hZ1l⟩ := zeroC_list (n + 1 - i)
 obtain ⟨Z2, hZ2, hZ2l⟩ := zeroC_list (q - (n + 1))
 rw [hZ1, hZ2, List.append_toArray, List.append_toArray] at happ
 obtain ⟨R0, hR0⟩ : ∃ R, cur.take (i * 2) ++ Z1 ++ Z2 = R := ⟨_, rfl⟩
 rw [hR0] at happ
 have hR0l : R0.length = q * 2 := by rw [← hR0]; simp [hpl, hZ1l, hZ2l]; omega
 have hR0t : R0.take (i * 2) = cur.take (i * 2) := by rw [← hR0, List.append_assoc, List.take_left' hpl]
 obtain ⟨W1, hW1⟩ : ∃ W, w.drew.alloc (.cells R0.toArray 40) = W := ⟨_, rfl⟩
 rw [hW1] at happ
 have hB1 : Below w.heap.size w W1 := by rw [← hW1]; exact ((Below.refl _ _).drew).alloc (Nat.le_refl _) _
 have hg1 : W1.heap[w.heap.size]? = some (.cells R0.toArray 40 (0, 0)) := by rw [← hW1]; exact heap_alloc_new w.drew _
 have hv1 := hv.farM hB1
 have hcp1 := run_copy_two (P := Tryz.prog) W1 139 139 3 40 w.heap.size (i * 2) (n + 1 - i) (q - i) ⟨gv, 0, none⟩ 1 1 R0.toArray 40 T uS sizeDot hg1 (by rw [hT2, show Nat.min 1 (n + 1 - i) = 1 from Nat.min_eq_left (by omega)]) (fun j u hu => by
     rw [addF_mid, Nat.zero_add]
     exact (hv1.cell j).trans hu) (by simp [hT2, hR0l]; omega) hT1
 obtain ⟨R1, hR1⟩ : ∃ R, R0.take (i * 2) ++ T ++ R0.drop (i * 2 + T.length) = R := ⟨_, rfl⟩
 obtain ⟨W2, hW2⟩ : ∃ W, W1.setRow w.heap.size (R0.toArray.toList.take (i * 2) ++ T ++ R0.toArray.toList.drop (i * 2 + T.length)).toArray = W := ⟨_, rfl⟩
 rw [hW2] at hcp1
 have hg2 : W2.heap[w.heap.size]? = some (.cells R1.toArray 40 (0, 0)) := by rw [← hW2, ← hR1]; exact setRow_heap _ _ _ _ 40 _ hg1
 have hB2 : Below w.heap.size w W2 := by rw [← hW2]; exact below_setRow hB1 (Nat.le_refl _) _
 have hR1l : R1.length = q * 2 := by rw [← hR1]; simp [hT2, hR0l]; omega
 have hg2d : W2.drew.heap[w.heap.size]? = some (.cells R1.toArray 40 (0, 0)) := hg2
 obtain ⟨C1, hC1d⟩ : ∃ C, cur.drop (i * 2) = C := ⟨_, rfl⟩
 have hC1l : C1.length = (n - i) * 2 := by rw [← hC1d, List.length_drop]; omega
 have hC1o : ∀ u ∈ C1, u.oneCell' = true := fun u hu => hC1 u (by rw [← hC1d] at hu; exact List.mem_of_mem_drop hu)
 have hgW : W2.drew.heap[g]? = some (.cells cur.toArray 40 (0, 0)) := (hB2.block g hgl).trans hg
 have hcp2 := run_copy_two (P := Tryz.prog) W2.drew 139 139 3 40 w.heap.size ((i + 1) * 2) (n - i) (q - (i + 1)) ⟨g, i * 2, none⟩ (n - i) (n - i) R1.toArray 40 C1 uS sizeDot hg2d (by rw [hC1l]; congr 1; exact (Nat.min_self _).symm) (fun j u hu => by
     rw [addF_mid, World.cell?, hgW]
     rw [← hC1d, List.getElem?_drop] at hu
     simpa using hu) (by simp [hC1l, hR1l]; omega) hC1o
 obtain ⟨R2, hR2⟩ : ∃ R, R1.take ((i + 1) * 2) ++ C1 ++ R1.drop ((i + 1) * 2 + C1.length) = R := ⟨_, rfl⟩
 obtain ⟨W3, hW3⟩ : ∃ W, W2.drew.setRow w.heap.size (R1.toArray.toList.take ((i + 1) * 2) ++ C1 ++ R1.toArray.toList.drop ((i + 1) * 2 + C1.length)).toArray = W := ⟨_, rfl⟩
 rw [hW3] at hcp2
 have HF : Veil ((∃ R : List Value, W3.heap[w.heap.size]? = some (.cells R.toArray 40 (0, 0)) ∧ R.length = q * 2 ∧ R.take ((n + 1) * 2) = cur.take (i * 2) ++ T ++ C1) ∧ n + 1 ≤ q ∧ q ≤ maxLen ∧ Below w.heap.size w W3) := by
  refine ⟨⟨R2, by rw [← hW3, ← hR2]; exact setRow_heap _ _ _ _ 40 _ hg2d, by rw [← hR2]; simp [hC1l, hR1l]; omega, ?_⟩, hq1, hq2, by rw [← hW3]; exact below_setRow hB2.drew (Nat.le_refl _) _⟩
  have e1 : R1.take ((i + 1) * 2) = cur.take (i * 2) ++ T := by rw [← hR1, hR0t, List.take_left' (by rw [List.length_append, hpl, hT2]; omega)]
  rw [← hR2, e1, List.take_left' (by rw [List.length_append, List.length_append, hpl, hT2, hC1l]; omega)]
 have hi0 : (0 : Int) ≤ (i : Int) := by omega
 have hii : (i : Int) ≤ (n : Int) := by omega
 have hnb : ((i : Int) == (n : Int)) = false := by simp; omega
 have hw1 : IntKind.i64.wrap ((n : Int) + 1) = (n : Int) + 1 := by rw [IntKind.wrap_i64]; omega
 have hw2 : IntKind.i64.wrap ((i : Int) + 1) = (i : Int) + 1 := by rw [IntKind.wrap_i64]; omega
 have hwk : IntKind.i64.wrap ((n : Int) + 1 - (i : Int)) = ((n + 1 - i : Nat) : Int) := by rw [IntKind.wrap_i64]; omega
 have hnn : ¬ i = n := by omega
 have hcc : ¬ n = i := by omega
 have hqq : ¬ q = i := by omega
 have hqq2 : ¬ q = i + 1 := by omega
 have hneg1 : ((i : Int) + 1 < 0) = False := by simp; omega
 have hneg2 : ((n : Int) + 1 < (i : Int)) = False := by simp; omega
 have hneg3 : ((n : Int) < (i : Int)) = False := by simp; omega
 have hin2 : (i : Int) + 1 ≤ (n : Int) + 1 := by omega
 have hin3 : (i : Int) ≤ (n : Int) + 1 := by omega
 clear hg1 hg2 hg2d hgW hW1 hW2 hW3 hR0 hR1 hR2 hB1 hB2 hv1 hv hg hR0t hR0l hR1l hZ1 hZ2 hZ1l hZ2l hq hC1o hC1l hC1 hpl
 rw [hC1d]
 clear hC1d
 go_enter Tryz.func129, Tryz.ntmps129
 go_upto_region 11 with (first
  | (refine wpList_plain rfl fun _ hK => ?_; refine wpx_copy (.tmp 43) (.tmp 44) 139 139 rfl (.slice (some ⟨w.heap.size, i * 2, none⟩) (n + 1 - i) (q - i)) (.slice (some ⟨gv, 0, none⟩) 1 1) _ W2 rfl rfl hcp1 ?_; refine hK _ _ ?_)
  | (refine wpList_appx rfl (.tmp 34) (.tmp 39) 139 3 rfl (.slice (some ⟨g, 0, none⟩) i n) (.int .i64 ((n + 1 - i : Nat) : Int)) _ W1 rfl rfl happ ?_))
 simp only [Act.put, gA, gS, gZ, sI, sZ, sS]
 clear happ hcp1
 refine wp_region_gate (fun _ => True) 8 (by kernel_rfl) ?_
 have hS : (fun _ : World => True) W2.drew := trivial
 refine gaA 0 _ hS ?_
 simp only [Act.put, gA, gS, gZ, sI, sZ, sS]
 refine gaA 1 _ hS ?_
 simp only [Act.put, gA, gS, gZ, sI, sZ, sS]
 refine gaA 2 _ hS ?_
 simp only [Act.put, gA, gS, gZ, sI, sZ, sS]
 refine ga 3 (.int .i64 ((i : Int) + 1)) hS ?_ ?_
 · intro _; go_simp
 simp only [Act.put, gA, gS, gZ, sI, sZ, sS]
 refine ga 4 (.slice (some ⟨w.heap.size, (i + 1) * 2, none⟩) (n - i) (q - (i + 1))) hS ?_ ?_
 · intro _; go_simp
 simp only [Act.put, gA, gS, gZ, sI, sZ, sS]
 refine gaA 5 _ hS ?_
 simp only [Act.put, gA, gS, gZ, sI, sZ, sS]
 refine gaA 6 _ hS ?_
 simp only [Act.put, gA, gS, gZ, sI, sZ, sS]
 refine ga 7 (.slice (some ⟨g, i * 2, none⟩) (n - i) (n - i)) hS ?_ ?_
 · intro _; go_simp
 simp only [Act.put, gA, gS, gZ, sI, sZ, sS]
 refine wpAnyG_one (i := 8) rfl (by kernel_rfl) (by kernel_rfl) (fun K hK => ?_)
 refine wpx_copy (.tmp 50) (.tmp 53) 139 139 rfl (.slice (some ⟨w.heap.size, (i + 1) * 2, none⟩) (n - i) (q - (i + 1))) (.slice (some ⟨g, i * 2, none⟩) (n - i) (n - i)) _ W3 rfl rfl hcp2 ?_
 refine hK.out _ _ (fun h => absurd (show true = false from h) (by decide)) ?_
 clear hK K
 try simp only [Act.put, gA, gS, gZ, sI, sZ, sS]
 refine wpAnyG_done (by kernel_rfl) ?_ _
 clear hS hcp2
 go_wp2
 go_ret
 exact ⟨q, rfl, HF.out⟩
theorem flat_take {k : Nat} (L : List (List Value)) (hL : ∀ c ∈ L, c.length = k) (i : Nat) : (L.take i).flatten = L.flatten.take (i * k) := by
 induction L generalizing i with
 | nil => simp
 | cons e L ih =>
  have he : e.length = k := hL e (by simp)
  cases i with
  | zero => simp
  | succ i =>
   rw [List.take_succ_cons, List.flatten_cons, List.flatten_cons, ih (fun c hc => hL c (by simp [hc])), show (i + 1) * k = e.length + i * k by rw [he, Nat.add_mul]; omega, List.take_length_add_append]
theorem flat_drop {k : Nat} (L : List (List Value)) (hL : ∀ c ∈ L, c.length = k) (i : Nat) : (L.drop i).flatten = L.flatten.drop (i * k) := by
 have h1 := flat_take L hL i
 have h2 : (L.take i).flatten ++ (L.drop i).flatten = L.flatten := by rw [← List.flatten_append, List.take_append_drop]
 have h3 : (L.take i).flatten ++ L.flatten.drop (i * k) = L.flatten := by rw [h1, List.take_append_drop]
 exact List.append_cancel_left (h2.trans h3.symm)
theorem insD_any (base : Nat) (x : Option Addr) (n c i : Nat) (L : List (List Value)) (T : List Value) (gv : Nat) (w : World) (hO : OwnI w base 40 2 (.slice x n c) L) (hi : i ≤ n) (hL1 : ∀ e ∈ L, ∀ u ∈ e, u.oneCell' = true) (hT2 : T.length = 2) (hT1 : ∀ u ∈ T, u.oneCell' = true) (hg : CellsAt w gv 40 T) (hne : (Value.slice x n c).ownBlock ≠ some gv) (hbase : base ≤ w.heap.size) (hlen : n ≤ 100000) :
    Calls Tryz.prog 129 #[.slice x n c, .int .i64 (i : Nat), .slice (some ⟨gv, 0, none⟩) 1 1] w fun e w' => ∃ v', e = .returned v' ∧ InsP base (.slice x n c) w (L.take i ++ [T] ++ L.drop i) v' w' := by
 have hnL : n = L.length := by
  obtain ⟨y, d, e⟩ := hO.isSlice
  injection e
 have hflat1 : ∀ u ∈ L.flatten, u.oneCell' = true := fun u hu => by
  obtain ⟨e, he, hu⟩ := List.mem_flatten.1 hu
  exact hL1 e he u hu
 have hnew : ∀ e ∈ L.take i ++ [T] ++ L.drop i, e.length = 2 := fun e he => by
  rcases List.mem_append.1 he with he | he
  · rcases List.mem_append.1 he with he | he
    · exact hO.each e (List.mem_of_mem_take he)
    · rw [List.mem_singleton.1 he]; exact hT2
  · exact hO.each e (List.mem_of_mem_drop he)
 have hnl : (L.take i ++ [T] ++ L.drop i).length = n + 1 := by
  simp only [List.length_append, List.length_take, List.length_drop, List.length_singleton]; omega
 have hnf : (L.take i ++ [T] ++ L.drop i).flatten = L.flatten.take (i * 2) ++ T ++ L.flatten.drop (i * 2) := by
  rw [List.flatten_append, List.flatten_append, flat_take L hO.each, flat_drop L hO.each]; simp
 have hfl : L.flatten.length = n * 2 := by rw [flat_len L hO.each, hnL]
 have hnfl := flat_len _ hnew
 have hc : n ≤ c := by
  rcases hO.own.2 with ⟨h1, h0⟩ | ⟨g, cap, cur, h1, _, _, h4, _⟩
  · omega
  · injection h1 with _ _ h1; omega
 by_cases hin : i = n
 · subst hin
   rw [List.take_of_length_le (by omega), List.drop_of_length_le (by omega), List.append_nil]
   exact insD_end base x i c L T gv w hO hnL.symm hc hT2 hT1 hg hbase hlen
 · rcases hO.own.2 with ⟨h1, h0⟩ | ⟨g, cap, cur, h1, hb, hgc, h4, h5, h6, h7⟩
   · omega
   · injection h1 with hx _ hcc
     subst hx hcc
     have hcl : cur.toList.length = c * 2 := by rw [Array.length_toList]; exact h6
     rw [← hnL] at h7
     have hgn : gv ≠ g := fun e => hne (by rw [e]; rfl)
     have hgc' : w.heap[g]? = some (.cells cur.toList.toArray 40 (0, 0)) := by rw [Array.toArray_toList]; exact hgc
     by_cases hroom : n + 1 ≤ c
     · refine (insD_room g n c i cur.toList T gv w hgc' hcl (by omega) hroom hT2 hT1 (by rw [h7]; exact hflat1) hg hgn h5).mono ?_
       rintro e w' ⟨he, hh, hgr⟩
       refine ⟨_, he, ⟨⟨?_, .inr ⟨g, c, _, by rw [hnl], hb, hh, by rw [hnl]; exact hroom, h5, ?_, ?_⟩⟩, hnew⟩, hgr, .inl rfl⟩
       · exact hnfl
       · simp only [List.size_toArray, List.length_append, List.length_take, List.length_drop, hcl, hT2]; omega
       · rw [hnl, hnf, ← h7]
         simp only [List.toList_toArray]
         rw [List.take_left' (by simp only [List.length_append, List.length_take, List.length_drop, hcl, hT2]; omega), List.take_take, List.drop_take, Nat.min_eq_left (by omega), show n * 2 - i * 2 = (n - i) * 2 by omega, List.append_assoc]
     · obtain rfl : c = n := by omega
       have h8 : cur.toList = L.flatten := by rw [← h7]; exact (List.take_of_length_le (by omega)).symm
       refine (insD_grow g c i cur.toList T gv w hgc' hcl (by omega) hT2 hT1 (by rw [h8]; exact hflat1) hg hlen).mono ?_
       rintro e w' ⟨q, he, ⟨R, hh, hRl, hRt⟩, hq1, hq2, hB⟩
       refine ⟨_, he, ⟨⟨?_, .inr ⟨w.heap.size, q, _, by rw [hnl], hbase, hh, by rw [hnl]; exact hq1, hq2, ?_, ?_⟩⟩, hnew⟩, ⟨hB.os, hB.tape, hB.output, hB.size, fun k hk _ => hB.block k hk⟩, .inr ⟨_, rfl, Nat.le_refl _⟩⟩
       · exact hnfl
       · simpa using hRl
       · rw [hnl, hnf, ← h8]; exact hRt
end Go.Proofs.YtmbdohnmbkpfaaaGreat
