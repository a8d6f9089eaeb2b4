/- Fg16 Cv2 Eve -/
import Derived.Test.YtgmbmdmbnpkbbaaM18
import Derived.Test.YtgmbmdmbnpkbbaaM02
import Derived.Test.YtgmbmdmbnpkbbaaM13
import Derived.Test.YtgmbmdmbnpkbbaaM08
namespace Go.Proofs.Ytgmbmdmbnpkbbaa
open Go.RowKit Go.Shelf
set_option maxRecDepth 20000
set_option linter.unusedSimpArgs false
def gone (x : Int × Int) (n : Nd) : Nd := if n.id = x then { n with chr := 0 } else n
def delN (N : List Nd) (x : Int × Int) : List Nd := N.map (gone x)
theorem gone_id (x : Int × Int) (n : Nd) : (gone x n).id = n.id := by unfold gone; split <;> rfl
theorem gone_side (x : Int × Int) (n : Nd) : (gone x n).side = n.side := by unfold gone; split <;> rfl
theorem delN_ids (N : List Nd) (x : Int × Int) : (delN N x).map (·.id) = N.map (·.id) := by
  unfold delN
  rw [List.map_map]
  exact List.map_congr_left fun n _ => gone_id x n
theorem delN_len (N : List Nd) (x : Int × Int) : (delN N x).length = N.length := List.length_map _
theorem kids_delN (N : List Nd) (x : Int × Int) (s : (Int × Int) × Bool) : kids (delN N x) s = kids N s := by
  unfold kids delN
  rw [List.foldl_map]
  simp only [gone_id, gone_side]
theorem Rooted.del {N : List Nd} (h : Rooted N) (x : Int × Int) : Rooted (delN N x) where
  nodup := by rw [delN_ids]; exact h.nodup
  id := fun m hm => by
    obtain ⟨n, hn, rfl⟩ := List.mem_map.1 hm
    rw [gone_id]; exact h.id n hn
  above := fun j hj => by
    have e : ∀ k (hk : k < (delN N x).length), (delN N x)[k] = gone x (N[k]'(by rw [delN_len] at hk; exact hk)) := fun k hk => List.getElem_map _
    rw [e j hj, gone_side]
    rcases h.above j (by rw [delN_len] at hj; exact hj) with q | ⟨i, hi, q⟩
    · exact .inl q
    · exact .inr ⟨i, hi, by rw [e, gone_id]; exact q⟩
theorem TreeOk.del {N : List Nd} (h : TreeOk N) (x : Int × Int) : TreeOk (delN N x) where
  rooted := h.rooted.del x
  right := fun m hm => by
    obtain ⟨n, hn, rfl⟩ := List.mem_map.1 hm
    rw [gone_side]; exact h.right n hn
theorem walk_delN {N : List Nd} (h : Rooted N) (x : Int × Int) (s : (Int × Int) × Bool) : walkA (delN N x) s = walkA N s := walk_same (h.del x) h (kids_delN N x) s
theorem chrN_del (N : List Nd) (x y : Int × Int) : chrN (delN N x) y = if y = x then (chrN N x).map (fun _ => 0) else chrN N y := by
  unfold chrN delN
  rw [List.find?_map]
  have : ((fun n : Nd => decide (n.id = y)) ∘ gone x) = fun n : Nd => decide (n.id = y) := by funext n; simp [gone_id]
  rw [this]
  split
  · next e =>
    subst e
    cases hq : N.find? (fun n => decide (n.id = y)) with
    | none => rfl
    | some n =>
      have := List.find?_some hq
      simp only [Option.map_some]
      unfold gone
      rw [if_pos (by simpa using this)]
  · next e =>
    cases hq : N.find? (fun n => decide (n.id = y)) with
    | none => rfl
    | some n =>
      have := List.find?_some hq
      simp only [Option.map_some]
      unfold gone
      rw [if_neg (fun q => e (by have h2 : n.id = y := (by simpa using this); exact h2.symm.trans q))]
theorem chrM_del (N : List Nd) (x : Int × Int) (h : (chrN N x).isSome = true) : putG (chrM N) x (.int .u8 0) = chrM (delN N x) := by
  funext y
  unfold putG chrM
  rw [chrN_del]
  by_cases e : y = x
  · subst e
    cases hq : chrN N y with
    | none => rw [hq] at h; cases h
    | some c => simp
  · simp [e]
theorem sideM_del (N : List Nd) (x : Int × Int) (V : (Int × Int) × Bool → Value) : sideM (delN N x) V = sideM N V := by
  funext s
  unfold sideM
  rw [kids_delN]
theorem TreeAt.del {w w' : World} {base R bc bn : Nat} {N : List Nd} {V : (Int × Int) × Bool → Value} (h : TreeAt w base R bc bn N V) (x : Int × Int) (hM : MapX Try.prog 26 encDF okDF w' bc N.length (chrM (delN N x))) (hk : ∀ k, k < w.heap.size → k ≠ bc → w'.heap[k]? = w.heap[k]?) : TreeAt w' base R bc bn (delN N x) V where
  box := h.box.congr (hk R h.box.lt (fun e => h.chars.g.cellsNe h.box e.symm))
  chars := by rw [delN_len]; exact hM
  nodes := by rw [delN_len, sideM_del]; exact h.nodes.congr (hk bn h.nodes.lt (Ne.symm h.ne))
  sides := ⟨fun s hs => by rw [kids_delN]; exact (h.sides.own s hs).congr fun g hg => hk g ((h.sides.own s hs).blockLt g hg).1 (fun e => (h.sides.far s hs).2.1 (e ▸ hg)), h.sides.apart, h.sides.far⟩
  empty := fun s hs hq => h.empty s hs (by rw [kids_delN] at hq; exact hq)
  nodup := by rw [delN_ids]; exact h.nodup
  okId := fun m hm => by
    obtain ⟨n, hn, rfl⟩ := List.mem_map.1 hm
    rw [gone_id, gone_side]; exact h.okId n hn
  okChr := fun m hm => by
    obtain ⟨n, hn, rfl⟩ := List.mem_map.1 hm
    have := h.okChr n hn
    unfold gone
    split
    · exact ⟨by show (0 : Int) ≤ 0; decide, by show (0 : Int) ≤ 127; decide⟩
    · exact this
  ne := h.ne
theorem delN_none {N : List Nd} {x : Int × Int} (h : (chrN N x).isSome = false) : delN N x = N := by
  unfold delN
  conv => rhs; rw [← List.map_id N]
  refine List.map_congr_left fun n hn => ?_
  unfold gone
  rw [if_neg (chrN_fresh h n hn)]; rfl
set_option maxHeartbeats 4000000 in
theorem delT_any (base R bc bn : Nat) (N : List Nd) (V : (Int × Int) × Bool → Value) (x : Int × Int) (hx : okDF x) (hlen : N.length ≤ 1000) (w : World) (hT : TreeAt w base R bc bn N V) :
    Calls Try.prog 68 #[.pointer (some ⟨R, 0, none⟩), .agg (encF x).toArray] w fun e w' => e = .returned (.int .i64 (if (chrN N x).isSome = true then 0 else 7)) ∧ TreeAt w' base R bc bn (delN N x) V ∧ TreeTo R bc bn V V w w' := by
  have hd0 := CellsAt.new w 26 (encF x)
  have hB : Below w.heap.size w (w.alloc (.cells (encF x).toArray 26)) := (Below.refl _ _).alloc (Nat.le_refl _) _
  have uD := Try.underlying26
  have iD : (Try.prog.info? 26).map (·.size) = some (encF x).length := sizeDot
  have HH : Veil (∀ W, Below w.heap.size w W → Calls Try.prog 71 #[.pointer (some ⟨R, 0, none⟩), .agg (encF x).toArray] W fun e w' => e = .returned (.bool (chrN N x).isSome) ∧ Below W.heap.size W w') := ⟨fun W h => hasT_any base R bc bn N V x hx W (hT.far h)⟩
  have HN : Veil ((chrN N x).isSome = false → ∀ W, Below w.heap.size w W → TreeAt W base R bc bn (delN N x) V ∧ TreeTo R bc bn V V w W) := ⟨fun h W hb => ⟨by rw [delN_none h]; exact hT.far hb, TreeTo.of_below hb⟩⟩
  have HS : Veil ((chrN N x).isSome = true → ∀ W, Below w.heap.size w W → W.cell? ⟨R, 0, none⟩ = some (.map (some bc)) ∧ ∃ W1, (Instr.mapUpdate 102 (.map (some bc)) (.agg (encF x).toArray) (.int .u8 0)).run Try.prog W = .ok () W1 ∧ TreeAt W1 base R bc bn (delN N x) V ∧ TreeTo R bc bn V V w W1) := ⟨fun h W hb => ⟨(hT.far hb).box.cell 0, by
    obtain ⟨W1, hrun, hM, hg⟩ := (hT.far hb).chars.store keyEncDF Try.underlying102 (by simp [maxLen]; omega) x hx (.int .u8 0)
    rw [chrM_some, h, chrM_del N x h] at hM
    refine ⟨W1, hrun, (hT.far hb).del x hM fun k hk hn => hg.block k hk (fun e => hn (Option.some.inj e)), (Turn.of_below hb).trans (Turn.of_grown hg fun k hk => .inr (.inl (Option.some.inj hk).symm)), fun k hk => .inl hk⟩⟩⟩
  generalize (chrN N x).isSome = IS at HH HN HS ⊢
  obtain ⟨DX, hDX⟩ : ∃ q, encF x = q := ⟨_, rfl⟩
  rw [hDX] at hd0 hB iD HH HS ⊢
  clear hDX hT hx hlen
  go_enter Try.func68, Try.ntmps68
  go_upto_region 3 with fail
  refine forget (p := fun y => Code.wp _ _ _ _ y) (fun W => Below w.heap.size w W ∧ CellsAt W w.heap.size 26 DX) ⟨hB, hd0⟩ ?_
  clear hB hd0
  rintro W ⟨hB, hd⟩
  have hr := hd.wholeM
  have hh := HH.out W hB
  have HF : Veil (∀ W1, Below W.heap.size W W1 → Below w.heap.size w W1 ∧ W1.rangeAt w.heap.size 0 DX) := ⟨fun W1 hb => ⟨hB.trans (hb.mono hB.size), (hd.farM hb).wholeM⟩⟩
  clear hB hd HH
  cases IS
  · go_wp2_with (first
      | (refine wpList_ldv rfl 26 (.tmp 3) rfl w.heap.size 0 rfl DX hr uD rfl iD ?_)
      | (go_at_call 71; refine hh.mono ?_; rintro z W1 ⟨rfl, h1⟩))
    go_ret
    exact ⟨rfl, HN.out trivial W1 (HF.out W1 h1).1⟩
  · go_upto_region 5 with (first
      | (refine wpList_ldv rfl 26 (.tmp 3) rfl w.heap.size 0 rfl DX hr uD rfl iD ?_)
      | (go_at_call 71; refine hh.mono ?_; rintro z W1 ⟨rfl, h1⟩))
    obtain ⟨hB1, r1⟩ := HF.out W1 h1
    obtain ⟨hc, W2, hrun, hE⟩ := HS.out trivial W1.drew hB1.drew
    have HE := Veil.mk hE
    clear hE hh hr h1 HF
    refine wp_region_gate (fun w' => w'.cell? ⟨R, 0, none⟩ = some (.map (some bc)) ∧ w'.rangeAt w.heap.size 0 DX) 5 (by kernel_rfl) ?_
    have hS : (fun w' : World => w'.cell? ⟨R, 0, none⟩ = some (.map (some bc)) ∧ w'.rangeAt w.heap.size 0 DX) W1.drew := ⟨hc, r1⟩
    clear hc
    refine wpAnyG_any (i := 0) (v := ?_) rfl (by kernel_rfl) (by kernel_rfl) (by kernel_rfl) (fun _ _ _ h => h) (by kernel_rfl) (fun _ => hS) (by kernel_rfl) ?_ ?_
    rotate_left
    · intro _; go_simp; try with_reducible rfl
    simp only [Act.put, List.getElem_toArray, List.getElem_cons_succ, List.getElem_cons_zero, List.setIfInBounds_toArray, List.set_cons_zero, List.set_cons_succ]
    refine wpAnyG_any (i := 1) (v := ?_) rfl (by kernel_rfl) (by kernel_rfl) (by kernel_rfl) (fun _ _ _ h => h) (by kernel_rfl) (fun _ => hS) (by kernel_rfl) ?_ ?_
    rotate_left
    · intro _; go_simp; try with_reducible rfl
    simp only [Act.put, List.getElem_toArray, List.getElem_cons_succ, List.getElem_cons_zero, List.setIfInBounds_toArray, List.set_cons_zero, List.set_cons_succ]
    refine wpAnyG_any (i := 2) (v := ?_) rfl (by kernel_rfl) (by kernel_rfl) (by kernel_rfl) (fun _ _ _ h => h) (by kernel_rfl) (fun _ => hS) (by kernel_rfl) ?_ ?_
    rotate_left
    · intro _; go_simp; try with_reducible rfl
    simp only [Act.put, List.getElem_toArray, List.getElem_cons_succ, List.getElem_cons_zero, List.setIfInBounds_toArray, List.set_cons_zero, List.set_cons_succ]
    refine wpAnyG_read (i := 3) (v := ?_) rfl (by kernel_rfl) (by kernel_rfl) (by kernel_rfl) (fun _ _ _ h => h) (by kernel_rfl) (by kernel_rfl) (by kernel_rfl) hS (by kernel_rfl) ?_ ?_
    rotate_left
    · intro wx hSw; go_split_ands; go_simp; try with_reducible rfl
    simp only [Act.put, List.getElem_toArray, List.getElem_cons_succ, List.getElem_cons_zero, List.setIfInBounds_toArray, List.set_cons_zero, List.set_cons_succ]
    refine wpAnyG_load (i := 4) (dst := some 15) (ty := 26) (x := .tmp 3) (b := w.heap.size) (o := (0)) (cs := DX) (by kernel_rfl) (by kernel_rfl) (by kernel_rfl) (by kernel_rfl) (by kernel_rfl) (fun _ _ _ h => h) (by kernel_rfl) (by kernel_rfl) (by kernel_rfl) hS (by kernel_rfl) (fun _ h => h.2) uD rfl iD ?_
    simp only [Act.put, List.getElem_toArray, List.getElem_cons_succ, List.getElem_cons_zero, List.setIfInBounds_toArray, List.set_cons_zero, List.set_cons_succ]
    refine wpAnyG_one (i := 5) rfl (by kernel_rfl) (by kernel_rfl) (fun K hK => ?_)
    refine wpx_upd _ _ _ _ rfl _ _ _ W2 rfl rfl rfl hrun ?_
    refine hK.out _ _ (fun h => absurd (show true = false from h) (by decide)) ?_
    clear hK K
    try simp only [Act.put, List.getElem_toArray, List.getElem_cons_succ, List.getElem_cons_zero, List.setIfInBounds_toArray, List.set_cons_zero, List.set_cons_succ]
    refine wpAnyG_done (by kernel_rfl) ?_ _
    clear hS hrun r1
    go_wp2
    go_ret
    exact ⟨rfl, HE.out⟩
theorem TreeAt.new {w : World} {R bc bn : Nat} (base : Nat) (hbox : CellsAt w R 105 [.map (some bc), .map (some bn)]) (hc : MapX Try.prog 26 encDF okDF w bc 0 (fun _ => none)) (hn : MapG Try.prog 95 encS okS w bn 0 (fun _ => none)) (hne : bc ≠ bn) : TreeAt w base R bc bn [] (fun _ => .slice none 0 0) where
  box := hbox
  chars := hc
  nodes := hn
  sides := ⟨fun s _ => OwnI.nil _ _ _ _, fun _ _ _ _ _ k hk => by simp [Value.ownBlock] at hk, fun _ _ => by simp [Value.ownBlock]⟩
  empty := fun _ _ _ => rfl
  nodup := List.nodup_nil
  okId := fun _ h => by simp at h
  okChr := fun _ h => by simp at h
  ne := hne
theorem newT_any (w : World) : Calls Try.prog 41 #[] w fun e w' => ∃ R bc bn, e = .returned (.pointer (some ⟨R, 0, none⟩)) ∧ TreeAt w' w.heap.size R bc bn [] (fun _ => .slice none 0 0) ∧ Below w.heap.size w w' ∧ w.heap.size ≤ R ∧ w.heap.size ≤ bc ∧ w.heap.size ≤ bn := by
  have hc := MapX.made (P := Try.prog) (kt := 26) (enc := encDF) (ok := okDF) w
  have hn := MapG.made (P := Try.prog) (kt := 95) (enc := encS) (ok := okS) (w.alloc (.map #[] 0))
  have hb := CellsAt.new ((w.alloc (.map #[] 0)).alloc (.map #[] 0)) 105 [.map (some w.heap.size), .map (some (w.heap.size + 1))]
  simp only [World.size_alloc] at hn hb
  have hB : Below w.heap.size w (((w.alloc (.map #[] 0)).alloc (.map #[] 0)).alloc (.cells #[.map (some w.heap.size), .map (some (w.heap.size + 1))] 105)) := (((Below.refl _ _).alloc (Nat.le_refl _) _).alloc (by simp) _).alloc (by simp; omega) _
  have HT : Veil (TreeAt (((w.alloc (.map #[] 0)).alloc (.map #[] 0)).alloc (.cells #[.map (some w.heap.size), .map (some (w.heap.size + 1))] 105)) w.heap.size (w.heap.size + 1 + 1) w.heap.size (w.heap.size + 1) [] (fun _ => .slice none 0 0)) := ⟨TreeAt.new _ hb ((hc.congr (Below.heap_alloc _ _ _ (by simp))).congr (Below.heap_alloc _ _ _ (by simp; omega))) (hn.congr (Below.heap_alloc _ _ _ (by simp))) (by omega)⟩
  have HB := Veil.mk hB
  have hmm := @run_makeMap Try.prog
  clear hc hn hb hB
  go_enter Try.func41, Try.ntmps41
  go_wp2
  go_ret
  exact ⟨_, _, _, rfl, HT.out, HB.out, by omega, by omega, by omega⟩
open Go.RowKit
def joinTo (a b : List Int) : Nat → List Int
  | 0 => a
  | n + 1 => (joinTo a b n).set n (if a[n]?.getD 0 < b[n]?.getD 0 then b[n]?.getD 0 else a[n]?.getD 0)
def joinV (a b : List Int) : List Int := joinTo a b 8
theorem joinTo_length (a b : List Int) : ∀ n, (joinTo a b n).length = a.length
  | 0 => rfl
  | n + 1 => by rw [joinTo, List.length_set, joinTo_length a b n]
theorem joinTo_above (a b : List Int) : ∀ n j, n ≤ j → (joinTo a b n)[j]?.getD 0 = a[j]?.getD 0
  | 0, _, _ => rfl
  | n + 1, j, h => by
    rw [joinTo, List.getElem?_set_ne (by omega), joinTo_above a b n j (by omega)]
theorem sizeV8 : (Try.prog.info? 28).map (·.size) = some 8 := by kernel_rfl
set_option maxHeartbeats 2000000 in
theorem cjoin_any (a b : List Int) (w : World) (ha : a.length = 8) (hb : b.length = 8) :
    Calls Try.prog 51 #[.agg (row .u32 a), .agg (row .u32 b)] w fun e w' => e = .returned (.agg (row .u32 (joinV a b))) ∧ Below w.heap.size w w' := by
  have hv0 := Holds.new w .u32 28 a
  have hd0 := Holds.new (w.alloc (.cells (row .u32 a) 28)) .u32 28 b
  rw [World.size_alloc] at hd0
  have hv1 := (hv0.alloc (.cells (row .u32 b) 28)).alloc (.cells (row .u32 [0, 0, 0, 0, 0, 0, 0, 0]) 28)
  have hd1 := hd0.alloc (.cells (row .u32 [0, 0, 0, 0, 0, 0, 0, 0]) 28)
  have hr1 := Holds.new ((w.alloc (.cells (row .u32 a) 28)).alloc (.cells (row .u32 b) 28)) .u32 28 [0, 0, 0, 0, 0, 0, 0, 0]
  rw [World.size_alloc, World.size_alloc] at hr1
  have hB : Below w.heap.size w (((w.alloc (.cells (row .u32 a) 28)).alloc (.cells (row .u32 b) 28)).alloc (.cells (row .u32 [0, 0, 0, 0, 0, 0, 0, 0]) 28)) := (((Below.refl _ _).alloc (Nat.le_refl _) _).alloc (by simp) _).alloc (by simp; omega) _
  have HL : Veil (∀ n, (joinTo a b n).length = 8) := ⟨fun n => by rw [joinTo_length]; exact ha⟩
  have HA : Veil (∀ n, (joinTo a b n)[n]?.getD 0 = a[n]?.getD 0) := ⟨fun n => joinTo_above a b n n (Nat.le_refl _)⟩
  have HBL : Veil (b.length = 8) := ⟨hb⟩
  clear hv0 hd0 ha hb
  go_enter Try.func51, Try.ntmps51
  go_wp2_with fail
  obtain ⟨Z, hZ⟩ : ∃ Z : List Int, Z = [0, 0, 0, 0, 0, 0, 0, 0] := ⟨_, rfl⟩
  have HZ : Veil (Z.length = 8) := ⟨by rw [hZ]; rfl⟩
  refine forget (p := fun y => Code.wp _ _ _ _ y) (fun W => Below w.heap.size w W ∧ Holds W w.heap.size .u32 28 a ∧ Holds W (w.heap.size + 1) .u32 28 b ∧ Holds W (w.heap.size + 1 + 1) .u32 28 Z) ⟨hB, hv1, hd1, by rw [hZ]; exact hr1⟩ ?_
  clear hB hv1 hd1 hr1 hZ
  rintro W ⟨hB, hv1, hd1, hr1⟩
  go_loopw [6] (fun i wr => ∃ k : Nat, k ≤ 8 ∧ i = .int .i64 k ∧ Below w.heap.size w wr ∧ Holds wr w.heap.size .u32 28 (joinTo a b k) ∧ Holds wr (w.heap.size + 1) .u32 28 b ∧ Holds wr (w.heap.size + 1 + 1) .u32 28 Z) (fun i _ => 8 - (intOf i).toNat)
  case atStart => exact ⟨0, by omega, rfl, hB, hv1, hd1, hr1⟩
  case round =>
    clear hB hv1 hd1 hr1
    obtain ⟨k, hk, rfl, hB, hv1, hd1, hr1⟩ := hrel
    by_cases hlt : k < 8
    · have c1 := hv1.cell k (by rw [HL.out]; exact hlt)
      have c2 := hd1.cell k (by rw [HBL.out]; exact hlt)
      have f1 := hv1.frozen k
      rw [HA.out] at c1
      have hki : (0 : Int) ≤ (k : Int) := by omega
      have hkl : (k : Int) < 8 := by omega
      have HS : Veil (joinTo a b (k + 1) = (joinTo a b k).set k (if a[k]?.getD 0 < b[k]?.getD 0 then b[k]?.getD 0 else a[k]?.getD 0)) := ⟨rfl⟩
      obtain ⟨p, hp⟩ : ∃ p, a[k]?.getD 0 = p := ⟨_, rfl⟩
      obtain ⟨q, hq⟩ : ∃ q, b[k]?.getD 0 = q := ⟨_, rfl⟩
      rw [hp] at c1 HS
      rw [hq] at c2 HS
      clear hp hq
      go_wp2_with fail
      go_region_with (fail)
      all_goals
        go_wp2
        go_roundw
        case rel => exact ⟨k + 1, by omega, by go_num, (hB.setCell (Nat.le_refl _) _).drew, by rw [HS.out]; exact (hv1.set k _).drew, (hd1.setOther _ _ (by simp)).drew, (hr1.setOther _ _ (by simp; omega)).drew⟩
        case measure => simp [intOf]; omega
    · obtain rfl : k = 8 := by omega
      have hz8 := HZ.out
      have hj8 := HL.out 8
      have HL8 : Veil ((joinTo a b 8).length = 8) := ⟨hj8⟩
      have HJ : Veil (joinV a b = joinTo a b 8) := ⟨rfl⟩
      obtain ⟨J, hJ⟩ : ∃ J, joinTo a b 8 = J := ⟨_, rfl⟩
      rw [hJ] at hv1 HJ hj8
      clear hJ HL HA HBL HL8
      go_wp2_with (first
        | (refine wpList_ld rfl 28 _ rfl _ rfl hv1 Try.underlying28 sizeV8 hj8 ?_)
        | (refine wpList_st rfl 28 _ _ rfl _ rfl rfl hr1 (by rw [hj8]; exact sizeV8) (by rw [hz8, hj8]) ?_))
      refine bodyPost_ret (results_holds (Try.results51) _ rfl (hr1.setRow _) Try.underlying28 sizeV8 hj8) rfl ⟨?_, ?_⟩
      · rw [HJ.out]
      · exact below_setRow hB (by omega) _
end Go.Proofs.Ytgmbmdmbnpkbbaa
