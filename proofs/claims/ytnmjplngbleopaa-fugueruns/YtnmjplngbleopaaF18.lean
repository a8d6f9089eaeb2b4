/- Fg16 -/
import Derived.Test.YtnmjplngbleopaaF17
namespace Go.Proofs.Ytnmjplngbleopaa
open Go.RowKit Go.Shelf
set_option maxRecDepth 20000
set_option linter.unusedSimpArgs false
def gone (x : Int × Int) (n : Nd) : Nd := if n.id = x then { n with chr := 0 } else n
def delN (N : List Nd) (x : Int × Int) : List Nd := N.map (gone x)
theorem gone_id (x : Int × Int) (n : Nd) : (gone x n).id = n.id := by unfold gone; split <;> rfl
theorem gone_side (x : Int × Int) (n : Nd) : (gone x n).side = n.side := by unfold gone; split <;> rfl
theorem delN_ids (N : List Nd) (x : Int × Int) : (delN N x).map (·.id) = N.map (·.id) := by
  unfold delN
  rw [List.map_map]
  exact List.map_congr_left fun n _ => gone_id x n
theorem delN_len (N : List Nd) (x : Int × Int) : (delN N x).length = N.length := List.length_map _
theorem kids_delN (N : List Nd) (x : Int × Int) (s : (Int × Int) × Bool) : kids (delN N x) s = kids N s := by
  unfold kids delN
  rw [List.foldl_map]
  simp only [gone_id, gone_side]
theorem Rooted.del {N : List Nd} (h : Rooted N) (x : Int × Int) : Rooted (delN N x) where
  nodup := by rw [delN_ids]; exact h.nodup
  id := fun m hm => by
    obtain ⟨n, hn, rfl⟩ := List.mem_map.1 hm
    rw [gone_id]; exact h.id n hn
  above := fun j hj => by
    have e : ∀ k (hk : k < (delN N x).length), (delN N x)[k] = gone x (N[k]'(by rw [delN_len] at hk; exact hk)) := fun k hk => List.getElem_map _
    rw [e j hj, gone_side]
    rcases h.above j (by rw [delN_len] at hj; exact hj) with q | ⟨i, hi, q⟩
    · exact .inl q
    · exact .inr ⟨i, hi, by rw [e, gone_id]; exact q⟩
theorem TreeOk.del {N : List Nd} (h : TreeOk N) (x : Int × Int) : TreeOk (delN N x) where
  rooted := h.rooted.del x
  right := fun m hm => by
    obtain ⟨n, hn, rfl⟩ := List.mem_map.1 hm
    rw [gone_side]; exact h.right n hn
theorem chrN_del (N : List Nd) (x y : Int × Int) : chrN (delN N x) y = if y = x then (chrN N x).map (fun _ => 0) else chrN N y := by
  unfold chrN delN
  rw [List.find?_map]
  have : ((fun n : Nd => decide (n.id = y)) ∘ gone x) = fun n : Nd => decide (n.id = y) := by funext n; simp [gone_id]
  rw [this]
  split
  · next e =>
    subst e
    cases hq : N.find? (fun n => decide (n.id = y)) with
    | none => rfl
    | some n =>
      have := List.find?_some hq
      simp only [Option.map_some]
      unfold gone
      rw [if_pos (by simpa using this)]
  · next e =>
    cases hq : N.find? (fun n => decide (n.id = y)) with
    | none => rfl
    | some n =>
      have := List.find?_some hq
      simp only [Option.map_some]
      unfold gone
      rw [if_neg (fun q => e (by have h2 : n.id = y := (by simpa using this); exact h2.symm.trans q))]
theorem chrM_del (N : List Nd) (x : Int × Int) (h : (chrN N x).isSome = true) : putG (chrM N) x (.int .u8 0) = chrM (delN N x) := by
  funext y
  unfold putG chrM
  rw [chrN_del]
  by_cases e : y = x
  · subst e
    cases hq : chrN N y with
    | none => rw [hq] at h; cases h
    | some c => simp
  · simp [e]
theorem sideM_del (N : List Nd) (x : Int × Int) (V : (Int × Int) × Bool → Value) : sideM (delN N x) V = sideM N V := by
  funext s
  unfold sideM
  rw [kids_delN]
theorem TreeAt.del {w w' : World} {base R bc bn : Nat} {N : List Nd} {V : (Int × Int) × Bool → Value} (h : TreeAt w base R bc bn N V) (x : Int × Int) (hM : MapX Try.prog 32 encDF okDF w' bc N.length (chrM (delN N x))) (hk : ∀ k, k < w.heap.size → k ≠ bc → w'.heap[k]? = w.heap[k]?) : TreeAt w' base R bc bn (delN N x) V where
  box := h.box.congr (hk R h.box.lt (fun e => h.chars.g.cellsNe h.box e.symm))
  chars := by rw [delN_len]; exact hM
  nodes := by rw [delN_len, sideM_del]; exact h.nodes.congr (hk bn h.nodes.lt (Ne.symm h.ne))
  sides := ⟨fun s hs => by rw [kids_delN]; exact (h.sides.own s hs).congr fun g hg => hk g ((h.sides.own s hs).blockLt g hg).1 (fun e => (h.sides.far s hs).2.1 (e ▸ hg)), h.sides.apart, h.sides.far⟩
  empty := fun s hs hq => h.empty s hs (by rw [kids_delN] at hq; exact hq)
  nodup := by rw [delN_ids]; exact h.nodup
  okId := fun m hm => by
    obtain ⟨n, hn, rfl⟩ := List.mem_map.1 hm
    rw [gone_id, gone_side]; exact h.okId n hn
  okChr := fun m hm => by
    obtain ⟨n, hn, rfl⟩ := List.mem_map.1 hm
    have := h.okChr n hn
    unfold gone
    split
    · exact ⟨by show (0 : Int) ≤ 0; decide, by show (0 : Int) ≤ 127; decide⟩
    · exact this
  ne := h.ne
theorem delN_none {N : List Nd} {x : Int × Int} (h : (chrN N x).isSome = false) : delN N x = N := by
  unfold delN
  conv => rhs; rw [← List.map_id N]
  refine List.map_congr_left fun n hn => ?_
  unfold gone
  rw [if_neg (chrN_fresh h n hn)]; rfl
set_option maxHeartbeats 4000000 in
theorem delT_any (base R bc bn : Nat) (N : List Nd) (V : (Int × Int) × Bool → Value) (x : Int × Int) (hx : okDF x) (hlen : N.length ≤ 1000) (w : World) (hT : TreeAt w base R bc bn N V) :
    Calls Try.prog 24 #[.pointer (some ⟨R, 0, none⟩), .agg (encF x).toArray] w fun e w' => e = .returned (.int .i64 (if (chrN N x).isSome = true then 0 else 7)) ∧ TreeAt w' base R bc bn (delN N x) V ∧ TreeTo R bc bn V V w w' := by
  have hd0 := CellsAt.new w 32 (encF x)
  have hB : Below w.heap.size w (w.alloc (.cells (encF x).toArray 32)) := (Below.refl _ _).alloc (Nat.le_refl _) _
  have uD := Try.underlying32
  have iD : (Try.prog.info? 32).map (·.size) = some (encF x).length := sizeDot
  have HH : Veil (∀ W, Below w.heap.size w W → Calls Try.prog 21 #[.pointer (some ⟨R, 0, none⟩), .agg (encF x).toArray] W fun e w' => e = .returned (.bool (chrN N x).isSome) ∧ Below W.heap.size W w') := ⟨fun W h => hasT_any base R bc bn N V x hx W (hT.far h)⟩
  have HN : Veil ((chrN N x).isSome = false → ∀ W, Below w.heap.size w W → TreeAt W base R bc bn (delN N x) V ∧ TreeTo R bc bn V V w W) := ⟨fun h W hb => ⟨by rw [delN_none h]; exact hT.far hb, TreeTo.of_below hb⟩⟩
  have HS : Veil ((chrN N x).isSome = true → ∀ W, Below w.heap.size w W → W.cell? ⟨R, 0, none⟩ = some (.map (some bc)) ∧ ∃ W1, (Instr.mapUpdate 48 (.map (some bc)) (.agg (encF x).toArray) (.int .u8 0)).run Try.prog W = .ok () W1 ∧ TreeAt W1 base R bc bn (delN N x) V ∧ TreeTo R bc bn V V w W1) := ⟨fun h W hb => ⟨(hT.far hb).box.cell 0, by
    obtain ⟨W1, hrun, hM, hg⟩ := (hT.far hb).chars.store keyEncDF Try.underlying48 (by simp [maxLen]; omega) x hx (.int .u8 0)
    rw [chrM_some, h, chrM_del N x h] at hM
    refine ⟨W1, hrun, (hT.far hb).del x hM fun k hk hn => hg.block k hk (fun e => hn (Option.some.inj e)), (Turn.of_below hb).trans (Turn.of_grown hg fun k hk => .inr (.inl (Option.some.inj hk).symm)), fun k hk => .inl hk⟩⟩⟩
  generalize (chrN N x).isSome = IS at HH HN HS ⊢
  obtain ⟨DX, hDX⟩ : ∃ q, encF x = q := ⟨_, rfl⟩
  rw [hDX] at hd0 hB iD HH HS ⊢
  clear hDX hT hx hlen
  go_enter Try.func24, Try.ntmps24
  go_upto_region 3 with fail
  refine forget (p := fun y => Code.wp _ _ _ _ y) (fun W => Below w.heap.size w W ∧ CellsAt W w.heap.size 32 DX) ⟨hB, hd0⟩ ?_
  clear hB hd0
  rintro W ⟨hB, hd⟩
  have hr := hd.wholeM
  have hh := HH.out W hB
  have HF : Veil (∀ W1, Below W.heap.size W W1 → Below w.heap.size w W1 ∧ W1.rangeAt w.heap.size 0 DX) := ⟨fun W1 hb => ⟨hB.trans (hb.mono hB.size), (hd.farM hb).wholeM⟩⟩
  clear hB hd HH
  cases IS
  · go_wp2_with (first
      | (refine wpList_ldv rfl 32 (.tmp 3) rfl w.heap.size 0 rfl DX hr uD rfl iD ?_)
      | (go_at_call 21; refine hh.mono ?_; rintro z W1 ⟨rfl, h1⟩))
    go_ret
    exact ⟨rfl, HN.out trivial W1 (HF.out W1 h1).1⟩
  · go_upto_region 5 with (first
      | (refine wpList_ldv rfl 32 (.tmp 3) rfl w.heap.size 0 rfl DX hr uD rfl iD ?_)
      | (go_at_call 21; refine hh.mono ?_; rintro z W1 ⟨rfl, h1⟩))
    obtain ⟨hB1, r1⟩ := HF.out W1 h1
    obtain ⟨hc, W2, hrun, hE⟩ := HS.out trivial W1.drew hB1.drew
    have HE := Veil.mk hE
    clear hE hh hr h1 HF
    refine wp_region_gate (fun w' => w'.cell? ⟨R, 0, none⟩ = some (.map (some bc)) ∧ w'.rangeAt w.heap.size 0 DX) 5 (by kernel_rfl) ?_
    have hS : (fun w' : World => w'.cell? ⟨R, 0, none⟩ = some (.map (some bc)) ∧ w'.rangeAt w.heap.size 0 DX) W1.drew := ⟨hc, r1⟩
    clear hc
    refine wpAnyG_any (i := 0) (v := ?_) rfl (by kernel_rfl) (by kernel_rfl) (by kernel_rfl) (fun _ _ _ h => h) (by kernel_rfl) (fun _ => hS) (by kernel_rfl) ?_ ?_
    rotate_left
    · intro _; go_simp; try with_reducible rfl
    simp only [Act.put, List.getElem_toArray, List.getElem_cons_succ, List.getElem_cons_zero, List.setIfInBounds_toArray, List.set_cons_zero, List.set_cons_succ]
    refine wpAnyG_any (i := 1) (v := ?_) rfl (by kernel_rfl) (by kernel_rfl) (by kernel_rfl) (fun _ _ _ h => h) (by kernel_rfl) (fun _ => hS) (by kernel_rfl) ?_ ?_
    rotate_left
    · intro _; go_simp; try with_reducible rfl
    simp only [Act.put, List.getElem_toArray, List.getElem_cons_succ, List.getElem_cons_zero, List.setIfInBounds_toArray, List.set_cons_zero, List.set_cons_succ]
    refine wpAnyG_any (i := 2) (v := ?_) rfl (by kernel_rfl) (by kernel_rfl) (by kernel_rfl) (fun _ _ _ h => h) (by kernel_rfl) (fun _ => hS) (by kernel_rfl) ?_ ?_
    rotate_left
    · intro _; go_simp; try with_reducible rfl
    simp only [Act.put, List.getElem_toArray, List.getElem_cons_succ, List.getElem_cons_zero, List.setIfInBounds_toArray, List.set_cons_zero, List.set_cons_succ]
    refine wpAnyG_read (i := 3) (v := ?_) rfl (by kernel_rfl) (by kernel_rfl) (by kernel_rfl) (fun _ _ _ h => h) (by kernel_rfl) (by kernel_rfl) (by kernel_rfl) hS (by kernel_rfl) ?_ ?_
    rotate_left
    · intro wx hSw; go_split_ands; go_simp; try with_reducible rfl
    simp only [Act.put, List.getElem_toArray, List.getElem_cons_succ, List.getElem_cons_zero, List.setIfInBounds_toArray, List.set_cons_zero, List.set_cons_succ]
    refine wpAnyG_load (i := 4) (dst := some 15) (ty := 32) (x := .tmp 3) (b := w.heap.size) (o := (0)) (cs := DX) (by kernel_rfl) (by kernel_rfl) (by kernel_rfl) (by kernel_rfl) (by kernel_rfl) (fun _ _ _ h => h) (by kernel_rfl) (by kernel_rfl) (by kernel_rfl) hS (by kernel_rfl) (fun _ h => h.2) uD rfl iD ?_
    simp only [Act.put, List.getElem_toArray, List.getElem_cons_succ, List.getElem_cons_zero, List.setIfInBounds_toArray, List.set_cons_zero, List.set_cons_succ]
    refine wpAnyG_one (i := 5) rfl (by kernel_rfl) (by kernel_rfl) (fun K hK => ?_)
    refine wpx_upd _ _ _ _ rfl _ _ _ W2 rfl rfl rfl hrun ?_
    refine hK.out _ _ (fun h => absurd (show true = false from h) (by decide)) ?_
    clear hK K
    try simp only [Act.put, List.getElem_toArray, List.getElem_cons_succ, List.getElem_cons_zero, List.setIfInBounds_toArray, List.set_cons_zero, List.set_cons_succ]
    refine wpAnyG_done (by kernel_rfl) ?_ _
    clear hS hrun r1
    go_wp2
    go_ret
    exact ⟨rfl, HE.out⟩
theorem TreeAt.new {w : World} {R bc bn : Nat} (base : Nat) (hbox : CellsAt w R 51 [.map (some bc), .map (some bn)]) (hc : MapX Try.prog 32 encDF okDF w bc 0 (fun _ => none)) (hn : MapG Try.prog 56 encS okS w bn 0 (fun _ => none)) (hne : bc ≠ bn) : TreeAt w base R bc bn [] (fun _ => .slice none 0 0) where
  box := hbox
  chars := hc
  nodes := hn
  sides := ⟨fun s _ => OwnI.nil _ _ _ _, fun _ _ _ _ _ k hk => by simp [Value.ownBlock] at hk, fun _ _ => by simp [Value.ownBlock]⟩
  empty := fun _ _ _ => rfl
  nodup := List.nodup_nil
  okId := fun _ h => by simp at h
  okChr := fun _ h => by simp at h
  ne := hne
theorem newT_any (w : World) : Calls Try.prog 12 #[] w fun e w' => ∃ R bc bn, e = .returned (.pointer (some ⟨R, 0, none⟩)) ∧ TreeAt w' w.heap.size R bc bn [] (fun _ => .slice none 0 0) ∧ Below w.heap.size w w' ∧ w.heap.size ≤ R ∧ w.heap.size ≤ bc ∧ w.heap.size ≤ bn := by
  have hc := MapX.made (P := Try.prog) (kt := 32) (enc := encDF) (ok := okDF) w
  have hn := MapG.made (P := Try.prog) (kt := 56) (enc := encS) (ok := okS) (w.alloc (.map #[] 0))
  have hb := CellsAt.new ((w.alloc (.map #[] 0)).alloc (.map #[] 0)) 51 [.map (some w.heap.size), .map (some (w.heap.size + 1))]
  simp only [World.size_alloc] at hn hb
  have hB : Below w.heap.size w (((w.alloc (.map #[] 0)).alloc (.map #[] 0)).alloc (.cells #[.map (some w.heap.size), .map (some (w.heap.size + 1))] 51)) := (((Below.refl _ _).alloc (Nat.le_refl _) _).alloc (by simp) _).alloc (by simp; omega) _
  have HT : Veil (TreeAt (((w.alloc (.map #[] 0)).alloc (.map #[] 0)).alloc (.cells #[.map (some w.heap.size), .map (some (w.heap.size + 1))] 51)) w.heap.size (w.heap.size + 1 + 1) w.heap.size (w.heap.size + 1) [] (fun _ => .slice none 0 0)) := ⟨TreeAt.new _ hb ((hc.congr (Below.heap_alloc _ _ _ (by simp))).congr (Below.heap_alloc _ _ _ (by simp; omega))) (hn.congr (Below.heap_alloc _ _ _ (by simp))) (by omega)⟩
  have HB := Veil.mk hB
  have hmm := @run_makeMap Try.prog
  clear hc hn hb hB
  go_enter Try.func12, Try.ntmps12
  go_wp2
  go_ret
  exact ⟨_, _, _, rfl, HT.out, HB.out, by omega, by omega, by omega⟩
end Go.Proofs.Ytnmjplngbleopaa
