/- Ab5 -/
import Derived.Test.YtgmbmdmbnpkbbaaM23
namespace Go.Proofs.Ytgmbmdmbnpkbbaa
open Go.RowKit Go.Shelf
attribute [local go_sem] Oper.semAt_some
set_option maxRecDepth 20000
set_option linter.unusedSimpArgs false
theorem CellsAt.setOtherA {w : World} {g : Nat} {t : TypeId} {cs : List Value} (h : CellsAt w g t cs) (p : Addr) (v : Value) (hne : g ≠ p.block) : CellsAt (w.setCell p v) g t cs := h.congr (Below.heap_setCell _ _ _ _ hne)
theorem wpIn_thenF {F : Fence} {n : Nat} {P : Program} {c : Code} {K : Act → World → Prop} {Q : Exit → Act → World → Prop} {a : Act} {w : World} (h : c.wpIn F n P (Exit.then K (fun _ _ _ => False)) a w) : c.wpIn F n P (Exit.then K Q) a w := wpIn_mono h (fun e a w h => by cases e <;> first | exact h | exact h.elim)
theorem results_c1 {P : Program} {fn : Func} {p q : Tmp} {t1 t2 u1 u2 : TypeId} (h : fn.results = #[.cell p t1, .cell q t2]) (tmps : Array Value) {w : World} {A B : Nat} {v1 v2 : Value} (hp : tmps.getD p undef = .pointer (some ⟨A, 0, none⟩)) (hq : tmps.getD q undef = .pointer (some ⟨B, 0, none⟩)) (hA : CellsAt w A u1 [v1]) (hB : CellsAt w B u2 [v2])
    (h1 : ∀ w, (isAgg t1).run P w = .ok false w) (h2 : ∀ w, (isAgg t2).run P w = .ok false w) : (results fn tmps).run P w = .ok (.tuple #[v1, v2]) w := by
  have hp' : tmps[p]?.getD undef = .pointer (some ⟨A, 0, none⟩) := by simpa using hp
  have hq' : tmps[q]?.getD undef = .pointer (some ⟨B, 0, none⟩) := by simpa using hq
  have hcA : w.cell? ⟨A, 0, none⟩ = some v1 := hA.cell 0
  have hc : w.cell? ⟨B, 0, none⟩ = some v2 := hB.cell 0
  have hlA : (loadVar t1 ⟨A, 0, none⟩).run P w = .ok v1 w := by simp [go_sem, hcA, h1]
  have hlB : (loadVar t2 ⟨B, 0, none⟩).run P w = .ok v2 w := by simp [go_sem, hc, h2]
  simp [results, h, hp', hq', asAddr, hlA, hlB]
theorem leastL_app (l : List Ev) (e : Ev) : leastL (l ++ [e]) = leastS (leastL l) e := by unfold leastL; rw [List.foldl_append]; rfl
set_option maxHeartbeats 8000000 in
theorem least_any (gf : Nat) (lb : Array Value) (eg : ∀ args w, (callFunc gf args).run Try.prog w = .ok (.enter gf args) w) (Own : Nat → Prop) (told : List Ev) (N : Nat) (w : World) (hseq : ∀ m, SeqT (m + 4) Try.prog gf lb (fun x : Ev => #[.agg x.cells.toArray]) Own (fun _ => False) (fun xs _ => xs.Perm told) (fun _ _ => True) (fun x => x.Ok) N w) (hOwn : ∀ k, Own k → k < w.heap.size) :
    Calls Try.prog 38 #[.func (.func gf) #[] lb] w fun e w' => e = .returned (.tuple #[.int .u8 (leastL told).1, .bool (leastL told).2]) ∧ Below w.heap.size w w' := by
  refine (callsIn_wide (n := 9)).1 ?_
  refine callsIn_of_wp_marks Try.func38 rfl trivial ?_ rfl
  simp only [Try.ntmps38, List.size_toArray, List.length_cons, List.length_nil, Nat.reduceAdd, Nat.reduceSub, Array.replicate_succ, Array.replicate_zero, List.push_toArray, List.append_toArray, List.nil_append, List.cons_append]
  obtain ⟨W2, hW2⟩ : ∃ W2, W2 = (w.alloc (.cells #[.int .u8 0] 30)).alloc (.cells #[.bool false] 4) := ⟨_, rfl⟩
  have hb2 : Below w.heap.size w W2 := by rw [hW2]; exact ((Below.refl _ _).alloc (Nat.le_refl _) _).alloc (by simp) _
  have hz2 : W2.heap.size = w.heap.size + 2 := by rw [hW2]; simp
  have hr2 : CellsAt W2 w.heap.size 30 [.int .u8 (leastL []).1] := by rw [hW2]; exact (CellsAt.new w 30 [.int .u8 0]).alloc _
  have ht2 : CellsAt W2 (w.heap.size + 1) 4 [.bool (leastL []).2] := by
    rw [hW2]
    have := CellsAt.new (w.alloc (.cells #[.int .u8 0] 30)) 4 [.bool false]
    rw [World.size_alloc] at this; exact this
  have HW2 := Veil.mk hW2
  clear hW2
  gi_wp2
  rw [← HW2.out]
  obtain ⟨t0, ht0⟩ : ∃ s, w.heap.size + 1 = s := ⟨_, rfl⟩
  rw [ht0] at ht2 ⊢
  obtain ⟨r0, hr0⟩ : ∃ s, w.heap.size = s := ⟨_, rfl⟩
  rw [hr0] at hr2
  try rw [hr0]
  obtain ⟨I, HI⟩ : ∃ I : (Nat → Prop) → List Ev → World → Prop, Veil (∀ T pre A, I T pre A ↔ ((∀ k, T k ↔ (k = r0 ∨ k = t0)) ∧ CellsAt A r0 30 [.int .u8 (leastL pre).1] ∧ CellsAt A t0 4 [.bool (leastL pre).2])) := ⟨_, ⟨fun _ _ _ => Iff.rfl⟩⟩
  refine wpIn_rangeTl (by omega) rfl eg ((hseq 4).later (hb2.mono (by omega))) (fun _ => rfl) (fun _ _ _ h _ => h) (fun _ _ _ h _ => h) (fun k => k = r0 ∨ k = t0) (fun k hk => ⟨fun q => by have := hOwn k q; omega, by omega⟩) (fun k hk => by have := hOwn k hk; omega)
    I (fun _ _ _ _ => False) ?stays (fun _ _ _ _ _ h _ => h) ?zero ?round ?done ?stop
  case stays =>
    intro T s A B hi hs
    obtain ⟨h1, h2, h3⟩ := (HI.out _ _ _).1 hi
    exact (HI.out _ _ _).2 ⟨h1, h2.congr (hs.block _ (.inl ((h1 _).2 (.inl rfl)))), h3.congr (hs.block _ (.inl ((h1 _).2 (.inr rfl))))⟩
  case zero => exact (HI.out _ _ _).2 ⟨fun k => Iff.rfl, hr2, ht2⟩
  case stop => intro D c xs T W hD _ h; exact h.elim
  case round =>
    intro l1 r T1 pre x A hi hok hlen hTl hT0 hlr hl1
    obtain ⟨h1, hcr, hct⟩ := (HI.out _ _ _).1 hi
    have he1 := aev_len x hok.past
    have he2 := aev_one x
    have iE : (Try.prog.info? 32).map (·.size) = some x.cells.length := by rw [he1]; kernel_rfl
    obtain ⟨hn1, hn2, hn3⟩ := asg_new A x.cells
    have h16 := (ev_parts x hok.past).2.2.2.2.2.2.2
    have hlA : l1 < A.heap.size := (Array.getElem?_eq_some_iff.1 hlr).1
    have hlr0 : r0 ≠ l1 := by omega
    have hlt0 : t0 ≠ l1 := by omega
    have HNE : Veil (r0 ≠ t0) := ⟨by omega⟩
    have HT1 : Veil (T1 r0 ∧ T1 t0) := ⟨(h1 _).2 (.inl rfl), (h1 _).2 (.inr rfl)⟩
    have HE : Veil (∀ B, CellsAt B r0 30 [.int .u8 (leastS (leastL pre) x).1] → CellsAt B t0 4 [.bool (leastS (leastL pre) x).2] → I (fun k => k = r0 ∨ k = t0) (pre ++ [x]) B) := ⟨fun B hB hB2 => (HI.out _ _ _).2 ⟨fun k => Iff.rfl, by rw [leastL_app]; exact hB, by rw [leastL_app]; exact hB2⟩⟩
    obtain ⟨⟨R0, TH⟩, hLP⟩ : ∃ q, leastL pre = q := ⟨_, rfl⟩
    rw [hLP] at hcr hct HE
    obtain ⟨E, hE⟩ : ∃ E, x.cells = E := ⟨_, rfl⟩
    rw [hE] at he1 he2 iE hn1 hn2 hn3 h16 ⊢
    have hlA2 : A.heap.size ≠ l1 := by omega
    clear hLP hE hi hlr hTl hT0 h1 hl1 hz2
    refine wpR_region (notOut_then notOut_false) (by kernel_rfl) ?_
    go_wp2_with (refine wpList_stv rfl 32 _ _ rfl A.heap.size rfl rfl (CellsAt.new A 32 [.int .u8 0, .int .u32 0, .int .u32 0, .int .u32 0, .int .u32 0, .int .u32 0, .int .u32 0, .int .u32 0, .int .u32 0, .int .u32 0, .int .u8 0, .int .u8 0, .int .u32 0, .bool false, .int .u8 0, .int .u8 0, .int .u8 0]) iE (by rw [he1]; rfl) he2 ?_)
    refine ⟨Turn.of_below hn2, ?_⟩
    generalize ((A.alloc (.cells #[.int .u8 0, .int .u32 0, .int .u32 0, .int .u32 0, .int .u32 0, .int .u32 0, .int .u32 0, .int .u32 0, .int .u32 0, .int .u32 0, .int .u8 0, .int .u8 0, .int .u32 0, .bool false, .int .u8 0, .int .u8 0, .int .u8 0] 32)).setRow A.heap.size E.toArray) = V1 at hn1 hn2 hn3 ⊢
    have hx2 : CellsAt (V1.putObj l1 (.loop { r with state := .busy })) A.heap.size 32 E := hn1.congr (World.putObj_heap_other hlA2)
    have hcr2 : CellsAt (V1.putObj l1 (.loop { r with state := .busy })) r0 30 [.int .u8 R0] := (hcr.congr (hn2.block _ hcr.lt)).congr (World.putObj_heap_other hlr0)
    have hct2 : CellsAt (V1.putObj l1 (.loop { r with state := .busy })) t0 4 [.bool TH] := (hct.congr (hn2.block _ hct.lt)).congr (World.putObj_heap_other hlt0)
    generalize V1.putObj l1 (.loop { r with state := .busy }) = V2 at hx2 hcr2 hct2 ⊢
    have ce : V2.cell? ⟨A.heap.size, 16, none⟩ = some (.int .u8 x.role) := (hx2.cell 16).trans h16
    have cr : V2.cell? ⟨r0, 0, none⟩ = some (.int .u8 R0) := hcr2.cell 0
    have ct : V2.cell? ⟨t0, 0, none⟩ = some (.bool TH) := hct2.cell 0
    have fr := hcr2.frozen 0
    have hne := HNE.out
    have hcr3 : CellsAt (V2.setCell ⟨r0, 0, none⟩ (.int .u8 x.role)) r0 30 [.int .u8 x.role] := hcr2.set 0 _
    have hct3 : CellsAt (V2.setCell ⟨r0, 0, none⟩ (.int .u8 x.role)) t0 4 [.bool TH] := hct2.setOtherA _ _ (Ne.symm hne)
    have ft := hct3.frozen 0
    have ct3 : (V2.setCell ⟨r0, 0, none⟩ (.int .u8 x.role)).cell? ⟨t0, 0, none⟩ = some (.bool TH) := hct3.cell 0
    have HA : Veil (∃ T', I T' (pre ++ [x]) V2 ∧ MovesT T1 V2 T' V2 ∨ ¬ (leastS (R0, TH) x = (R0, TH))) := by
      by_cases h : leastS (R0, TH) x = (R0, TH)
      · refine ⟨_, .inl ⟨HE.out V2 (by rw [h]; exact hcr2) (by rw [h]; exact hct2), Turn.refl _ _, fun k hk => ?_⟩⟩
        rcases hk with q | q
        · rw [q]; exact ⟨.inl HT1.out.1, hcr2.lt⟩
        · rw [q]; exact ⟨.inl HT1.out.2, hct2.lt⟩
      · exact ⟨fun _ => True, .inr h⟩
    have HB : Veil (leastS (R0, TH) x = (x.role, true) → ∃ T', I T' (pre ++ [x]) ((V2.setCell ⟨r0, 0, none⟩ (.int .u8 x.role)).setCell ⟨t0, 0, none⟩ (.bool true)) ∧ MovesT T1 V2 T' ((V2.setCell ⟨r0, 0, none⟩ (.int .u8 x.role)).setCell ⟨t0, 0, none⟩ (.bool true))) := ⟨fun h => by
      have hcr4 : CellsAt ((V2.setCell ⟨r0, 0, none⟩ (.int .u8 x.role)).setCell ⟨t0, 0, none⟩ (.bool true)) r0 30 [.int .u8 x.role] := hcr3.setOtherA _ _ hne
      have hct4 : CellsAt ((V2.setCell ⟨r0, 0, none⟩ (.int .u8 x.role)).setCell ⟨t0, 0, none⟩ (.bool true)) t0 4 [.bool true] := hct3.set 0 _
      refine ⟨_, HE.out _ (by rw [h]; exact hcr4) (by rw [h]; exact hct4), (Turn.of_setCell _ HT1.out.1 _).trans (Turn.of_setCell _ HT1.out.2 _), fun k hk => ?_⟩
      rcases hk with q | q
      · rw [q]; exact ⟨.inl HT1.out.1, hcr4.lt⟩
      · rw [q]; exact ⟨.inl HT1.out.2, hct4.lt⟩⟩
    clear hn1 hn2 hn3 hcr hct hx2 hcr2 hct2 hlA hlr0 hlt0 hcr3 hct3 h16 HE hne
    obtain ⟨xr, hxr⟩ : ∃ q, x.role = q := ⟨_, rfl⟩
    have HXR := Veil.mk hxr
    rw [hxr] at ce ft ct3 HB
    clear hxr
    try simp only [Act.put]
    have hcase : TH = false ∨ (TH = true ∧ xr < R0) ∨ (TH = true ∧ ¬ xr < R0) := by cases TH <;> simp; exact Int.lt_or_le _ _
    rcases hcase with rfl | ⟨rfl, hlt⟩ | ⟨rfl, hlt⟩
    · have H := Veil.mk (HB.out (by unfold leastS; simp; exact HXR.out))
      gi_wp2
      exact H.out
    · have H := Veil.mk (HB.out (by unfold leastS; rw [if_pos (.inr (by rw [HXR.out]; exact hlt)), HXR.out]))
      gi_wp2
      exact H.out
    · have H : Veil (∃ T', I T' (pre ++ [x]) V2 ∧ MovesT T1 V2 T' V2) := ⟨by
        obtain ⟨T', h⟩ := HA.out
        rcases h with h | h
        · exact ⟨T', h⟩
        · exact absurd (by unfold leastS; rw [if_neg (by rw [HXR.out]; simp; omega)]) h⟩
      gi_wp2
      exact H.out
  case done =>
    intro D xs T1 A hD hP hi hdef ht hTD
    obtain ⟨-, hcr, hct⟩ := (HI.out _ _ _).1 hi
    rw [leastL_perm hP] at hcr hct
    have cr : A.cell? ⟨r0, 0, none⟩ = some (.int .u8 (leastL told).1) := hcr.cell 0
    have ct : A.cell? ⟨t0, 0, none⟩ = some (.bool (leastL told).2) := hct.cell 0
    have hbA : Veil (∀ B, (∀ k, k < w.heap.size → B.heap[k]? = A.heap[k]?) → B.os = A.os → B.tape = A.tape → B.output = A.output → A.heap.size ≤ B.heap.size → Below w.heap.size w B) := ⟨fun B h1 h2 h3 h4 h5 => ⟨(h2.trans ht.os).trans hb2.os, (h3.trans ht.tape).trans hb2.tape, (h4.trans ht.output).trans hb2.output, by have := ht.size; omega, fun k hk => ((h1 k hk).trans (ht.block k (by omega) (fun q => by rcases q with (q | q) | q; omega; omega; exact q))).trans (hb2.block k hk)⟩⟩
    have hcr' : CellsAt A r0 30 [.int .u8 (leastL told).1] := hcr
    have hct' : CellsAt A t0 4 [.bool (leastL told).2] := hct
    have hne : r0 ≠ t0 := by omega
    have hcr3 : CellsAt (A.drew.setCell ⟨r0, 0, none⟩ (.int .u8 (leastL told).1)) r0 30 [.int .u8 (leastL told).1] := (hcr'.congr (w' := A.drew) rfl).set 0 _
    have hct3 : CellsAt (A.drew.setCell ⟨r0, 0, none⟩ (.int .u8 (leastL told).1)) t0 4 [.bool (leastL told).2] := (hct'.congr (w' := A.drew) rfl).setOtherA _ _ (Ne.symm hne)
    have hcr4 : CellsAt ((A.drew.setCell ⟨r0, 0, none⟩ (.int .u8 (leastL told).1)).setCell ⟨t0, 0, none⟩ (.bool (leastL told).2)) r0 30 [.int .u8 (leastL told).1] := hcr3.setOtherA _ _ hne
    have hct4 : CellsAt ((A.drew.setCell ⟨r0, 0, none⟩ (.int .u8 (leastL told).1)).setCell ⟨t0, 0, none⟩ (.bool (leastL told).2)) t0 4 [.bool (leastL told).2] := hct3.set 0 _
    have hb4 : Veil (∀ k, k ≠ r0 → k ≠ t0 → ((A.drew.setCell ⟨r0, 0, none⟩ (.int .u8 (leastL told).1)).setCell ⟨t0, 0, none⟩ (.bool (leastL told).2)).heap[k]? = A.heap[k]?) := ⟨fun k h1 h2 => (Below.heap_setCell _ ⟨t0, 0, none⟩ _ k h2).trans (Below.heap_setCell A.drew ⟨r0, 0, none⟩ _ k h1)⟩
    have hz4 : Veil (((A.drew.setCell ⟨r0, 0, none⟩ (.int .u8 (leastL told).1)).setCell ⟨t0, 0, none⟩ (.bool (leastL told).2)).heap.size = A.heap.size) := ⟨by simp [World.setCell]⟩
    have hd4 : Veil (D ≠ r0 ∧ D ≠ t0) := ⟨by omega⟩
    have cr3 : (A.drew.setCell ⟨r0, 0, none⟩ (.int .u8 (leastL told).1)).cell? ⟨r0, 0, none⟩ = some (.int .u8 (leastL told).1) := hcr3.cell 0
    have ct3 : (A.drew.setCell ⟨r0, 0, none⟩ (.int .u8 (leastL told).1)).cell? ⟨t0, 0, none⟩ = some (.bool (leastL told).2) := hct3.cell 0
    have fr := (hcr'.congr (w' := A.drew) rfl).frozen 0
    have ft := hct3.frozen 0
    have ft0 := hct'.frozen 0
    have fr0 := hcr'.frozen 0
    have HDF := Veil.mk hdef
    generalize hRV : (leastL told).1 = RV at hcr hct cr ct cr3 ct3 hcr4 hct4 hb4 hz4 fr ft hcr3 hct3 hcr' hct' ⊢
    have HRV := Veil.mk hRV
    clear hRV
    generalize hTV : (leastL told).2 = TV at hcr hct cr ct cr3 ct3 hcr4 hct4 hb4 hz4 ft hcr3 hct3 hcr' hct' ⊢
    have HTV := Veil.mk hTV
    clear hTV hi hTD hP hcr hct hcr' hct' hcr3 hct3 hr2 ht2 hdef hne
    gi_wp2
    refine wpIn_thenF (wpIn_wide.2 ?_)
    refine wp_region_gateT (fun w' => w'.cell? ⟨r0, 0, none⟩ = some (.int .u8 RV) ∧ w'.cell? ⟨t0, 0, none⟩ = some (.bool TV)) (fun _ => True) 99 (by kernel_rfl) ?_
    have hT : (fun w' : World => w'.cell? ⟨r0, 0, none⟩ = some (.int .u8 RV) ∧ w'.cell? ⟨t0, 0, none⟩ = some (.bool TV)) A.drew := ⟨cr, ct⟩
    have hS : (fun _ : World => True) A.drew := trivial
    refine wpAnyT_held (i := 0) (v := ?_) rfl (by kernel_rfl) (by kernel_rfl) (by kernel_rfl) (fun _ _ _ h => h) (by kernel_rfl) hT (fun _ => hS) (by kernel_rfl) ?_ ?_
    rotate_left
    · intro wx hSw; go_split_ands; go_simp; try with_reducible rfl
    simp only [Act.put, List.getElem_toArray, List.getElem_cons_succ, List.getElem_cons_zero, List.setIfInBounds_toArray, List.set_cons_zero, List.set_cons_succ]
    refine wpAnyT_held (i := 1) (v := ?_) rfl (by kernel_rfl) (by kernel_rfl) (by kernel_rfl) (fun _ _ _ h => h) (by kernel_rfl) hT (fun _ => hS) (by kernel_rfl) ?_ ?_
    rotate_left
    · intro wx hSw; go_split_ands; go_simp; try with_reducible rfl
    simp only [Act.put, List.getElem_toArray, List.getElem_cons_succ, List.getElem_cons_zero, List.setIfInBounds_toArray, List.set_cons_zero, List.set_cons_succ]
    refine wpAnyT_one (i := 2) rfl (by kernel_rfl) (by kernel_rfl) (fun K hK => ?_)
    go_simp
    replace hT : (fun w' : World => w'.cell? ⟨r0, 0, none⟩ = some (.int .u8 RV) ∧ w'.cell? ⟨t0, 0, none⟩ = some (.bool TV)) (A.drew.setCell ⟨r0, 0, none⟩ (.int .u8 RV)) := ⟨cr3, ct3⟩
    replace hS : (fun _ : World => True) (A.drew.setCell ⟨r0, 0, none⟩ (.int .u8 RV)) := trivial
    refine hK.out _ _ hT (fun _ => hS) ?_
    clear hK K
    try simp only [Act.put, List.getElem_toArray, List.getElem_cons_succ, List.getElem_cons_zero, List.setIfInBounds_toArray, List.set_cons_zero, List.set_cons_succ]
    refine wpAnyT_one (i := 3) rfl (by kernel_rfl) (by kernel_rfl) (fun K hK => ?_)
    go_simp
    replace hT : (fun w' : World => w'.cell? ⟨r0, 0, none⟩ = some (.int .u8 RV) ∧ w'.cell? ⟨t0, 0, none⟩ = some (.bool TV)) ((A.drew.setCell ⟨r0, 0, none⟩ (.int .u8 RV)).setCell ⟨t0, 0, none⟩ (.bool TV)) := ⟨hcr4.cell 0, hct4.cell 0⟩
    replace hS : (fun _ : World => True) ((A.drew.setCell ⟨r0, 0, none⟩ (.int .u8 RV)).setCell ⟨t0, 0, none⟩ (.bool TV)) := trivial
    refine hK.out _ _ hT (fun _ => hS) ?_
    clear hK K
    try simp only [Act.put, List.getElem_toArray, List.getElem_cons_succ, List.getElem_cons_zero, List.setIfInBounds_toArray, List.set_cons_zero, List.set_cons_succ]
    refine wpAnyT_done (by kernel_rfl) ?_ _
    rw [show ((A.setCell ⟨r0, 0, none⟩ (.int .u8 RV)).setCell ⟨t0, 0, none⟩ (.bool TV)).drew = (A.drew.setCell ⟨r0, 0, none⟩ (.int .u8 RV)).setCell ⟨t0, 0, none⟩ (.bool TV) from rfl]
    have HO4 : Veil (((A.drew.setCell ⟨r0, 0, none⟩ (.int .u8 RV)).setCell ⟨t0, 0, none⟩ (.bool TV)).os = A.os ∧ ((A.drew.setCell ⟨r0, 0, none⟩ (.int .u8 RV)).setCell ⟨t0, 0, none⟩ (.bool TV)).tape = A.tape ∧ ((A.drew.setCell ⟨r0, 0, none⟩ (.int .u8 RV)).setCell ⟨t0, 0, none⟩ (.bool TV)).output = A.output) := ⟨rfl, rfl, rfl⟩
    generalize (A.drew.setCell ⟨r0, 0, none⟩ (.int .u8 RV)).setCell ⟨t0, 0, none⟩ (.bool TV) = W5 at hcr4 hct4 hb4 hz4 HO4 ⊢
    have hdefB : W5.heap[D]? = some (.deferred (some [])) := (hb4.out D hd4.out.1 hd4.out.2).trans HDF.out
    have HEND : Veil (CellsAt (W5.putObj D (.deferred none)) r0 30 [.int .u8 RV] ∧ CellsAt (W5.putObj D (.deferred none)) t0 4 [.bool TV] ∧ Below w.heap.size w (W5.putObj D (.deferred none))) := ⟨hcr4.congr (World.putObj_heap_other (Ne.symm hd4.out.1)), hct4.congr (World.putObj_heap_other (Ne.symm hd4.out.2)), hbA.out _ (fun k hk => (World.putObj_heap_other (by omega)).trans (hb4.out k (by omega) (by omega))) HO4.out.1 HO4.out.2.1 HO4.out.2.2 (by simp [World.putObj, hz4.out])⟩
    clear hT hS cr ct cr3 ct3 fr ft ft0 fr0 hcr4 hct4
    simp only [Exit.then]
    gi_wp2
    refine ⟨by simp, .inl ⟨_, _, rfl, run_takeDeferred hdefB, ?_⟩⟩
    exact ⟨_, results_c1 (p := 2) (q := 3) rfl _ rfl rfl HEND.out.1 HEND.out.2.1 Try.isAgg30 Try.isAgg4, by rw [HRV.out, HTV.out], HEND.out.2.2⟩
end Go.Proofs.Ytgmbmdmbnpkbbaa
