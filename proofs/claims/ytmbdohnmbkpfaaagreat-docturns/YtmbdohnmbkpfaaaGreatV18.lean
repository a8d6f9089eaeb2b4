/- Ab5 Ab6 Ab7 -/
import Derived.Test.YtmbdohnmbkpfaaaGreatV17
namespace Go.Proofs.YtmbdohnmbkpfaaaGreat
open Go.RowKit Go.Shelf
attribute [local go_sem] Oper.semAt_some
set_option maxRecDepth 20000
set_option linter.unusedSimpArgs false
theorem CellsAt.setOtherA {w : World} {g : Nat} {t : TypeId} {cs : List Value} (h : CellsAt w g t cs) (p : Addr) (v : Value) (hne : g ≠ p.block) : CellsAt (w.setCell p v) g t cs := h.congr (Below.heap_setCell _ _ _ _ hne)
theorem wpIn_thenF {F : Fence} {n : Nat} {P : Program} {c : Code} {K : Act → World → Prop} {Q : Exit → Act → World → Prop} {a : Act} {w : World} (h : c.wpIn F n P (Exit.then K (fun _ _ _ => False)) a w) : c.wpIn F n P (Exit.then K Q) a w := wpIn_mono h (fun e a w h => by cases e <;> first | exact h | exact h.elim)
theorem results_c1 {P : Program} {fn : Func} {p q : Tmp} {t1 t2 u1 u2 : TypeId} (h : fn.results = #[.cell p t1, .cell q t2]) (tmps : Array Value) {w : World} {A B : Nat} {v1 v2 : Value} (hp : tmps.getD p undef = .pointer (some ⟨A, 0, none⟩)) (hq : tmps.getD q undef = .pointer (some ⟨B, 0, none⟩)) (hA : CellsAt w A u1 [v1]) (hB : CellsAt w B u2 [v2])
    (h1 : ∀ w, (isAgg t1).run P w = .ok false w) (h2 : ∀ w, (isAgg t2).run P w = .ok false w) : (results fn tmps).run P w = .ok (.tuple #[v1, v2]) w := by
 have hp' : tmps[p]?.getD undef = .pointer (some ⟨A, 0, none⟩) := by simpa using hp
 have hq' : tmps[q]?.getD undef = .pointer (some ⟨B, 0, none⟩) := by simpa using hq
 have hcA : w.cell? ⟨A, 0, none⟩ = some v1 := hA.cell 0
 have hc : w.cell? ⟨B, 0, none⟩ = some v2 := hB.cell 0
 have hlA : (loadVar t1 ⟨A, 0, none⟩).run P w = .ok v1 w := by simp [go_sem, hcA, h1]
 have hlB : (loadVar t2 ⟨B, 0, none⟩).run P w = .ok v2 w := by simp [go_sem, hc, h2]
 simp [results, h, hp', hq', asAddr, hlA, hlB]
theorem leastL_app (l : List Ev) (e : Ev) : leastL (l ++ [e]) = leastS (leastL l) e := by unfold leastL; rw [List.foldl_append]; rfl
set_option maxHeartbeats 8000000 in
theorem least_any (gf : Nat) (lb : Array Value) (eg : ∀ args w, (callFunc gf args).run Tryz.prog w = .ok (.enter gf args) w) (Own : Nat → Prop) (told : List Ev) (N : Nat) (w : World) (hseq : ∀ m, SeqT (m + 4) Tryz.prog gf lb (fun x : Ev => #[.agg x.cells.toArray]) Own (fun _ => False) (fun xs _ => xs.Perm told) (fun _ _ => True) (fun x => x.Ok) N w) (hOwn : ∀ k, Own k → k < w.heap.size) :
    Calls Tryz.prog 104 #[.func (.func gf) #[] lb] w fun e w' => e = .returned (.tuple #[.int .u8 (leastL told).1, .bool (leastL told).2]) ∧ Below w.heap.size w w' := by
 refine (callsIn_wide (n := 9)).1 ?_
 refine callsIn_of_wp_marks Tryz.func104 rfl trivial ?_ rfl
 simp only [Tryz.ntmps104, List.size_toArray, List.length_cons, List.length_nil, Nat.reduceAdd, Nat.reduceSub, Array.replicate_succ, Array.replicate_zero, List.push_toArray, List.append_toArray, List.nil_append, List.cons_append]
 obtain ⟨W2, hW2⟩ : ∃ W2, W2 = (w.alloc (.cells #[.int .u8 0] 42)).alloc (.cells #[.bool false] 4) := ⟨_, rfl⟩
 have hb2 : Below w.heap.size w W2 := by rw [hW2]; exact ((Below.refl _ _).alloc (Nat.le_refl _) _).alloc (by simp) _
 have hz2 : W2.heap.size = w.heap.size + 2 := by rw [hW2]; simp
 have hr2 : CellsAt W2 w.heap.size 42 [.int .u8 (leastL []).1] := by rw [hW2]; exact (CellsAt.new w 42 [.int .u8 0]).alloc _
 have ht2 : CellsAt W2 (w.heap.size + 1) 4 [.bool (leastL []).2] := by
  rw [hW2]
  have := CellsAt.new (w.alloc (.cells #[.int .u8 0] 42)) 4 [.bool false]
  rw [World.size_alloc] at this; exact this
 have HW2 := Veil.mk hW2
 clear hW2
 gi_wp2
 rw [← HW2.out]
 obtain ⟨t0, ht0⟩ : ∃ s, w.heap.size + 1 = s := ⟨_, rfl⟩
 rw [ht0] at ht2 ⊢
 obtain ⟨r0, hr0⟩ : ∃ s, w.heap.size = s := ⟨_, rfl⟩
 rw [hr0] at hr2
 try rw [hr0]
 obtain ⟨I, HI⟩ : ∃ I : (Nat → Prop) → List Ev → World → Prop, Veil (∀ T pre A, I T pre A ↔ ((∀ k, T k ↔ (k = r0 ∨ k = t0)) ∧ CellsAt A r0 42 [.int .u8 (leastL pre).1] ∧ CellsAt A t0 4 [.bool (leastL pre).2])) := ⟨_, ⟨fun _ _ _ => Iff.rfl⟩⟩
 refine wpIn_rangeTl (by omega) rfl eg ((hseq 4).later (hb2.mono (by omega))) (fun _ => rfl) (fun _ _ _ h _ => h) (fun _ _ _ h _ => h) (fun k => k = r0 ∨ k = t0) (fun k hk => ⟨fun q => by have := hOwn k q; omega, by omega⟩) (fun k hk => by have := hOwn k hk; omega)
  I (fun _ _ _ _ => False) ?stays (fun _ _ _ _ _ h _ => h) ?zero ?round ?done ?stop
 case stays =>
  intro T s A B hi hs
  obtain ⟨h1, h2, h3⟩ := (HI.out _ _ _).1 hi
  exact (HI.out _ _ _).2 ⟨h1, h2.congr (hs.block _ (.inl ((h1 _).2 (.inl rfl)))), h3.congr (hs.block _ (.inl ((h1 _).2 (.inr rfl))))⟩
 case zero => exact (HI.out _ _ _).2 ⟨fun k => Iff.rfl, hr2, ht2⟩
 case stop => intro D c xs T W hD _ h; exact h.elim
 case round =>
  intro l1 r T1 pre x A hi hok hlen hTl hT0 hlr hl1
  obtain ⟨h1, hcr, hct⟩ := (HI.out _ _ _).1 hi
  have he1 := aev_len x hok.past
  have he2 := aev_one x
  have iE : (Tryz.prog.info? 44).map (·.size) = some x.cells.length := by rw [he1]; kernel_rfl
  obtain ⟨hn1, hn2, hn3⟩ := asg_new A x.cells
  have h16 := (ev_parts x hok.past).2.2.2.2.2.2.2
  have hlA : l1 < A.heap.size := (Array.getElem?_eq_some_iff.1 hlr).1
  have hlr0 : r0 ≠ l1 := by omega
  have hlt0 : t0 ≠ l1 := by omega
  have HNE : Veil (r0 ≠ t0) := ⟨by omega⟩
  have HT1 : Veil (T1 r0 ∧ T1 t0) := ⟨(h1 _).2 (.inl rfl), (h1 _).2 (.inr rfl)⟩
  have HE : Veil (∀ B, CellsAt B r0 42 [.int .u8 (leastS (leastL pre) x).1] → CellsAt B t0 4 [.bool (leastS (leastL pre) x).2] → I (fun k => k = r0 ∨ k = t0) (pre ++ [x]) B) := ⟨fun B hB hB2 => (HI.out _ _ _).2 ⟨fun k => Iff.rfl, by rw [leastL_app]; exact hB, by rw [leastL_app]; exact hB2⟩⟩
  obtain ⟨⟨R0, TH⟩, hLP⟩ : ∃ q, leastL pre = q := ⟨_, rfl⟩
  rw [hLP] at hcr hct HE
  obtain ⟨E, hE⟩ : ∃ E, x.cells = E := ⟨_, rfl⟩
  rw [hE] at he1 he2 iE hn1 hn2 hn3 h16 ⊢
  have hlA2 : A.heap.size ≠ l1 := by omega
  clear hLP hE hi hlr hTl hT0 h1 hl1 hz2
  refine wpR_region (notOut_then notOut_false) (by kernel_rfl) ?_
  go_wp2_with (refine wpList_stv rfl 44 _ _ rfl A.heap.size rfl rfl (CellsAt.new A 44 [.int .u8 0, .int .u32 0, .int .u32 0, .int .u32 0, .int .u32 0, .int .u32 0, .int .u32 0, .int .u32 0, .int .u32 0, .int .u32 0, .int .u8 0, .int .u8 0, .int .u32 0, .bool false, .int .u8 0, .int .u8 0, .int .u8 0]) iE (by rw [he1]; rfl) he2 ?_)
  refine ⟨Turn.of_below hn2, ?_⟩
  generalize ((A.alloc (.cells #[.int .u8 0, .int .u32 0, .int .u32 0, .int .u32 0, .int .u32 0, .int .u32 0, .int .u32 0, .int .u32 0, .int .u32 0, .int .u32 0, .int .u8 0, .int .u8 0, .int .u32 0, .bool false, .int .u8 0, .int .u8 0, .int .u8 0] 44)).setRow A.heap.size E.toArray) = V1 at hn1 hn2 hn3 ⊢
  have hx2 : CellsAt (V1.putObj l1 (.loop { r with state := .busy })) A.heap.size 44 E := hn1.congr (World.putObj_heap_other hlA2)
  have hcr2 : CellsAt (V1.putObj l1 (.loop { r with state := .busy })) r0 42 [.int .u8 R0] := (hcr.congr (hn2.block _ hcr.lt)).congr (World.putObj_heap_other hlr0)
  have hct2 : CellsAt (V1.putObj l1 (.loop { r with state := .busy })) t0 4 [.bool TH] := (hct.congr (hn2.block _ hct.lt)).congr (World.putObj_heap_other hlt0)
  generalize V1.putObj l1 (.loop { r with state := .busy }) = V2 at hx2 hcr2 hct2 ⊢
  have ce : V2.cell? ⟨A.heap.size, 16, none⟩ = some (.int .u8 x.role) := (hx2.cell 16).trans h16
  have cr : V2.cell? ⟨r0, 0, none⟩ = some (.int .u8 R0) := hcr2.cell 0
  have ct : V2.cell? ⟨t0, 0, none⟩ = some (.bool TH) := hct2.cell 0
  have fr := hcr2.frozen 0
  have hne := HNE.out
  have hcr3 : CellsAt (V2.setCell ⟨r0, 0, none⟩ (.int .u8 x.role)) r0 42 [.int .u8 x.role] := hcr2.set 0 _
  have hct3 : CellsAt (V2.setCell ⟨r0, 0, none⟩ (.int .u8 x.role)) t0 4 [.bool TH] := hct2.setOtherA _ _ (Ne.symm hne)
  have ft := hct3.frozen 0
  have ct3 : (V2.setCell ⟨r0, 0, none⟩ (.int .u8 x.role)).cell? ⟨t0, 0, none⟩ = some (.bool TH) := hct3.cell 0
  have HA : Veil (∃ T', I T' (pre ++ [x]) V2 ∧ MovesT T1 V2 T' V2 ∨ ¬ (leastS (R0, TH) x = (R0, TH))) := by
   by_cases h : leastS (R0, TH) x = (R0, TH)
   · refine ⟨_, .inl ⟨HE.out V2 (by rw [h]; exact hcr2) (by rw [h]; exact hct2), Turn.refl _ _, fun k hk => ?_⟩⟩
     rcases hk with q | q
     · rw [q]; exact ⟨.inl HT1.out.1, hcr2.lt⟩
     · rw [q]; exact ⟨.inl HT1.out.2, hct2.lt⟩
   · exact ⟨fun _ => True, .inr h⟩
  have HB : Veil (leastS (R0, TH) x = (x.role, true) → ∃ T', I T' (pre ++ [x]) ((V2.setCell ⟨r0, 0, none⟩ (.int .u8 x.role)).setCell ⟨t0, 0, none⟩ (.bool true)) ∧ MovesT T1 V2 T' ((V2.setCell ⟨r0, 0, none⟩ (.int .u8 x.role)).setCell ⟨t0, 0, none⟩ (.bool true))) := ⟨fun h => by
   have hcr4 : CellsAt ((V2.setCell ⟨r0, 0, none⟩ (.int .u8 x.role)).setCell ⟨t0, 0, none⟩ (.bool true)) r0 42 [.int .u8 x.role] := hcr3.setOtherA _ _ hne
   have hct4 : CellsAt ((V2.setCell ⟨r0, 0, none⟩ (.int .u8 x.role)).setCell ⟨t0, 0, none⟩ (.bool true)) t0 4 [.bool true] := hct3.set 0 _
   refine ⟨_, HE.out _ (by rw [h]; exact hcr4) (by rw [h]; exact hct4), (Turn.of_setCell _ HT1.out.1 _).trans (Turn.of_setCell _ HT1.out.2 _), fun k hk => ?_⟩
   rcases hk with q | q
   · rw [q]; exact ⟨.inl HT1.out.1, hcr4.lt⟩
   · rw [q]; exact ⟨.inl HT1.out.2, hct4.lt⟩⟩
  clear hn1 hn2 hn3 hcr hct hx2 hcr2 hct2 hlA hlr0 hlt0 hcr3 hct3 h16 HE hne
  obtain ⟨xr, hxr⟩ : ∃ q, x.role = q := ⟨_, rfl⟩
  have HXR := Veil.mk hxr
  rw [hxr] at ce ft ct3 HB
  clear hxr
  try simp only [Act.put]
  have hcase : TH = false ∨ (TH = true ∧ xr < R0) ∨ (TH = true ∧ ¬ xr < R0) := by cases TH <;> simp; exact Int.lt_or_le _ _
  rcases hcase with rfl | ⟨rfl, hlt⟩ | ⟨rfl, hlt⟩
  · have H := Veil.mk (HB.out (by unfold leastS; simp; exact HXR.out))
    gi_wp2
    exact H.out
  · have H := Veil.mk (HB.out (by unfold leastS; rw [if_pos (.inr (by rw [HXR.out]; exact hlt)), HXR.out]))
    gi_wp2
    exact H.out
  · have H : Veil (∃ T', I T' (pre ++ [x]) V2 ∧ MovesT T1 V2 T' V2) := ⟨by
     obtain ⟨T', h⟩ := HA.out
     rcases h with h | h
     · exact ⟨T', h⟩
     · exact absurd (by unfold leastS; rw [if_neg (by rw [HXR.out]; simp; omega)]) h⟩
    gi_wp2
    exact H.out
 case done =>
  intro D xs T1 A hD hP hi hdef ht hTD
  obtain ⟨-, hcr, hct⟩ := (HI.out _ _ _).1 hi
  rw [leastL_perm hP] at hcr hct
  have cr : A.cell? ⟨r0, 0, none⟩ = some (.int .u8 (leastL told).1) := hcr.cell 0
  have ct : A.cell? ⟨t0, 0, none⟩ = some (.bool (leastL told).2) := hct.cell 0
  have hbA : Veil (∀ B, (∀ k, k < w.heap.size → B.heap[k]? = A.heap[k]?) → B.os = A.os → B.tape = A.tape → B.output = A.output → A.heap.size ≤ B.heap.size → Below w.heap.size w B) := ⟨fun B h1 h2 h3 h4 h5 => ⟨(h2.trans ht.os).trans hb2.os, (h3.trans ht.tape).trans hb2.tape, (h4.trans ht.output).trans hb2.output, by have := ht.size; omega, fun k hk => ((h1 k hk).trans (ht.block k (by omega) (fun q => by rcases q with (q | q) | q; omega; omega; exact q))).trans (hb2.block k hk)⟩⟩
  have hcr' : CellsAt A r0 42 [.int .u8 (leastL told).1] := hcr
  have hct' : CellsAt A t0 4 [.bool (leastL told).2] := hct
  have hne : r0 ≠ t0 := by omega
  have hcr3 : CellsAt (A.drew.setCell ⟨r0, 0, none⟩ (.int .u8 (leastL told).1)) r0 42 [.int .u8 (leastL told).1] := (hcr'.congr (w' := A.drew) rfl).set 0 _
  have hct3 : CellsAt (A.drew.setCell ⟨r0, 0, none⟩ (.int .u8 (leastL told).1)) t0 4 [.bool (leastL told).2] := (hct'.congr (w' := A.drew) rfl).setOtherA _ _ (Ne.symm hne)
  have hcr4 : CellsAt ((A.drew.setCell ⟨r0, 0, none⟩ (.int .u8 (leastL told).1)).setCell ⟨t0, 0, none⟩ (.bool (leastL told).2)) r0 42 [.int .u8 (leastL told).1] := hcr3.setOtherA _ _ hne
  have hct4 : CellsAt ((A.drew.setCell ⟨r0, 0, none⟩ (.int .u8 (leastL told).1)).setCell ⟨t0, 0, none⟩ (.bool (leastL told).2)) t0 4 [.bool (leastL told).2] := hct3.set 0 _
  have hb4 : Veil (∀ k, k ≠ r0 → k ≠ t0 → ((A.drew.setCell ⟨r0, 0, none⟩ (.int .u8 (leastL told).1)).setCell ⟨t0, 0, none⟩ (.bool (leastL told).2)).heap[k]? = A.heap[k]?) := ⟨fun k h1 h2 => (Below.heap_setCell _ ⟨t0, 0, none⟩ _ k h2).trans (Below.heap_setCell A.drew ⟨r0, 0, none⟩ _ k h1)⟩
  have hz4 : Veil (((A.drew.setCell ⟨r0, 0, none⟩ (.int .u8 (leastL told).1)).setCell ⟨t0, 0, none⟩ (.bool (leastL told).2)).heap.size = A.heap.size) := ⟨by simp [World.setCell]⟩
  have hd4 : Veil (D ≠ r0 ∧ D ≠ t0) := ⟨by omega⟩
  have cr3 : (A.drew.setCell ⟨r0, 0, none⟩ (.int .u8 (leastL told).1)).cell? ⟨r0, 0, none⟩ = some (.int .u8 (leastL told).1) := hcr3.cell 0
  have ct3 : (A.drew.setCell ⟨r0, 0, none⟩ (.int .u8 (leastL told).1)).cell? ⟨t0, 0, none⟩ = some (.bool (leastL told).2) := hct3.cell 0
  have fr := (hcr'.congr (w' := A.drew) rfl).frozen 0
  have ft := hct3.frozen 0
  have ft0 := hct'.frozen 0
  have fr0 := hcr'.frozen 0
  have HDF := Veil.mk hdef
  generalize hRV : (leastL told).1 = RV at hcr hct cr ct cr3 ct3 hcr4 hct4 hb4 hz4 fr ft hcr3 hct3 hcr' hct' ⊢
  have HRV := Veil.mk hRV
  clear hRV
  generalize hTV : (leastL told).2 = TV at hcr hct cr ct cr3 ct3 hcr4 hct4 hb4 hz4 ft hcr3 hct3 hcr' hct' ⊢
  have HTV := Veil.mk hTV
  clear hTV hi hTD hP hcr hct hcr' hct' hcr3 hct3 hr2 ht2 hdef hne
  gi_wp2
  refine wpIn_thenF (wpIn_wide.2 ?_)
  refine wp_region_gateT (fun w' => w'.cell? ⟨r0, 0, none⟩ = some (.int .u8 RV) ∧ w'.cell? ⟨t0, 0, none⟩ = some (.bool TV)) (fun _ => True) 99 (by kernel_rfl) ?_
  have hT : (fun w' : World => w'.cell? ⟨r0, 0, none⟩ = some (.int .u8 RV) ∧ w'.cell? ⟨t0, 0, none⟩ = some (.bool TV)) A.drew := ⟨cr, ct⟩
  have hS : (fun _ : World => True) A.drew := trivial
  refine ghA 0 _ hT hS ?_
  simp only [Act.put, gA, gS, gZ, sI, sZ, sS]
  refine ghA 1 _ hT hS ?_
  simp only [Act.put, gA, gS, gZ, sI, sZ, sS]
  refine wpAnyT_one (i := 2) rfl (by kernel_rfl) (by kernel_rfl) (fun K hK => ?_)
  go_simp
  replace hT : (fun w' : World => w'.cell? ⟨r0, 0, none⟩ = some (.int .u8 RV) ∧ w'.cell? ⟨t0, 0, none⟩ = some (.bool TV)) (A.drew.setCell ⟨r0, 0, none⟩ (.int .u8 RV)) := ⟨cr3, ct3⟩
  replace hS : (fun _ : World => True) (A.drew.setCell ⟨r0, 0, none⟩ (.int .u8 RV)) := trivial
  refine hK.out _ _ hT (fun _ => hS) ?_
  clear hK K
  try simp only [Act.put, gA, gS, gZ, sI, sZ, sS]
  refine wpAnyT_one (i := 3) rfl (by kernel_rfl) (by kernel_rfl) (fun K hK => ?_)
  go_simp
  replace hT : (fun w' : World => w'.cell? ⟨r0, 0, none⟩ = some (.int .u8 RV) ∧ w'.cell? ⟨t0, 0, none⟩ = some (.bool TV)) ((A.drew.setCell ⟨r0, 0, none⟩ (.int .u8 RV)).setCell ⟨t0, 0, none⟩ (.bool TV)) := ⟨hcr4.cell 0, hct4.cell 0⟩
  replace hS : (fun _ : World => True) ((A.drew.setCell ⟨r0, 0, none⟩ (.int .u8 RV)).setCell ⟨t0, 0, none⟩ (.bool TV)) := trivial
  refine hK.out _ _ hT (fun _ => hS) ?_
  clear hK K
  try simp only [Act.put, gA, gS, gZ, sI, sZ, sS]
  refine wpAnyT_done (by kernel_rfl) ?_ _
  rw [show ((A.setCell ⟨r0, 0, none⟩ (.int .u8 RV)).setCell ⟨t0, 0, none⟩ (.bool TV)).drew = (A.drew.setCell ⟨r0, 0, none⟩ (.int .u8 RV)).setCell ⟨t0, 0, none⟩ (.bool TV) from rfl]
  have HO4 : Veil (((A.drew.setCell ⟨r0, 0, none⟩ (.int .u8 RV)).setCell ⟨t0, 0, none⟩ (.bool TV)).os = A.os ∧ ((A.drew.setCell ⟨r0, 0, none⟩ (.int .u8 RV)).setCell ⟨t0, 0, none⟩ (.bool TV)).tape = A.tape ∧ ((A.drew.setCell ⟨r0, 0, none⟩ (.int .u8 RV)).setCell ⟨t0, 0, none⟩ (.bool TV)).output = A.output) := ⟨rfl, rfl, rfl⟩
  generalize (A.drew.setCell ⟨r0, 0, none⟩ (.int .u8 RV)).setCell ⟨t0, 0, none⟩ (.bool TV) = W5 at hcr4 hct4 hb4 hz4 HO4 ⊢
  have hdefB : W5.heap[D]? = some (.deferred (some [])) := (hb4.out D hd4.out.1 hd4.out.2).trans HDF.out
  have HEND : Veil (CellsAt (W5.putObj D (.deferred none)) r0 42 [.int .u8 RV] ∧ CellsAt (W5.putObj D (.deferred none)) t0 4 [.bool TV] ∧ Below w.heap.size w (W5.putObj D (.deferred none))) := ⟨hcr4.congr (World.putObj_heap_other (Ne.symm hd4.out.1)), hct4.congr (World.putObj_heap_other (Ne.symm hd4.out.2)), hbA.out _ (fun k hk => (World.putObj_heap_other (by omega)).trans (hb4.out k (by omega) (by omega))) HO4.out.1 HO4.out.2.1 HO4.out.2.2 (by simp [World.putObj, hz4.out])⟩
  clear hT hS cr ct cr3 ct3 fr ft ft0 fr0 hcr4 hct4
  simp only [Exit.then]
  gi_wp2
  refine ⟨by simp, .inl ⟨_, _, rfl, run_takeDeferred hdefB, ?_⟩⟩
  exact ⟨_, results_c1 (p := 2) (q := 3) rfl _ rfl rfl HEND.out.1 HEND.out.2.1 Tryz.isAgg42 Tryz.isAgg4, by rw [HRV.out, HTV.out], HEND.out.2.2⟩
theorem afirst_any (who : Int) (w : World) :
    Calls Tryz.prog 106 #[.int .u8 who] w fun e w' => e = .returned (.int .u8 (if who = 0 then 3 else 0)) ∧ w' = w := by
 go_enter Tryz.func106, Tryz.ntmps106
 by_cases h : who = 0
 · subst h
   go_wp2
   go_ret
   exact ⟨rfl, rfl⟩
 · have hb : (who == 0) = false := by simpa using h
   have HR : Veil ((if who = 0 then (3 : Int) else 0) = 0) := ⟨if_neg h⟩
   go_wp2
   go_ret
   exact ⟨rfl, rfl⟩
set_option maxHeartbeats 4000000 in
theorem role_any (H b : Nat) (L : List Ent) (who : Int) (v : List Int) (w : World) (hB : BookC w H b L) (hv : v.length = 8) :
    Calls Tryz.prog 79 #[.pointer (some ⟨H, 0, none⟩), .int .u8 who, .agg (v.map (Value.int .u32)).toArray] w fun e w' => e = .returned (.int .u8 (roleP L who v)) ∧ Below w.heap.size w w' := by
 obtain ⟨W1, hW1⟩ : ∃ W, W = (w.alloc (.cells #[.int .u8 who] 5)).alloc (.cells (v.map (Value.int .u32)).toArray 37) := ⟨_, rfl⟩
 have hb1 : Below w.heap.size w W1 := by rw [hW1]; exact ((Below.refl _ _).alloc (Nat.le_refl _) _).alloc (by simp) _
 have cw1 : W1.cell? ⟨w.heap.size, 0, none⟩ = some (.int .u8 who) := by rw [hW1]; exact ((CellsAt.new w 5 [.int .u8 who]).alloc _).cell 0
 have cv1 : CellsAt W1 (w.heap.size + 1) 37 (v.map (Value.int .u32)) := by
  rw [hW1]
  have := CellsAt.new (w.alloc (.cells #[.int .u8 who] 5)) 37 (v.map (Value.int .u32))
  rw [World.size_alloc] at this; exact this
 have hBk1 := hB.far hb1
 have hco := counting_any H w.heap.size (w.heap.size + 1) W1
 have hsz1 : W1.heap.size = w.heap.size + 2 := by rw [hW1]; simp
 have HRP : Veil (roleP L who v = if 8 ≤ who then 0 else if (leastL (lastL (toldL L who v))).2 = true then (leastL (lastL (toldL L who v))).1 else if who = 0 then 3 else 0) := ⟨rfl⟩
 have HX : Veil (∀ W2, Below W1.heap.size W1 W2 → W2.heap.size = W1.heap.size + 2 → W2.cell? ⟨W1.heap.size, 0, none⟩ = some (.pointer (some ⟨H, 0, none⟩)) → W2.cell? ⟨W1.heap.size + 1, 0, none⟩ = some (.func (.func 103) #[] #[.pointer (some ⟨w.heap.size, 0, none⟩), .pointer (some ⟨w.heap.size + 1, 0, none⟩)]) →
     ∀ W3, W3 = W2.alloc (.cells #[.func (.func 119) #[] #[.pointer (some ⟨W1.heap.size, 0, none⟩), .pointer (some ⟨W1.heap.size + 1, 0, none⟩)]] 133) →
     (Calls Tryz.prog 104 #[.func (.func 120) #[] #[.pointer (some ⟨W2.heap.size, 0, none⟩)]] W3 fun e w' => e = .returned (.tuple #[.int .u8 (leastL (lastL (toldL L who v))).1, .bool (leastL (lastL (toldL L who v))).2]) ∧ Below W3.heap.size W3 w') ∧ Below w.heap.size w W3 ∧ W3.cell? ⟨w.heap.size, 0, none⟩ = some (.int .u8 who)) := ⟨fun W2 hb2 hs2 h1 h2 W3 hW3 => by
  have hb3 : Below W2.heap.size W2 W3 := by rw [hW3]; exact (Below.refl _ _).alloc (Nat.le_refl _) _
  have hC : CtF W2 W1.heap.size (W1.heap.size + 1) H b w.heap.size (w.heap.size + 1) L who v := ⟨h1, h2, hBk1.far hb2, (hb2.cell (p := ⟨w.heap.size, 0, none⟩) (block_lt_of_cell cw1)).trans cw1, (cv1.farM hb2).wholeM, hv⟩
  have hC3 : CtF W3 W1.heap.size (W1.heap.size + 1) H b w.heap.size (w.heap.size + 1) L who v := hC.keep (fun k hk => hb3.block k hk)
  have hlt : H < W3.heap.size ∧ b < W3.heap.size := ⟨hC3.book.cells.lt, hC3.book.map.lt⟩
  have hz3 : W3.heap.size = w.heap.size + 5 := by rw [hW3, World.size_alloc]; omega
  have hOwn : ∀ k, (k = b ∨ k = H ∨ k = W1.heap.size ∨ k = W1.heap.size + 1 ∨ k = w.heap.size ∨ k = w.heap.size + 1) → k < W3.heap.size := fun k hk => by
   rcases hk with rfl | rfl | rfl | rfl | rfl | rfl
   · exact hlt.2
   · exact hlt.1
   all_goals omega
  have hbe : W3.cell? ⟨W2.heap.size, 0, none⟩ = some (.func (.func 119) #[] #[.pointer (some ⟨W1.heap.size, 0, none⟩), .pointer (some ⟨W1.heap.size + 1, 0, none⟩)]) := by rw [hW3]; exact (CellsAt.new W2 133 [.func (.func 119) #[] #[.pointer (some ⟨W1.heap.size, 0, none⟩), .pointer (some ⟨W1.heap.size + 1, 0, none⟩)]]).cell 0
  have h21 := hb2.size
  refine ⟨least_any 120 _ (enters_of Tryz.func120 (by kernel_rfl) rfl) _ _ L.length W3 (fun m => last1_seq m W2.heap.size 119 _ (enters_of Tryz.func119 (by kernel_rfl) rfl) _ (toldL L who v) (fun x hx => ?_) L.length W3 (fun m => counting1_seq m W1.heap.size (W1.heap.size + 1) H b w.heap.size (w.heap.size + 1) L who v W3 hC3) hbe hOwn) (fun k hk => ?_), ?_, hC3.cw⟩
  · unfold toldL at hx
    obtain ⟨y, hy, rfl⟩ := List.mem_map.1 hx
    exact hB.map.ok y (List.mem_filter.1 hy).1
  · rcases hk with q | q
    · exact hOwn k q
    · omega
  · exact (hb1.trans (hb2.mono hb1.size)).trans (hb3.mono (by omega))⟩
 obtain ⟨LS, hLS⟩ : ∃ q, leastL (lastL (toldL L who v)) = q := ⟨_, rfl⟩
 obtain ⟨LR, LT⟩ := LS
 rw [hLS] at HX HRP
 have HW1 := Veil.mk hW1
 have HB1 := Veil.mk hb1
 clear hLS hB hv hBk1 cv1 hsz1 hW1 hb1
 generalize roleP L who v = RP at HRP ⊢
 generalize v.map (Value.int .u32) = V at HW1
 have cw0 : ((w.alloc (.cells #[.int .u8 who] 5)).alloc (.cells V.toArray 37)).cell? ⟨w.heap.size, 0, none⟩ = some (.int .u8 who) := by rw [← HW1.out]; exact cw1
 go_enter Tryz.func79, Tryz.ntmps79
 by_cases h8 : (8 : Int) ≤ who
 · have HE : Veil (RP = 0) := ⟨by rw [HRP.out, if_pos h8]⟩
   clear hco HX HRP
   go_wp2
   go_ret
   exact ⟨by rw [HE.out]; rfl, by rw [← HW1.out]; exact HB1.out⟩
 · replace HRP : Veil (RP = if LT = true then LR else if who = 0 then 3 else 0) := ⟨by rw [HRP.out, if_neg h8]⟩
   have hla := fun W2 => last_any 119 #[.pointer (some ⟨W1.heap.size, 0, none⟩), .pointer (some ⟨W1.heap.size + 1, 0, none⟩)] W2
   have haf := fun W4 => afirst_any who W4
   generalize (if who = 0 then (3 : Int) else 0) = F0 at haf HRP
   cases LT with
   | true =>
    replace HRP : Veil (RP = LR) := ⟨by rw [HRP.out]; rfl⟩
    go_wp2_with (first
     | (go_at_call 104; refine hle.mono ?_; rintro z W4 ⟨rfl, hb4⟩)
     | (go_at_call 105; refine (hla W2).mono ?_; rintro z W3 ⟨rfl, hW3⟩; obtain ⟨hle, hB3, cw3⟩ := HXX.out W3 hW3; clear hW3)
     | (go_at_call 102; rw [← HW1.out]; refine hco.mono ?_; rintro z W2 ⟨rfl, hb2, hs2, c1, c2⟩; have HXX := Veil.mk (HX.out W2 hb2 hs2 c1 c2); clear hs2 c1 c2 hb2))
    go_ret
    exact ⟨by rw [HRP.out]; rfl, hB3.trans (hb4.mono hB3.size)⟩
   | false =>
    replace HRP : Veil (RP = F0) := ⟨by rw [HRP.out]; rfl⟩
    go_wp2_with (first
     | (go_at_call 106; refine (haf W4).mono ?_; rintro z W5 ⟨rfl, rfl⟩)
     | (go_at_call 104; refine hle.mono ?_; rintro z W4 ⟨rfl, hb4⟩; have cw4 : W4.cell? ⟨w.heap.size, 0, none⟩ = some (.int .u8 who) := (hb4.cell (p := ⟨w.heap.size, 0, none⟩) (block_lt_of_cell cw3)).trans cw3)
     | (go_at_call 105; refine (hla W2).mono ?_; rintro z W3 ⟨rfl, hW3⟩; obtain ⟨hle, hB3, cw3⟩ := HXX.out W3 hW3; clear hW3)
     | (go_at_call 102; rw [← HW1.out]; refine hco.mono ?_; rintro z W2 ⟨rfl, hb2, hs2, c1, c2⟩; have HXX := Veil.mk (HX.out W2 hb2 hs2 c1 c2); clear hs2 c1 c2 hb2))
    go_ret
    exact ⟨by rw [HRP.out]; rfl, hB3.trans (hb4.mono hB3.size)⟩
def memTo (L : List Ent) (v : List Int) (k : Nat) : List Int := (List.range 8).map (fun i => if i < k then roleP L i v else 0)
def membersL (L : List Ent) (v : List Int) : List Int := (List.range 8).map (fun i => roleP L (i : Nat) v)
theorem memTo_len (L : List Ent) (v : List Int) (k : Nat) : (memTo L v k).length = 8 := by unfold memTo; simp
theorem membersL_len (L : List Ent) (v : List Int) : (membersL L v).length = 8 := by unfold membersL; simp
theorem memTo_8 (L : List Ent) (v : List Int) : memTo L v 8 = membersL L v := by
 unfold memTo membersL
 refine List.map_congr_left fun i hi => ?_
 rw [if_pos (List.mem_range.1 hi)]
theorem memTo_set (L : List Ent) (v : List Int) (k : Nat) : memTo L v (k + 1) = (memTo L v k).set k (roleP L (k : Nat) v) := by
 apply List.ext_getElem?
 intro j
 unfold memTo
 rw [List.getElem?_set]
 by_cases hj : j < 8
 · by_cases e : k = j
   · subst e
     simp [hj]
   · rw [if_neg e]
     simp [hj]
     by_cases h : j < k
     · rw [if_pos h, if_pos (by omega)]
     · rw [if_neg h, if_neg (by omega)]
 · by_cases e : k = j
   · subst e; simp [hj]
   · rw [if_neg e]; simp [hj]
theorem holds_farA {w w' : World} {g : Nat} {k : IntKind} {t : TypeId} {l : List Int} (h : Holds w g k t l) (hb : Below w.heap.size w w') : Holds w' g k t l := (hb.block g (Array.getElem?_eq_some_iff.1 h).1).trans h
theorem sizeR8 : (Tryz.prog.info? 49).map (·.size) = some 8 := by kernel_rfl
set_option maxHeartbeats 2000000 in
theorem members_any (H b : Nat) (L : List Ent) (v : List Int) (w : World) (hB : BookC w H b L) (hv : v.length = 8) :
    Calls Tryz.prog 47 #[.pointer (some ⟨H, 0, none⟩), .agg (row .u32 v)] w fun e w' => e = .returned (.agg (row .u8 (membersL L v))) ∧ Below w.heap.size w w' := by
 have hv0 := Holds.new w .u32 37 v
 have hr0 := Holds.new (w.alloc (.cells (row .u32 v) 37)) .u8 49 [0, 0, 0, 0, 0, 0, 0, 0]
 rw [World.size_alloc] at hr0
 have hv1 := (hv0.alloc (.cells (row .u8 [0, 0, 0, 0, 0, 0, 0, 0]) 49)).alloc (.cells (row .u8 [0, 0, 0, 0, 0, 0, 0, 0]) 49)
 have hr1 := hr0.alloc (.cells (row .u8 [0, 0, 0, 0, 0, 0, 0, 0]) 49)
 have hs1 := Holds.new ((w.alloc (.cells (row .u32 v) 37)).alloc (.cells (row .u8 [0, 0, 0, 0, 0, 0, 0, 0]) 49)) .u8 49 [0, 0, 0, 0, 0, 0, 0, 0]
 rw [World.size_alloc, World.size_alloc] at hs1
 have hBw : Below w.heap.size w (((w.alloc (.cells (row .u32 v) 37)).alloc (.cells (row .u8 [0, 0, 0, 0, 0, 0, 0, 0]) 49)).alloc (.cells (row .u8 [0, 0, 0, 0, 0, 0, 0, 0]) 49)) := (((Below.refl _ _).alloc (Nat.le_refl _) _).alloc (by simp) _).alloc (by simp; omega) _
 have HRO : Veil (∀ W, Below w.heap.size w W → ∀ who, Calls Tryz.prog 79 #[.pointer (some ⟨H, 0, none⟩), .int .u8 who, .agg (row .u32 v)] W fun e w' => e = .returned (.int .u8 (roleP L who v)) ∧ Below W.heap.size W w') := ⟨fun W hb who => role_any H b L who v W (hB.far hb) hv⟩
 have HV := Veil.mk hv
 clear hv0 hr0 hB hv
 go_enter Tryz.func47, Tryz.ntmps47
 go_wp2_with fail
 obtain ⟨Z, hZ⟩ : ∃ Z : List Int, Z = [0, 0, 0, 0, 0, 0, 0, 0] := ⟨_, rfl⟩
 have HZ : Veil (Z.length = 8) := ⟨by rw [hZ]; rfl⟩
 have hM0 : memTo L v 0 = [0, 0, 0, 0, 0, 0, 0, 0] := rfl
 refine forget (p := fun y => Code.wp _ _ _ _ y) (fun W => Below w.heap.size w W ∧ Holds W w.heap.size .u32 37 v ∧ Holds W (w.heap.size + 1) .u8 49 Z ∧ Holds W (w.heap.size + 1 + 1) .u8 49 (memTo L v 0)) ⟨hBw, hv1, by rw [hZ]; exact hr1, by rw [hM0]; exact hs1⟩ ?_
 clear hBw hv1 hr1 hs1 hZ hM0
 rintro W ⟨hBw, hv1, hr1, hs1⟩
 go_loopw [6, 7] (fun _ i wr => ∃ k : Nat, k ≤ 8 ∧ i = .int .i64 k ∧ Below w.heap.size w wr ∧ Holds wr w.heap.size .u32 37 v ∧ Holds wr (w.heap.size + 1) .u8 49 Z ∧ Holds wr (w.heap.size + 1 + 1) .u8 49 (memTo L v k)) (fun _ i _ => 8 - (intOf i).toNat)
 case atStart => exact ⟨0, by omega, rfl, hBw, hv1, hr1, hs1⟩
 case round =>
  clear hBw hv1 hr1 hs1
  obtain ⟨k, hk, rfl, hB, hv1, hr1, hs1⟩ := hrel
  by_cases hlt : k < 8
  · have hki : (0 : Int) ≤ (k : Int) := by omega
    have hkl : (k : Int) < 8 := by omega
    have hkw : IntKind.u8.wrap (k : Int) = (k : Int) := by simp [IntKind.wrap, IntKind.bits, IntKind.signed]; omega
    have hl8 := HV.out
    have hro := HRO.out wr hB (k : Nat)
    have HSE : Veil (∀ W6, Below wr.heap.size wr W6 → Below w.heap.size w W6 ∧ Holds W6 w.heap.size .u32 37 v ∧ Holds W6 (w.heap.size + 1) .u8 49 Z ∧ Holds W6 (w.heap.size + 1 + 1) .u8 49 (memTo L v k)) := ⟨fun W6 hb => ⟨hB.trans (hb.mono hB.size), holds_farA hv1 hb, holds_farA hr1 hb, holds_farA hs1 hb⟩⟩
    have HST : Veil (memTo L v (k + 1) = (memTo L v k).set k (roleP L (k : Nat) v)) := ⟨memTo_set L v k⟩
    have HLN : Veil ((memTo L v k).length = 8) := ⟨memTo_len L v k⟩
    clear hB hr1 hs1
    generalize roleP L (k : Nat) v = RK at hro HST
    go_wp2_with (first
     | (refine wpList_ld rfl 37 _ rfl _ rfl hv1 Tryz.underlying37 sizeV8 hl8 ?_)
     | (go_at_call 79; refine hro.mono ?_; rintro z W6 ⟨rfl, hb6⟩; obtain ⟨hB6, hv6, hr6, hs6⟩ := HSE.out W6 hb6; clear hb6; have c6 := hs6.cell k (by rw [HLN.out]; exact hlt); have f6 := hs6.frozen k))
    go_roundw
    case rel => exact ⟨k + 1, by omega, by go_num, hB6.setCell (by simp; omega) _, hv6.setOther _ _ (by simp; omega), hr6.setOther _ _ (by simp), by rw [HST.out]; exact hs6.set k _⟩
    case measure => simp [intOf]; omega
  · obtain rfl : k = 8 := by omega
    have hz8 := HZ.out
    have HJ : Veil (membersL L v = memTo L v 8) := ⟨(memTo_8 L v).symm⟩
    have hj8 := memTo_len L v 8
    obtain ⟨J, hJ⟩ : ∃ J, memTo L v 8 = J := ⟨_, rfl⟩
    rw [hJ] at hs1 HJ hj8
    clear hJ HRO HV
    go_wp2_with (first
     | (refine wpList_ld rfl 49 _ rfl _ rfl hs1 Tryz.underlying49 sizeR8 hj8 ?_)
     | (refine wpList_st rfl 49 _ _ rfl _ rfl rfl hr1 (by rw [hj8]; exact sizeR8) (by rw [hz8, hj8]) ?_))
    refine bodyPost_ret (results_holds (Tryz.results47) _ rfl (hr1.setRow _) Tryz.underlying49 sizeR8 hj8) rfl ⟨?_, ?_⟩
    · rw [HJ.out]
    · exact below_setRow hB (by omega) _
theorem blen_any (H b : Nat) (L : List Ent) (w : World) (hB : BookC w H b L) :
    Calls Tryz.prog 130 #[.pointer (some ⟨H, 0, none⟩)] w fun e w' => e = .returned (.int .i64 L.length) ∧ w' = w := by
 have cM := hB.mapCell
 have hln := fun ty => hB.map.len Tryz.underlying127 ty
 clear hB
 generalize (L.length : Int) = n at hln ⊢
 go_enter Tryz.func130, Tryz.ntmps130
 go_wp2
 go_ret
 exact ⟨rfl, rfl⟩
theorem bnew_any (w : World) : Calls Tryz.prog 71 #[] w fun e w' => ∃ H b, e = .returned (.pointer (some ⟨H, 0, none⟩)) ∧ BookC w' H b [] ∧ Below w.heap.size w w' ∧ w.heap.size ≤ b ∧ w.heap.size ≤ H := by
 have hM := BookAt.made w
 have hc : CellsAt ((w.alloc (.map #[] 0)).alloc (.cells #[.map (some w.heap.size)] 129)) (w.heap.size + 1) 129 [.map (some w.heap.size)] := by
  have := CellsAt.new (w.alloc (.map #[] 0)) 129 [.map (some w.heap.size)]
  rw [World.size_alloc] at this; exact this
 have HB : Veil (BookC ((w.alloc (.map #[] 0)).alloc (.cells #[.map (some w.heap.size)] 129)) (w.heap.size + 1) w.heap.size [] ∧ Below w.heap.size w ((w.alloc (.map #[] 0)).alloc (.cells #[.map (some w.heap.size)] 129))) := ⟨⟨hc, hM.congr (Below.heap_alloc _ _ _ (by simp))⟩, ((Below.refl _ _).alloc (Nat.le_refl _) _).alloc (by simp) _⟩
 have hmm := @run_makeMap Tryz.prog
 clear hM hc
 go_enter Tryz.func71, Tryz.ntmps71
 go_wp2
 go_ret
 exact ⟨_, _, rfl, HB.out.1, HB.out.2, by omega, by omega⟩
end Go.Proofs.YtmbdohnmbkpfaaaGreat
