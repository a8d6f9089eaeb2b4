/- Bf8 -/
import Derived.Test.YthjkcfpdkhghpaaH20
namespace Go.Proofs.Ythjkcfpdkhghpaa
open Go.RowKit Go.Shelf
set_option maxRecDepth 20000
set_option linter.unusedSimpArgs false
theorem Takes.len {S : List Int} {L xs : List Ev} {S2 : List Int} {L2 : List Ev} (h : Takes S L xs S2 L2) (hs : sortedE L) : xs.length + L2.length = L.length := by
  induction h with
  | done => simp
  | step S L e xs S2 L2 hf h ht ih =>
    have h1 := ih (sorted_delE hs _)
    have h2 := length_delE hs (firstR_mem h).1
    simp; omega
theorem Takes.ok {S : List Int} {L xs : List Ev} {S2 : List Int} {L2 : List Ev} (h : Takes S L xs S2 L2) (hk : ∀ e ∈ L, e.Ok) : ∀ e ∈ xs, e.Ok := by
  induction h with
  | done => simp
  | step S L e xs S2 L2 hf h ht ih =>
    intro x hx
    rcases List.mem_cons.1 hx with rfl | q
    · exact hk x (firstR_mem h).1
    · exact ih (fun y hy => hk y (mem_delE hy)) x q
theorem Takes.few {S : List Int} {L xs : List Ev} {S2 : List Int} {L2 : List Ev} {e : Ev} (h : Takes S (insE e L) xs S2 L2) (hs : sortedE L) (hl : lookE L e.dot = none) (h16 : L.length ≤ 16) (hr : refN S L e = 0) : L2.length ≤ 16 := by
  have h1 := h.len (sorted_insE hs e hl)
  rw [length_insE] at h1
  by_cases hx : xs = []
  · subst hx
    cases h with
    | done _ _ hd =>
      unfold refN at hr
      rw [hl] at hr
      split at hr
      · cases hr
      split at hr
      · cases hr
      simp only at hr
      split at hr
      · cases hr
      rename_i hnf
      rcases hd with q | q
      · exact absurd q hnf
      · split at hr
        · rename_i hrd
          unfold firstR at q
          rw [List.find?_eq_none] at q
          exact absurd hrd (q e ((mem_insE e e L).2 (.inl rfl)))
        · split at hr
          · cases hr
          · rw [length_insE]; omega
  · have : 0 < xs.length := List.length_pos_iff.2 hx
    omega
theorem refN_look {S : List Int} {L : List Ev} {e : Ev} (hr : refN S L e = 0) : lookE L e.dot = none := by
  cases h : lookE L e.dot with
  | none => rfl
  | some k =>
    unfold refN at hr
    rw [h] at hr
    split at hr
    · cases hr
    split at hr
    · cases hr
    simp only at hr
    split at hr <;> cases hr
set_option maxHeartbeats 8000000 in
theorem put_no (H b : Nat) (S : List Int) (L : List Ev) (e : Ev) (w : World) (hC : BufC w H b S L) (he : e.Ok) (hL : L.length ≤ 16) (hn : ¬ refN S L e = 0) :
    Calls Try.prog 7 #[.pointer (some ⟨H, 0, none⟩), .agg e.cells.toArray] w fun r w' => r = .returned (.tuple #[.slice none 0 0, .int .i64 (refN S L e)]) ∧ Below w.heap.size w w' := by
  have hB0 : Below w.heap.size w (w.alloc (.cells e.cells.toArray 38)) := (Below.refl _ _).alloc (Nat.le_refl _) _
  have hx0 := CellsAt.new w 38 e.cells
  have iE : (Try.prog.info? 38).map (·.size) = some e.cells.length := by rw [ev_len e he.past]; kernel_rfl
  have uE := Try.underlying38
  have hr := refuse_any H b S L e _ (hC.far hB0) he (by omega)
  have hrE := hx0.wholeM
  generalize refN S L e = RN at hn hr ⊢
  have hn2 : (RN == 0) = false := by simpa using hn
  generalize e.cells = E at hB0 hx0 iE hr hrE ⊢
  clear hC he hL hx0
  go_enter Try.func7, Try.ntmps7
  go_wp2_with (first
    | (refine wpList_ldv rfl 38 _ rfl w.heap.size 0 rfl E hrE uE rfl iE ?_)
    | (go_at_call 17; refine hr.mono ?_; rintro x W1 ⟨rfl, hb1⟩))
  go_ret2
  exact ⟨rfl, hB0.trans (hb1.mono hB0.size)⟩
set_option maxHeartbeats 8000000 in
theorem put_ok (H b : Nat) (S : List Int) (L : List Ev) (e : Ev) (w : World) (hC : BufC w H b S L) (he : e.Ok) (hL : L.length ≤ 16) (hn : refN S L e = 0) :
    Calls Try.prog 7 #[.pointer (some ⟨H, 0, none⟩), .agg e.cells.toArray] w fun r w' => ∃ v xs S2 L2, r = .returned (.tuple #[v, .int .i64 0]) ∧ Takes S (insE e L) xs S2 L2 ∧ BufC w' H b S2 L2 ∧ OwnI w' w.heap.size 38 17 v (xs.map Ev.cells) ∧ Turn (fun k => k = b ∨ k = H) w w' := by
  have hB0 : Below w.heap.size w (w.alloc (.cells e.cells.toArray 38)) := (Below.refl _ _).alloc (Nat.le_refl _) _
  have hx0 := CellsAt.new w 38 e.cells
  have iE : (Try.prog.info? 38).map (·.size) = some e.cells.length := by rw [ev_len e he.past]; kernel_rfl
  have iD : (Try.prog.info? 32).map (·.size) = some (dotC e.da e.ds).length := sizeDot
  have uE := Try.underlying38
  have uD := Try.underlying32
  have hr := refuse_any H b S L e _ (hC.far hB0) he (by omega)
  rw [hn] at hr
  have hlk := refN_look hn
  have hrE := hx0.wholeM
  have HC := Veil.mk hC
  have HE := Veil.mk he
  have HL := Veil.mk hL
  have HLK := Veil.mk hlk
  obtain ⟨E, hE⟩ : ∃ E, e.cells = E := ⟨_, rfl⟩
  have HEQ := Veil.mk hE
  rw [hE] at hB0 hx0 iE hr hrE
  rw [hE]
  clear hC he hL hE hn hlk
  go_enter Try.func7, Try.ntmps7
  go_upto_region 4 with (first
    | (refine wpList_ldv rfl 38 _ rfl w.heap.size 0 rfl E hrE uE rfl iE ?_)
    | (go_at_call 17; refine hr.mono ?_; rintro x W1 ⟨rfl, hb1⟩))
  have hB1 : Below w.heap.size w W1 := hB0.trans (hb1.mono hB0.size)
  have hx1 := hx0.farM hb1
  clear hr hrE hb1 hB0 hx0
  have hC1 := HC.out.far hB1
  have hr1 := hx1.wholeM
  have hd1 := hx1.range 0 2
  rw [← HEQ.out, (ev_parts e HE.out.past).1] at hd1
  have cM := hC1.mapCell
  obtain ⟨W2, hrun, hw2, hg2⟩ := (hC1.wait.congr (w' := W1.drew) rfl).store Try.underlying52 (by have := HL.out; omega) e HE.out HLK.out
  rw [HEQ.out] at hrun
  have hxb := hC1.wait.cellsNe hx1
  have hHb := hC1.wait.cellsNe hC1.cells
  have HG2 := Veil.mk hg2
  have hC2 : BufC W2 H b S (insE e L) := ⟨hC1.cells.congr (hg2.block H hC1.cells.lt (fun q => hHb (Option.some.inj q).symm)), hw2, hC1.len, hC1.rng⟩
  have hx2 : CellsAt W2 w.heap.size 38 E := hx1.congr (hg2.block _ hx1.lt (fun q => hxb (Option.some.inj q).symm))
  have hT2 : W2.cell? ⟨H, 8, none⟩ = some (.map (some b)) ∧ W2.rangeAt w.heap.size 0 E ∧ W2.rangeAt w.heap.size 0 (dotC e.da e.ds) := ⟨hC2.mapCell, hx2.wholeM, by have := hx2.range 0 2; rw [← HEQ.out, (ev_parts e HE.out.past).1] at this; exact this⟩
  refine wp_region_gateT (fun w' => w'.cell? ⟨H, 8, none⟩ = some (.map (some b)) ∧ w'.rangeAt w.heap.size 0 E ∧ w'.rangeAt w.heap.size 0 (dotC e.da e.ds)) (fun _ => True) 99 (by kernel_rfl) ?_
  have hT : (fun w' : World => w'.cell? ⟨H, 8, none⟩ = some (.map (some b)) ∧ w'.rangeAt w.heap.size 0 E ∧ w'.rangeAt w.heap.size 0 (dotC e.da e.ds)) W1.drew := ⟨cM, hr1, hd1⟩
  have hS : (fun _ : World => True) W1.drew := trivial
  clear hg2 hw2 hr1 hd1 cM
  refine wpAnyT_held (i := 0) (v := ?_) rfl (by kernel_rfl) (by kernel_rfl) (by kernel_rfl) (fun _ _ _ h => h) (by kernel_rfl) hT (fun _ => hS) (by kernel_rfl) ?_ ?_
  rotate_left
  · intro wx hSw; go_split_ands; go_simp; try with_reducible rfl
  simp only [Act.put, List.getElem_toArray, List.getElem_cons_succ, List.getElem_cons_zero, List.setIfInBounds_toArray, List.set_cons_zero, List.set_cons_succ]
  refine wpAnyT_held (i := 1) (v := ?_) rfl (by kernel_rfl) (by kernel_rfl) (by kernel_rfl) (fun _ _ _ h => h) (by kernel_rfl) hT (fun _ => hS) (by kernel_rfl) ?_ ?_
  rotate_left
  · intro wx hSw; go_split_ands; go_simp; try with_reducible rfl
  simp only [Act.put, List.getElem_toArray, List.getElem_cons_succ, List.getElem_cons_zero, List.setIfInBounds_toArray, List.set_cons_zero, List.set_cons_succ]
  refine wpAnyT_held (i := 2) (v := ?_) rfl (by kernel_rfl) (by kernel_rfl) (by kernel_rfl) (fun _ _ _ h => h) (by kernel_rfl) hT (fun _ => hS) (by kernel_rfl) ?_ ?_
  rotate_left
  · intro wx hSw; go_split_ands; go_simp; try with_reducible rfl
  simp only [Act.put, List.getElem_toArray, List.getElem_cons_succ, List.getElem_cons_zero, List.setIfInBounds_toArray, List.set_cons_zero, List.set_cons_succ]
  refine wpAnyT_held (i := 3) (v := ?_) rfl (by kernel_rfl) (by kernel_rfl) (by kernel_rfl) (fun _ _ _ h => h) (by kernel_rfl) hT (fun _ => hS) (by kernel_rfl) ?_ ?_
  rotate_left
  · intro wx hSw; go_split_ands; go_simp; try with_reducible rfl
  simp only [Act.put, List.getElem_toArray, List.getElem_cons_succ, List.getElem_cons_zero, List.setIfInBounds_toArray, List.set_cons_zero, List.set_cons_succ]
  refine wpAnyT_held (i := 4) (v := ?_) rfl (by kernel_rfl) (by kernel_rfl) (by kernel_rfl) (fun _ _ _ h => h) (by kernel_rfl) hT (fun _ => hS) (by kernel_rfl) ?_ ?_
  rotate_left
  · intro wx hSw; go_split_ands; go_simp; try with_reducible rfl
  simp only [Act.put, List.getElem_toArray, List.getElem_cons_succ, List.getElem_cons_zero, List.setIfInBounds_toArray, List.set_cons_zero, List.set_cons_succ]
  refine wpAnyT_load (i := 5) (dst := some 18) (ty := 32) (x := .tmp 17) (b := w.heap.size) (o := (0)) (cs := (dotC e.da e.ds)) (by kernel_rfl) (by kernel_rfl) (by kernel_rfl) (by kernel_rfl) (by kernel_rfl) (fun _ _ _ h => h) (by kernel_rfl) hT (fun _ => hS) (by kernel_rfl) (fun _ h => h.2.2) uD rfl iD ?_
  simp only [Act.put, List.getElem_toArray, List.getElem_cons_succ, List.getElem_cons_zero, List.setIfInBounds_toArray, List.set_cons_zero, List.set_cons_succ]
  refine wpAnyT_load (i := 6) (dst := some 19) (ty := 38) (x := .tmp 3) (b := w.heap.size) (o := (0)) (cs := E) (by kernel_rfl) (by kernel_rfl) (by kernel_rfl) (by kernel_rfl) (by kernel_rfl) (fun _ _ _ h => h) (by kernel_rfl) hT (fun _ => hS) (by kernel_rfl) (fun _ h => h.2.1) uE rfl iE ?_
  simp only [Act.put, List.getElem_toArray, List.getElem_cons_succ, List.getElem_cons_zero, List.setIfInBounds_toArray, List.set_cons_zero, List.set_cons_succ]
  refine wpAnyT_one (i := 7) rfl (by kernel_rfl) (by kernel_rfl) (fun K hK => ?_)
  refine wpx_upd _ _ _ _ rfl _ _ _ W2 rfl rfl rfl hrun ?_
  replace hT : (fun w' : World => w'.cell? ⟨H, 8, none⟩ = some (.map (some b)) ∧ w'.rangeAt w.heap.size 0 E ∧ w'.rangeAt w.heap.size 0 (dotC e.da e.ds)) W2 := hT2
  replace hS : (fun _ : World => True) W2 := trivial
  refine hK.out _ _ hT (fun _ => hS) ?_
  clear hK K
  try simp only [Act.put, List.getElem_toArray, List.getElem_cons_succ, List.getElem_cons_zero, List.setIfInBounds_toArray, List.set_cons_zero, List.set_cons_succ]
  refine wpAnyT_done (by kernel_rfl) ?_ _
  have hs2 : w.heap.size + 1 ≤ W2.heap.size := hx2.lt
  have HT2 : Veil (Turn (fun k => k = b ∨ k = H) w W2) := ⟨(Turn.of_below hB1.drew).trans (Turn.of_grown HG2.out (fun k q => .inl (Option.some.inj q).symm))⟩
  clear hT hS hT2 hrun hB1 hx1 hC1 hxb HG2 hx2
  have htk := taken_any (some ⟨H, 0, none⟩) W2
  have hcB : (W2.alloc (.cells #[.pointer (some ⟨H, 0, none⟩)] 23)).cell? ⟨W2.heap.size, 0, none⟩ = some (.pointer (some ⟨H, 0, none⟩)) := (CellsAt.new W2 23 [.pointer (some ⟨H, 0, none⟩)]).cell 0
  have hC3 := hC2.far ((Below.refl _ _).alloc (Nat.le_refl _) (.cells #[.pointer (some ⟨H, 0, none⟩)] 23))
  have hl3 : (insE e L).length ≤ 1000 := by rw [length_insE]; have := HL.out; omega
  have hco := colE_any Ev.cells (fun x => x.Ok) (fun x hx => ⟨ev_len x hx.past, ev_one x⟩) 31 #[.pointer (some ⟨W2.heap.size, 0, none⟩)] (enters_of Try.func31 (by kernel_rfl) rfl) _ _ _ _ (by omega) _ (fun n => taken1_seq n W2.heap.size H b S (insE e L) _ hcB hC3 hl3) (fun k hk => by rcases hk with rfl | rfl | rfl; exact hC3.wait.lt; exact hC3.cells.lt; rw [World.size_alloc]; omega) (fun xs A B h hs => ⟨by obtain ⟨S2, L2, h1, h2⟩ := h.out; exact ⟨S2, L2, h1, h2.congr (hs.block H (.inr (.inl rfl))) (hs.block b (.inl rfl))⟩⟩)
  clear hC2 hC3 hcB hl3
  go_wp2_with (first
    | (go_at_call 19; refine htk.mono ?_; rintro x W3 ⟨rfl, rfl⟩)
    | (go_at_call 18; refine hco.mono ?_; rintro x W4 ⟨v, xs, rfl, h1, h2, h3, h4⟩))
  go_ret2
  obtain ⟨S2, L2, g1, g2⟩ := h3.out
  refine ⟨_, xs, S2, L2, rfl, g1, g2, h1.less (by rw [World.size_alloc]; omega), (HT2.out.trans (Turn.of_below ((Below.refl _ _).alloc (Nat.le_refl _) _))).trans h4⟩
set_option maxHeartbeats 4000000 in
theorem seen_any (H b : Nat) (S : List Int) (L : List Ev) (w : World) (hC : BufC w H b S L) :
    Calls Try.prog 10 #[.pointer (some ⟨H, 0, none⟩)] w fun r w' => r = .returned (.agg (S.map (Value.int .u32)).toArray) ∧ Below w.heap.size w w' := by
  have hz0 := CellsAt.new w 34 [.int .u32 0, .int .u32 0, .int .u32 0, .int .u32 0, .int .u32 0, .int .u32 0, .int .u32 0, .int .u32 0]
  have hB0 : Below w.heap.size w (w.alloc (.cells #[.int .u32 0, .int .u32 0, .int .u32 0, .int .u32 0, .int .u32 0, .int .u32 0, .int .u32 0, .int .u32 0] 34)) := (Below.refl _ _).alloc (Nat.le_refl _) _
  have hsr := (hC.far hB0).seenR
  have iV : (Try.prog.info? 34).map (·.size) = some (S.map (Value.int .u32)).length := by rw [List.length_map, hC.len]; exact sizeV8c
  have uV := Try.underlying34
  have HL8 : Veil (8 = (S.map (Value.int .u32)).length) := ⟨by rw [List.length_map, hC.len]⟩
  have h1 : ∀ v ∈ S.map (Value.int .u32), v.oneCell' = true := fun v hv => by obtain ⟨x, _, rfl⟩ := List.mem_map.1 hv; rfl
  have HB2 : Veil (Below w.heap.size w ((w.alloc (.cells #[.int .u32 0, .int .u32 0, .int .u32 0, .int .u32 0, .int .u32 0, .int .u32 0, .int .u32 0, .int .u32 0] 34)).setRow w.heap.size (S.map (Value.int .u32)).toArray)) := ⟨⟨rfl, rfl, rfl, by simp [World.setRow, World.putObj], fun k hk => (setRow_other _ _ _ _ (by omega)).trans (Below.heap_alloc w _ k hk)⟩⟩
  have HZ := Veil.mk (hz0.setRow (S.map (Value.int .u32)))
  generalize S.map (Value.int .u32) = SV at hsr iV HL8 h1 HB2 HZ ⊢
  clear hC
  go_enter Try.func10, Try.ntmps10
  go_wp2_with (first
    | (refine wpList_ldv rfl 34 _ rfl H 0 rfl SV hsr uV rfl iV ?_)
    | (refine wpList_stv rfl 34 _ _ rfl w.heap.size rfl rfl hz0 iV HL8.out h1 ?_))
  refine bodyPost_ret (results_cells (Try.results10) _ rfl HZ.out uV rfl iV) rfl ?_
  exact ⟨rfl, HB2.out⟩
set_option maxHeartbeats 4000000 in
theorem new_any (w : World) :
    Calls Try.prog 5 #[] w fun r w' => ∃ H b, r = .returned (.pointer (some ⟨H, 0, none⟩)) ∧ BufC w' H b [0, 0, 0, 0, 0, 0, 0, 0] [] ∧ Below w.heap.size w w' ∧ w.heap.size ≤ b ∧ w.heap.size ≤ H := by
  have hw := WaitAt.made w
  have hc := CellsAt.new (w.alloc (.map #[] 0)) 54 [.int .u32 0, .int .u32 0, .int .u32 0, .int .u32 0, .int .u32 0, .int .u32 0, .int .u32 0, .int .u32 0, .map (some w.heap.size)]
  have hb : Below w.heap.size w ((w.alloc (.map #[] 0)).alloc (.cells #[.int .u32 0, .int .u32 0, .int .u32 0, .int .u32 0, .int .u32 0, .int .u32 0, .int .u32 0, .int .u32 0, .map (some w.heap.size)] 54)) := ((Below.refl _ _).alloc (Nat.le_refl _) _).alloc (by simp) _
  rw [World.size_alloc] at hc
  have HEND : Veil (BufC ((w.alloc (.map #[] 0)).alloc (.cells #[.int .u32 0, .int .u32 0, .int .u32 0, .int .u32 0, .int .u32 0, .int .u32 0, .int .u32 0, .int .u32 0, .map (some w.heap.size)] 54)) (w.heap.size + 1) w.heap.size [0, 0, 0, 0, 0, 0, 0, 0] []) := ⟨⟨hc, hw.far ((Below.refl _ _).alloc (Nat.le_refl _) _), rfl, by decide⟩⟩
  have hmm := @run_makeMap Try.prog
  clear hw hc
  go_enter Try.func5, Try.ntmps5
  go_wp2
  go_ret
  exact ⟨_, _, rfl, HEND.out, hb, Nat.le_refl _, by omega⟩
end Go.Proofs.Ythjkcfpdkhghpaa
