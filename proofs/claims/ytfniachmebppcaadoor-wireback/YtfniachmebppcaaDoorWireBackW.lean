/- The statement WireBack, walked. -/
import Derived.Test.YtfniachmebppcaaDoorRe6
import Derived.Test.YtfniachmebppcaaDoorWl
import Derived.Test.YtfniachmebppcaaDoorGskip
import Derived.Laws.StructEq
namespace Go.Proofs.YtfniachmebppcaaDoor
open Go.RowKit
set_option maxRecDepth 20000
set_option linter.unusedSimpArgs false

theorem CellsAt.far2 {w w' : World} {g : Nat} {t : TypeId} {cs : List Value} (h : CellsAt w g t cs) (hb : Below w.heap.size w w') : CellsAt w' g t cs := by
  have hl := h.lt
  unfold CellsAt at h ⊢; rw [hb.block g hl]; exact h
theorem event_same (E : Ev) (h : E.past.length = 8) (wx : World) : (binOp BinOp.eql 47 (.agg E.cells.toArray) (.agg E.cells.toArray)).run Tryd.prog wx = .ok (.bool true) wx := by
  obtain ⟨da, ds, past, kind, pa, ps, right, char, who, role⟩ := E
  obtain ⟨p0, p1, p2, p3, p4, p5, p6, p7, rfl⟩ := list8 past h
  have hr : (Op.equalIn 9999 43 (.agg (row .u32 [p0, p1, p2, p3, p4, p5, p6, p7])) (.agg (row .u32 [p0, p1, p2, p3, p4, p5, p6, p7]))).run Tryd.prog wx = .ok true wx := by
    have := run_equalIn_rows (P := Tryd.prog) wx 9997 .u32 [p0, p1, p2, p3, p4, p5, p6, p7] [p0, p1, p2, p3, p4, p5, p6, p7] Tryd.underlying43 Tryd.underlying22 (by kernel_rfl) (by kernel_rfl) rfl rfl
    rw [this, beq_self_eq_true]
  simp only [row, List.map_cons, List.map_nil] at hr
  rw [run_eql_struct]
  simp [Ev.cells, dotC, go_sem, hr]

set_option maxHeartbeats 4000000 in
theorem back_walk (E : Ev) (x : Option Addr) (n c : Nat) (z : List Int) (w : World) (hT : BTab w) (hE : E.In) (hb : Bytes w x n c z) (hz : ∀ v ∈ z, b8 v) :
    Calls Tryd.prog 6 #[.agg E.cells.toArray, .slice x n c] w fun e w' => e = .returned (.bool true) ∧ Below w.heap.size w w' := by
  obtain ⟨hall, hof⟩ := event_back E hE
  have hin := event_in E hE
  have hev := fun wx => Event_any E wx hE.plen
  have hrb : revB (eventL E) = E := by unfold revB; rw [if_pos hall, hof]
  have hre : revE (eventL E) = 0 := by unfold revE; rw [if_pos hall]
  have hr1 := fun (y : Option Addr) (m d : Nat) wx (h : Bytes wx y m d (eventL E)) => ReadEvent_any y m d (eventL E) wx h hin
  rw [hrb, hre] at hr1
  have hr2 := fun wx (h : Below w.heap.size w wx) => ReadEvent_any x n c z wx (hb.below h) hz
  have hU := revB_past z
  have hev2 := fun wx => Event_any (revB z) wx hU
  have HZ : Veil (revE z = 3 ∨ (revE z = 0 ∧ eventL (revB z) = z)) := ⟨by
    by_cases h : evAll z
    · right; unfold revE revB; rw [if_pos h, if_pos h]; exact ⟨rfl, event_forth z hz h⟩
    · left; unfold revE; rw [if_neg h]⟩
  have heq := fun wx => event_same E hE.plen wx
  have hlv := fun wx (h : Below w.heap.size w wx) => live6_any wx (hT.below h)
  have hiE := sizeEvZ E hE.plen
  have h1E := ev_one E
  have hlE : evZ.cells.length = E.cells.length := by rw [ev_len E hE.plen]; rfl
  have hiU := sizeEvZ (revB z) hU
  have h1U := ev_one (revB z)
  have hlU : evZ.cells.length = (revB z).cells.length := by rw [ev_len _ hU]; rfl
  obtain ⟨U, hUU⟩ : ∃ q, revB z = q := ⟨_, rfl⟩
  obtain ⟨UE, hUE⟩ : ∃ q, revE z = q := ⟨_, rfl⟩
  rw [hUU] at hev2 HZ hiU h1U hlU
  rw [hUE] at HZ
  rw [hUU, hUE] at hr2
  obtain ⟨EL, hEL⟩ : ∃ q, eventL E = q := ⟨_, rfl⟩
  rw [hEL] at hev hr1
  obtain ⟨UL, hUL⟩ : ∃ q, eventL U = q := ⟨_, rfl⟩
  rw [hUL] at hev2 HZ
  have uE := Tryd.underlying47
  obtain ⟨SZ, hSZ⟩ : ∃ q, strOfNums z = q := ⟨_, rfl⟩
  have HC : Veil (∀ wx (y : Option Addr) (m d : Nat), Bytes wx y m d z → (convert 28 9 (.slice y m d)).run Tryd.prog wx = .ok (.string SZ) wx) := ⟨fun wx y m d h => by rw [← hSZ]; exact conv_bytes h⟩
  have HB : Veil (∀ wx, Below w.heap.size w wx → Bytes wx x n c z) := ⟨fun wx h => hb.below h⟩
  have hD0 := CellsAt.new w 47 E.cells
  have hB0 : Below w.heap.size w (w.alloc (.cells E.cells.toArray 47)) := (Below.refl _ _).alloc (Nat.le_refl _) _
  clear hT hE hb hz hall hof hin hrb hre hU hUU hUE hEL hUL hSZ
  go_enter Tryd.func6, Tryd.ntmps6
  go_upto_region 1 with fail
  refine forget (p := fun y => Code.wp _ _ _ _ y) (fun W => Below w.heap.size w W ∧ CellsAt W w.heap.size 47 E.cells) ⟨hB0, hD0⟩ ?_
  clear hB0 hD0
  rintro W0 ⟨hB0, hD0⟩
  have rE := hD0.whole2
  go_upto_region 2 with (first
    | (refine wpList_ldv rfl 47 _ rfl _ _ rfl E.cells rE uE rfl hiE ?_)
    | (go_at_call 20; refine (hev _).mono ?_; rintro e w1 ⟨v1, rfl, ho1, hb1⟩; obtain ⟨x1, n1, c1, rfl, hn1⟩ := ho1.isSlice; clear hn1; have hr11 := hr1 x1 n1 c1 w1 ho1.bytes.2)
    | (go_at_call 19; refine hr11.mono ?_; rintro e w2 ⟨rfl, hb2⟩; have hN2 := CellsAt.new w2 47 evZ.cells)
    | (refine wpList_stv rfl 47 _ _ rfl _ rfl rfl hN2 hiE hlE h1E ?_))
  have hB2 := (hB0.trans (hb1.mono hB0.size)).trans (hb2.mono (hB0.trans (hb1.mono hB0.size)).size)
  have hD2 := (hD0.far2 hb1).far2 hb2
  have hlt2 := hD2.lt
  have hD3 := (hD2.alloc (.cells evZ.cells.toArray 47)).setRowOther2 (g' := w2.heap.size) E.cells.toArray (by omega)
  refine forget (p := fun y => Code.wp _ _ _ _ y) (fun W => Below w.heap.size w W ∧ CellsAt W w.heap.size 47 E.cells ∧ CellsAt W w2.heap.size 47 E.cells) ⟨below_setRow (hB2.alloc hB2.size _) hB2.size _, hD3, hN2.setRow _⟩ ?_
  obtain ⟨G5, hG5⟩ : ∃ q, w2.heap.size = q := ⟨_, rfl⟩
  rw [hG5] at hlt2 ⊢
  clear hG5 hB2 hD2 hD3 hN2 hb2 hr11 ho1 hb1 rE hB0 hD0 hev hr1 hlE
  rintro W2 ⟨hB2, hD2, hF2⟩
  go_upto_region 3 with (first
    | (go_at_call 19; refine (hr2 _ hB2).mono ?_; rintro e w3 ⟨rfl, hb3⟩; have hN3 := CellsAt.new w3 47 evZ.cells)
    | (refine wpList_stv rfl 47 _ _ rfl _ rfl rfl hN3 hiU hlU h1U ?_))
  have hB3 := hB2.trans (hb3.mono hB2.size)
  have hD3 := hD2.far2 hb3
  have hF3 := hF2.far2 hb3
  have l1 := hD3.lt
  have l2 := hF3.lt
  have hD4 := (hD3.alloc (.cells evZ.cells.toArray 47)).setRowOther2 (g' := w3.heap.size) U.cells.toArray (by omega)
  have hF4 := (hF3.alloc (.cells evZ.cells.toArray 47)).setRowOther2 (g' := w3.heap.size) U.cells.toArray (by omega)
  refine forget (p := fun y => Code.wp _ _ _ _ y) (fun W => Below w.heap.size w W ∧ CellsAt W w.heap.size 47 E.cells ∧ CellsAt W G5 47 E.cells ∧ CellsAt W w3.heap.size 47 U.cells) ⟨below_setRow (hB3.alloc hB3.size _) hB3.size _, hD4, hF4, hN3.setRow _⟩ ?_
  obtain ⟨G7, hG7⟩ : ∃ q, w3.heap.size = q := ⟨_, rfl⟩
  rw [hG7]
  clear hG7 hB3 hD3 hF3 hD4 hF4 hN3 hb3 hB2 hD2 hF2 hr2 l1 l2 hlU
  rintro W3 ⟨hB3, hD3, hF3, hK3⟩
  have keep : ∀ w', Below W3.heap.size W3 w' → w'.rangeAt w.heap.size 0 E.cells ∧ w'.rangeAt G5 0 E.cells ∧ w'.rangeAt G7 0 U.cells ∧ (convert 28 9 (.slice x n c)).run Tryd.prog w' = .ok (.string SZ) w' := fun w' hb => ⟨(hD3.far2 hb).whole2, (hF3.far2 hb).whole2, (hK3.far2 hb).whole2, HC.out w' x n c (HB.out w' (hB3.trans (hb.mono hB3.size)))⟩
  clear hD3 hF3 hK3
  refine wp_region_gate (fun w' => w'.rangeAt w.heap.size 0 E.cells ∧ w'.rangeAt G5 0 E.cells ∧ w'.rangeAt G7 0 U.cells ∧ (convert 28 9 (.slice x n c)).run Tryd.prog w' = .ok (.string SZ) w') 22 (by kernel_rfl) ?_
  refine wpAnyG_one (i := 0) rfl (by kernel_rfl) (by kernel_rfl) (fun K hK => ?_)
  go_wp2_with (go_at_call 11; refine (hlv _ hB3.drew).mono ?_; rintro e w4 ⟨rfl, hb4⟩)
  have hb34 : Below W3.heap.size W3 w4 := ((Below.refl _ _).drew).trans hb4
  have hB4 := hB3.trans (hb34.mono hB3.size)
  have hS := keep _ hb34
  clear hb4 hlv
  refine hK.out _ _ (fun _ => hS) ?_
  clear hK K
  refine wpAnyG_any (i := 1) (v := ?_) rfl (by kernel_rfl) (by kernel_rfl) (by kernel_rfl) (fun _ _ _ h => h) (by kernel_rfl) (fun _ => hS) (by kernel_rfl) ?_ ?_
  rotate_left
  · intro _; go_simp; try with_reducible rfl
  simp only [Act.put, List.setIfInBounds_toArray, List.set_cons_zero, List.set_cons_succ]
  refine wpAnyG_any (i := 2) (v := ?_) rfl (by kernel_rfl) (by kernel_rfl) (by kernel_rfl) (fun _ _ _ h => h) (by kernel_rfl) (fun _ => hS) (by kernel_rfl) ?_ ?_
  rotate_left
  · intro _; go_simp; try with_reducible rfl
  simp only [Act.put, List.setIfInBounds_toArray, List.set_cons_zero, List.set_cons_succ]
  refine wpAnyG_any (i := 3) (v := .bool true) rfl (by kernel_rfl) (by kernel_rfl) (by kernel_rfl) (fun _ _ _ h => h) (by kernel_rfl) (fun _ => hS) (by kernel_rfl) ?_ ?_
  · intro _; go_simp
  simp only [Act.put, List.setIfInBounds_toArray, List.set_cons_zero, List.set_cons_succ]
  refine wpAnyG_any (i := 4) (v := .bool true) rfl (by kernel_rfl) (by kernel_rfl) (by kernel_rfl) (fun _ _ _ h => h) (by kernel_rfl) (fun _ => hS) (by kernel_rfl) ?_ ?_
  · intro _; go_simp
  simp only [Act.put, List.setIfInBounds_toArray, List.set_cons_zero, List.set_cons_succ]
  refine wpAnyG_any (i := 5) (v := .bool true) rfl (by kernel_rfl) (by kernel_rfl) (by kernel_rfl) (fun _ _ _ h => h) (by kernel_rfl) (fun _ => hS) (by kernel_rfl) ?_ ?_
  · intro _; go_simp
  simp only [Act.put, List.setIfInBounds_toArray, List.set_cons_zero, List.set_cons_succ]
  refine wpAnyG_load (i := 6) (dst := some 26) (ty := 47) (x := .tmp 5) (b := G5) (o := (0)) (cs := (E.cells)) (by kernel_rfl) (by kernel_rfl) (by kernel_rfl) (by kernel_rfl) (by kernel_rfl) (fun _ _ _ h => h) (by kernel_rfl) (by kernel_rfl) (by kernel_rfl) hS (by kernel_rfl) (fun _ h => h.2.1) uE rfl hiE ?_
  simp only [Act.put, List.setIfInBounds_toArray, List.set_cons_zero, List.set_cons_succ]
  refine wpAnyG_load (i := 7) (dst := some 27) (ty := 47) (x := .tmp 2) (b := w.heap.size) (o := (0)) (cs := (E.cells)) (by kernel_rfl) (by kernel_rfl) (by kernel_rfl) (by kernel_rfl) (by kernel_rfl) (fun _ _ _ h => h) (by kernel_rfl) (by kernel_rfl) (by kernel_rfl) hS (by kernel_rfl) (fun _ h => h.1) uE rfl hiE ?_
  simp only [Act.put, List.setIfInBounds_toArray, List.set_cons_zero, List.set_cons_succ]
  refine wpAnyG_any (i := 8) (v := .bool true) rfl (by kernel_rfl) (by kernel_rfl) (by kernel_rfl) (fun _ _ _ h => h) (by kernel_rfl) (fun _ => hS) (by kernel_rfl) ?_ ?_
  · intro _; go_simp
  simp only [Act.put, List.setIfInBounds_toArray, List.set_cons_zero, List.set_cons_succ]
  refine wpAnyG_any (i := 9) (v := .bool true) rfl (by kernel_rfl) (by kernel_rfl) (by kernel_rfl) (fun _ _ _ h => h) (by kernel_rfl) (fun _ => hS) (by kernel_rfl) ?_ ?_
  · intro _; go_simp
  simp only [Act.put, List.setIfInBounds_toArray, List.set_cons_zero, List.set_cons_succ]
  refine wpAnyG_any (i := 10) (v := .bool true) rfl (by kernel_rfl) (by kernel_rfl) (by kernel_rfl) (fun _ _ _ h => h) (by kernel_rfl) (fun _ => hS) (by kernel_rfl) ?_ ?_
  · intro _; go_simp
  simp only [Act.put, List.setIfInBounds_toArray, List.set_cons_zero, List.set_cons_succ]
  refine wpAnyG_any (i := 11) (v := ?_) rfl (by kernel_rfl) (by kernel_rfl) (by kernel_rfl) (fun _ _ _ h => h) (by kernel_rfl) (fun _ => hS) (by kernel_rfl) ?_ ?_
  rotate_left
  · intro _; go_simp; try with_reducible rfl
  simp only [Act.put, List.setIfInBounds_toArray, List.set_cons_zero, List.set_cons_succ]
  rcases HZ.out with h3 | ⟨h0, hul⟩
  · subst h3
    refine wpAnyG_any (i := 12) (v := .bool true) rfl (by kernel_rfl) (by kernel_rfl) (by kernel_rfl) (fun _ _ _ h => h) (by kernel_rfl) (fun _ => hS) (by kernel_rfl) ?_ ?_
    · intro _; go_simp
    simp only [Act.put, List.setIfInBounds_toArray, List.set_cons_zero, List.set_cons_succ]
    refine wpAnyG_any (i := 13) (v := .bool true) rfl (by kernel_rfl) (by kernel_rfl) (by kernel_rfl) (fun _ _ _ h => h) (by kernel_rfl) (fun _ => hS) (by kernel_rfl) ?_ ?_
    · intro _; go_simp
    simp only [Act.put, List.setIfInBounds_toArray, List.set_cons_zero, List.set_cons_succ]
    refine wpAnyG_skip (i := 14) rfl (by kernel_rfl) (by kernel_rfl) (by kernel_rfl) (fun _ _ _ h => h) (by kernel_rfl) (fun _ => hS) (by kernel_rfl) ?_
    simp only [Act.put, List.setIfInBounds_toArray, List.set_cons_zero, List.set_cons_succ]
    refine wpAnyG_skip (i := 15) rfl (by kernel_rfl) (by kernel_rfl) (by kernel_rfl) (fun _ _ _ h => h) (by kernel_rfl) (fun _ => hS) (by kernel_rfl) ?_
    simp only [Act.put, List.setIfInBounds_toArray, List.set_cons_zero, List.set_cons_succ]
    refine wpAnyG_skip (i := 16) rfl (by kernel_rfl) (by kernel_rfl) (by kernel_rfl) (fun _ _ _ h => h) (by kernel_rfl) (fun _ => hS) (by kernel_rfl) ?_
    simp only [Act.put, List.setIfInBounds_toArray, List.set_cons_zero, List.set_cons_succ]
    refine wpAnyG_skip (i := 17) rfl (by kernel_rfl) (by kernel_rfl) (by kernel_rfl) (fun _ _ _ h => h) (by kernel_rfl) (fun _ => hS) (by kernel_rfl) ?_
    simp only [Act.put, List.setIfInBounds_toArray, List.set_cons_zero, List.set_cons_succ]
    refine wpAnyG_skip (i := 18) rfl (by kernel_rfl) (by kernel_rfl) (by kernel_rfl) (fun _ _ _ h => h) (by kernel_rfl) (fun _ => hS) (by kernel_rfl) ?_
    simp only [Act.put, List.setIfInBounds_toArray, List.set_cons_zero, List.set_cons_succ]
    refine wpAnyG_skip (i := 19) rfl (by kernel_rfl) (by kernel_rfl) (by kernel_rfl) (fun _ _ _ h => h) (by kernel_rfl) (fun _ => hS) (by kernel_rfl) ?_
    simp only [Act.put, List.setIfInBounds_toArray, List.set_cons_zero, List.set_cons_succ]
    refine wpAnyG_any (i := 20) (v := .bool true) rfl (by kernel_rfl) (by kernel_rfl) (by kernel_rfl) (fun _ _ _ h => h) (by kernel_rfl) (fun _ => hS) (by kernel_rfl) ?_ ?_
    · intro _; go_simp
    simp only [Act.put, List.setIfInBounds_toArray, List.set_cons_zero, List.set_cons_succ]
    refine wpAnyG_any (i := 21) (v := .bool true) rfl (by kernel_rfl) (by kernel_rfl) (by kernel_rfl) (fun _ _ _ h => h) (by kernel_rfl) (fun _ => hS) (by kernel_rfl) ?_ ?_
    · intro _; go_simp
    simp only [Act.put, List.setIfInBounds_toArray, List.set_cons_zero, List.set_cons_succ]
    refine wpAnyG_one (i := 22) rfl (by kernel_rfl) (by kernel_rfl) (fun K hK => ?_)
    go_simp
    refine hK.out _ _ (fun h => absurd (show true = false from h) (by decide)) ?_
    clear hK K
    refine wpAnyG_done (by kernel_rfl) ?_ _
    go_wp2
    go_ret
    exact ⟨rfl, hB4⟩
  · subst h0
    have HUL : Veil (UL = z) := ⟨hul⟩
    clear hul
    refine wpAnyG_any (i := 12) (v := .bool false) rfl (by kernel_rfl) (by kernel_rfl) (by kernel_rfl) (fun _ _ _ h => h) (by kernel_rfl) (fun _ => hS) (by kernel_rfl) ?_ ?_
    · intro _; go_simp
    simp only [Act.put, List.setIfInBounds_toArray, List.set_cons_zero, List.set_cons_succ]
    refine wpAnyG_any (i := 13) (v := .bool false) rfl (by kernel_rfl) (by kernel_rfl) (by kernel_rfl) (fun _ _ _ h => h) (by kernel_rfl) (fun _ => hS) (by kernel_rfl) ?_ ?_
    · intro _; go_simp
    simp only [Act.put, List.setIfInBounds_toArray, List.set_cons_zero, List.set_cons_succ]
    refine wpAnyG_load (i := 14) (dst := some 34) (ty := 47) (x := .tmp 7) (b := G7) (o := (0)) (cs := (U.cells)) (by kernel_rfl) (by kernel_rfl) (by kernel_rfl) (by kernel_rfl) (by kernel_rfl) (fun _ _ _ h => h) (by kernel_rfl) (by kernel_rfl) (by kernel_rfl) hS (by kernel_rfl) (fun _ h => h.2.2.1) uE rfl hiU ?_
    simp only [Act.put, List.setIfInBounds_toArray, List.set_cons_zero, List.set_cons_succ]
    refine wpAnyG_any (i := 17) (v := ?_) rfl (by kernel_rfl) (by kernel_rfl) (by kernel_rfl) (fun _ _ _ h => h) (by kernel_rfl) (fun _ => hS) (by kernel_rfl) ?_ ?_
    rotate_left
    · intro _; go_simp; try with_reducible rfl
    simp only [Act.put, List.setIfInBounds_toArray, List.set_cons_zero, List.set_cons_succ]
    refine wpAnyG_read (i := 18) (v := ?_) rfl (by kernel_rfl) (by kernel_rfl) (by kernel_rfl) (fun _ _ _ h => h) (by kernel_rfl) (by kernel_rfl) (by kernel_rfl) hS (by kernel_rfl) ?_ ?_
    rotate_left
    · intro wx hSw; go_split_ands; go_simp; try with_reducible rfl
    simp only [Act.put, List.setIfInBounds_toArray, List.set_cons_zero, List.set_cons_succ]
    refine wpAnyG_one (i := 15) rfl (by kernel_rfl) (by kernel_rfl) (fun K hK => ?_)
    go_wp2_with (go_at_call 20; refine (hev2 _).mono ?_; rintro e w5 ⟨v5, rfl, ho5, hb5⟩; obtain ⟨x5, n5, c5, rfl, hn5⟩ := ho5.isSlice; clear hn5)
    have hb35 := hb34.trans (hb5.mono hb34.size)
    have hB5 := hB4.trans (hb5.mono hB4.size)
    have hy5 := ho5.bytes.2
    rw [HUL.out] at hy5
    have hcv := HC.out w5 x5 n5 c5 hy5
    replace hS := keep _ hb35
    clear ho5 hy5
    refine hK.out _ _ (fun _ => hS) ?_
    clear hK K
    refine wpAnyG_one (i := 16) rfl (by kernel_rfl) (by kernel_rfl) (fun K hK => ?_)
    go_simp
    refine hK.out _ _ (fun _ => hS) ?_
    clear hK K
    refine wpAnyG_any (i := 19) (v := .bool true) rfl (by kernel_rfl) (by kernel_rfl) (by kernel_rfl) (fun _ _ _ h => h) (by kernel_rfl) (fun _ => hS) (by kernel_rfl) ?_ ?_
    · intro _; go_simp
    simp only [Act.put, List.setIfInBounds_toArray, List.set_cons_zero, List.set_cons_succ]
    refine wpAnyG_any (i := 20) (v := .bool true) rfl (by kernel_rfl) (by kernel_rfl) (by kernel_rfl) (fun _ _ _ h => h) (by kernel_rfl) (fun _ => hS) (by kernel_rfl) ?_ ?_
    · intro _; go_simp
    simp only [Act.put, List.setIfInBounds_toArray, List.set_cons_zero, List.set_cons_succ]
    refine wpAnyG_any (i := 21) (v := .bool true) rfl (by kernel_rfl) (by kernel_rfl) (by kernel_rfl) (fun _ _ _ h => h) (by kernel_rfl) (fun _ => hS) (by kernel_rfl) ?_ ?_
    · intro _; go_simp
    simp only [Act.put, List.setIfInBounds_toArray, List.set_cons_zero, List.set_cons_succ]
    refine wpAnyG_one (i := 22) rfl (by kernel_rfl) (by kernel_rfl) (fun K hK => ?_)
    go_simp
    refine hK.out _ _ (fun h => absurd (show true = false from h) (by decide)) ?_
    clear hK K
    refine wpAnyG_done (by kernel_rfl) ?_ _
    go_wp2
    go_ret
    exact ⟨rfl, hB5⟩
end Go.Proofs.YtfniachmebppcaaDoor
