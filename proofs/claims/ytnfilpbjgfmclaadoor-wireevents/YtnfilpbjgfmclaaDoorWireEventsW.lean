/- The statement WireEvents, walked. -/
import Derived.Test.YtnfilpbjgfmclaaDoorRv1
import Derived.Test.YtnfilpbjgfmclaaDoorRv3
import Derived.Test.YtnfilpbjgfmclaaDoorGl
namespace Go.Proofs.YtnfilpbjgfmclaaDoor
open Go.RowKit
set_option maxRecDepth 20000
set_option linter.unusedSimpArgs false

theorem refRead_both (x : Option Addr) (n c : Nat) (z : List Int) (w : World) (hb : Bytes w x n c z) (hz : ∀ v ∈ z, b8 v) :
    Calls Tryd.prog 5 #[.slice x n c] w fun e w' => e = .returned (.tuple #[.agg (revB z).cells.toArray, .int .i64 (revE z)]) ∧ Below w.heap.size w w' := by
  by_cases h : n = 58
  · subst h; exact refRead_any x c z w hb hz
  · exact refRead_odd x n c z w hb h
set_option maxHeartbeats 4000000 in
theorem events_walk (E : Ev) (x : Option Addr) (n c : Nat) (z : List Int) (w : World) (hT : BTab w) (hE : E.In) (hb : Bytes w x n c z) (hz : ∀ v ∈ z, b8 v) (hn : n ≤ 140737488355327) :
    Calls Tryd.prog 3 #[.agg E.cells.toArray, .slice x n c] w fun e w' => e = .returned (.bool true) ∧ Below w.heap.size w w' := by
  have hev := fun wx => Event_any E wx hE.plen
  have hrv := fun wx => refEvent_any E wx hE.plen
  have hr1 := fun (y : Option Addr) (m d : Nat) wx (h : Bytes wx y m d z) => ReadEvent_any y m d z wx h hz
  have hr2 := fun wx (h : Below w.heap.size w wx) => refRead_both x n c z wx (hb.below h) hz
  have hU := revB_past z
  have heq := fun wx => event_same (revB z) hU wx
  have hlv := fun wx (h : Below w.heap.size w wx) => live6_any wx (hT.below h)
  have hiE := sizeEvZ E hE.plen
  have h1E := ev_one E
  have hiU := sizeEvZ (revB z) hU
  have h1U := ev_one (revB z)
  have hlU : evZ.cells.length = (revB z).cells.length := by rw [ev_len _ hU]; rfl
  obtain ⟨U, hUU⟩ : ∃ q, revB z = q := ⟨_, rfl⟩
  obtain ⟨UE, hUE⟩ : ∃ q, revE z = q := ⟨_, rfl⟩
  rw [hUU] at heq hiU h1U hlU
  rw [hUU, hUE] at hr1 hr2
  obtain ⟨EL, hEL⟩ : ∃ q, eventL E = q := ⟨_, rfl⟩
  rw [hEL] at hev hrv
  have uE := Tryd.underlying30
  obtain ⟨SZ, hSZ⟩ : ∃ q, strOfNums z = q := ⟨_, rfl⟩
  have HC : Veil (∀ wx (y : Option Addr) (m d : Nat), Bytes wx y m d z → (convert 31 9 (.slice y m d)).run Tryd.prog wx = .ok (.string SZ) wx) := ⟨fun wx y m d h => by rw [← hSZ]; exact conv_bytes h⟩
  obtain ⟨SE, hSE⟩ : ∃ q, strOfNums EL = q := ⟨_, rfl⟩
  have HCE : Veil (∀ wx (y : Option Addr) (m d : Nat), Bytes wx y m d EL → (convert 31 9 (.slice y m d)).run Tryd.prog wx = .ok (.string SE) wx) := ⟨fun wx y m d h => by rw [← hSE]; exact conv_bytes h⟩
  have HB : Veil (∀ wx, Below w.heap.size w wx → Bytes wx x n c z) := ⟨fun wx h => hb.below h⟩
  have hD0 := CellsAt.new w 30 E.cells
  have hB0 : Below w.heap.size w (w.alloc (.cells E.cells.toArray 30)) := (Below.refl _ _).alloc (Nat.le_refl _) _
  clear hT hE hb hz hU hUU hUE hEL hSZ hSE
  go_enter Tryd.func3, Tryd.ntmps3
  go_upto_region 1 with fail
  refine forget (p := fun y => Code.wp _ _ _ _ y) (fun W => Below w.heap.size w W ∧ CellsAt W w.heap.size 30 E.cells) ⟨hB0, hD0⟩ ?_
  clear hB0 hD0
  rintro W0 ⟨hB0, hD0⟩
  have hE0 : OwnB (W0.alloc (.cells #[] 5)) W0.heap.size (.slice (some ⟨W0.heap.size, 0, none⟩) 0 0) [] := OwnB.ofHolds (Holds.new W0 .u8 5 []) (Nat.le_refl _) (by simp)
  have hy0 := HB.out _ (hB0.alloc hB0.size (.cells #[] 5))
  go_upto_region 2 with (at_builtin; refine wpList_appL rfl _ _ rfl W0.heap.size _ [] rfl hE0 x n c z rfl hy0 (by simp; omega) (by simp) ?_; intro v1 w1 ho1 hg1)
  have hB1' : Below W0.heap.size W0 w1 := below_grown ((Below.refl _ _).alloc (Nat.le_refl _) _) hE0 hg1 (by simp)
  obtain ⟨x1, n1, c1, rfl, hn1⟩ := ho1.isSlice
  have hy1 := ho1.bytes.2
  rw [List.nil_append] at hy1
  have hB1 := hB0.trans (hB1'.mono hB0.size)
  have hD1 := hD0.far2 hB1'
  clear hn1 ho1 hg1 hE0 hy0 hB1' hB0 hD0
  have hr11 := hr1 x1 n1 c1 w1 hy1
  go_upto_region 3 with (first
    | (go_at_call 4; refine hr11.mono ?_; rintro e w2 ⟨rfl, hb2⟩; have hN2 := CellsAt.new w2 30 evZ.cells)
    | (refine wpList_stv rfl 30 _ _ rfl _ rfl rfl hN2 hiU hlU h1U ?_))
  have hB2 := hB1.trans (hb2.mono hB1.size)
  have hD2 := hD1.far2 hb2
  have hy2 := hy1.below hb2
  have hlt2 := hD2.lt
  have hD3 := (hD2.alloc (.cells evZ.cells.toArray 30)).setRowOther2 (g' := w2.heap.size) U.cells.toArray (by omega)
  have hy3 : Bytes ((w2.alloc (.cells evZ.cells.toArray 30)).setRow w2.heap.size U.cells.toArray) x1 n1 c1 z := hy2.below (below_setRow ((Below.refl _ _).alloc (Nat.le_refl _) _) (Nat.le_refl _) _)
  refine forget (p := fun y => Code.wp _ _ _ _ y) (fun W => Below w.heap.size w W ∧ CellsAt W w.heap.size 30 E.cells ∧ CellsAt W w2.heap.size 30 U.cells ∧ Bytes W x1 n1 c1 z) ⟨below_setRow (hB2.alloc hB2.size _) hB2.size _, hD3, hN2.setRow _, hy3⟩ ?_
  obtain ⟨G5, hG5⟩ : ∃ q, w2.heap.size = q := ⟨_, rfl⟩
  rw [hG5] at hlt2 ⊢
  clear hG5 hB2 hD2 hD3 hN2 hb2 hr11 hy1 hy2 hy3 hB1 hD1 hr1
  rintro W2 ⟨hB2, hD2, hF2, hy2⟩
  go_upto_region 4 with (first
    | (go_at_call 5; refine (hr2 _ hB2).mono ?_; rintro e w3 ⟨rfl, hb3⟩; have hN3 := CellsAt.new w3 30 evZ.cells)
    | (refine wpList_stv rfl 30 _ _ rfl _ rfl rfl hN3 hiU hlU h1U ?_))
  have hB3 := hB2.trans (hb3.mono hB2.size)
  have hD3 := hD2.far2 hb3
  have hF3 := hF2.far2 hb3
  have hy3 := hy2.below hb3
  have l1 := hD3.lt
  have l2 := hF3.lt
  have hD4 := (hD3.alloc (.cells evZ.cells.toArray 30)).setRowOther2 (g' := w3.heap.size) U.cells.toArray (by omega)
  have hF4 := (hF3.alloc (.cells evZ.cells.toArray 30)).setRowOther2 (g' := w3.heap.size) U.cells.toArray (by omega)
  have hy4 : Bytes ((w3.alloc (.cells evZ.cells.toArray 30)).setRow w3.heap.size U.cells.toArray) x1 n1 c1 z := hy3.below (below_setRow ((Below.refl _ _).alloc (Nat.le_refl _) _) (Nat.le_refl _) _)
  refine forget (p := fun y => Code.wp _ _ _ _ y) (fun W => Below w.heap.size w W ∧ CellsAt W w.heap.size 30 E.cells ∧ CellsAt W G5 30 U.cells ∧ CellsAt W w3.heap.size 30 U.cells ∧ Bytes W x1 n1 c1 z) ⟨below_setRow (hB3.alloc hB3.size _) hB3.size _, hD4, hF4, hN3.setRow _, hy4⟩ ?_
  obtain ⟨G7, hG7⟩ : ∃ q, w3.heap.size = q := ⟨_, rfl⟩
  rw [hG7]
  clear hG7 hB3 hD3 hF3 hD4 hF4 hN3 hb3 hB2 hD2 hF2 hr2 l1 l2 hlU hy2 hy3 hy4
  rintro W3 ⟨hB3, hD3, hF3, hK3, hy3⟩
  have keep : ∀ w', Below W3.heap.size W3 w' → w'.rangeAt w.heap.size 0 E.cells ∧ w'.rangeAt G5 0 U.cells ∧ w'.rangeAt G7 0 U.cells ∧ (convert 31 9 (.slice x1 n1 c1)).run Tryd.prog w' = .ok (.string SZ) w' ∧ (convert 31 9 (.slice x n c)).run Tryd.prog w' = .ok (.string SZ) w' := fun w' hb => ⟨(hD3.far2 hb).whole2, (hF3.far2 hb).whole2, (hK3.far2 hb).whole2, HC.out w' x1 n1 c1 (hy3.below hb), HC.out w' x n c (HB.out w' (hB3.trans (hb.mono hB3.size)))⟩
  clear hD3 hF3 hK3 hy3
  refine wp_region_gate (fun w' => w'.rangeAt w.heap.size 0 E.cells ∧ w'.rangeAt G5 0 U.cells ∧ w'.rangeAt G7 0 U.cells ∧ (convert 31 9 (.slice x1 n1 c1)).run Tryd.prog w' = .ok (.string SZ) w' ∧ (convert 31 9 (.slice x n c)).run Tryd.prog w' = .ok (.string SZ) w') 27 (by kernel_rfl) ?_
  refine wpAnyG_one (i := 0) rfl (by kernel_rfl) (by kernel_rfl) (fun K hK => ?_)
  go_wp2_with (go_at_call 6; refine (hlv _ hB3.drew).mono ?_; rintro e w4 ⟨rfl, hb4⟩)
  have hb34 : Below W3.heap.size W3 w4 := ((Below.refl _ _).drew).trans hb4
  have hB4 := hB3.trans (hb34.mono hB3.size)
  have hS := keep _ hb34
  clear hb4 hlv
  refine hK.out _ _ (fun _ => hS) ?_
  clear hK K
  refine wpAnyG_any (i := 1) (v := ?_) rfl (by kernel_rfl) (by kernel_rfl) (by kernel_rfl) (fun _ _ _ h => h) (by kernel_rfl) (fun _ => hS) (by kernel_rfl) ?_ ?_
  rotate_left
  · intro _; go_simp; try with_reducible rfl
  simp only [Act.put, List.setIfInBounds_toArray, List.set_cons_zero, List.set_cons_succ]
  refine wpAnyG_load (i := 2) (dst := some 25) (ty := 30) (x := .tmp 2) (b := w.heap.size) (o := (0)) (cs := (E.cells)) (by kernel_rfl) (by kernel_rfl) (by kernel_rfl) (by kernel_rfl) (by kernel_rfl) (fun _ _ _ h => h) (by kernel_rfl) (by kernel_rfl) (by kernel_rfl) hS (by kernel_rfl) (fun _ h => h.1) uE rfl hiE ?_
  simp only [Act.put, List.setIfInBounds_toArray, List.set_cons_zero, List.set_cons_succ]
  refine wpAnyG_load (i := 5) (dst := some 28) (ty := 30) (x := .tmp 2) (b := w.heap.size) (o := (0)) (cs := (E.cells)) (by kernel_rfl) (by kernel_rfl) (by kernel_rfl) (by kernel_rfl) (by kernel_rfl) (fun _ _ _ h => h) (by kernel_rfl) (by kernel_rfl) (by kernel_rfl) hS (by kernel_rfl) (fun _ h => h.1) uE rfl hiE ?_
  simp only [Act.put, List.setIfInBounds_toArray, List.set_cons_zero, List.set_cons_succ]
  refine wpAnyG_one (i := 3) rfl (by kernel_rfl) (by kernel_rfl) (fun K hK => ?_)
  go_wp2_with (go_at_call 7; refine (hev _).mono ?_; rintro e w5 ⟨v5, rfl, ho5, hb5⟩; obtain ⟨x5, n5, c5, rfl, hn5⟩ := ho5.isSlice; clear hn5)
  have hb35 := hb34.trans (hb5.mono hb34.size)
  have hB5 := hB4.trans (hb5.mono hB4.size)
  have hy5 := ho5.bytes.2
  replace hS := keep _ hb35
  clear ho5
  refine hK.out _ _ (fun _ => hS) ?_
  clear hK K
  refine wpAnyG_more (S' := fun w' => (w'.rangeAt w.heap.size 0 E.cells ∧ w'.rangeAt G5 0 U.cells ∧ w'.rangeAt G7 0 U.cells ∧ (convert 31 9 (.slice x1 n1 c1)).run Tryd.prog w' = .ok (.string SZ) w' ∧ (convert 31 9 (.slice x n c)).run Tryd.prog w' = .ok (.string SZ) w') ∧ (convert 31 9 (.slice x5 n5 c5)).run Tryd.prog w' = .ok (.string SE) w') (fun _ h => h.1) _ _ _ _ ?_
  have keep5 : ∀ w', Below w5.heap.size w5 w' → (w'.rangeAt w.heap.size 0 E.cells ∧ w'.rangeAt G5 0 U.cells ∧ w'.rangeAt G7 0 U.cells ∧ (convert 31 9 (.slice x1 n1 c1)).run Tryd.prog w' = .ok (.string SZ) w' ∧ (convert 31 9 (.slice x n c)).run Tryd.prog w' = .ok (.string SZ) w') ∧ (convert 31 9 (.slice x5 n5 c5)).run Tryd.prog w' = .ok (.string SE) w' := fun w' hb =>
    ⟨keep _ (hb35.trans (hb.mono hb35.size)), HCE.out w' x5 n5 c5 (hy5.below hb)⟩
  replace hS := keep5 _ (Below.refl _ _)
  refine wpAnyG_read (i := 4) (v := ?_) rfl (by kernel_rfl) (by kernel_rfl) (by kernel_rfl) (fun _ _ _ h => h) (by kernel_rfl) (by kernel_rfl) (by kernel_rfl) hS (by kernel_rfl) ?_ ?_
  rotate_left
  · intro wx hSw; go_split_ands; go_simp; try with_reducible rfl
  simp only [Act.put, List.setIfInBounds_toArray, List.set_cons_zero, List.set_cons_succ]
  refine wpAnyG_one (i := 6) rfl (by kernel_rfl) (by kernel_rfl) (fun K hK => ?_)
  go_wp2_with (go_at_call 8; refine (hrv _).mono ?_; rintro e w6 ⟨v6, rfl, ho6, hb6⟩; obtain ⟨x6, n6, c6, rfl, hn6⟩ := ho6.isSlice; clear hn6)
  replace hS := keep5 _ hb6
  have hcv := HCE.out w6 x6 n6 c6 ho6.bytes.2
  clear ho6
  refine hK.out _ _ (fun _ => hS) ?_
  clear hK K
  refine wpAnyG_one (i := 7) rfl (by kernel_rfl) (by kernel_rfl) (fun K hK => ?_)
  go_simp
  refine hK.out _ _ (fun _ => hS) ?_
  clear hK K
  refine wpAnyG_any (i := 8) (v := .bool true) rfl (by kernel_rfl) (by kernel_rfl) (by kernel_rfl) (fun _ _ _ h => h) (by kernel_rfl) (fun _ => hS) (by kernel_rfl) ?_ ?_
  · intro _; go_simp
  simp only [Act.put, List.setIfInBounds_toArray, List.set_cons_zero, List.set_cons_succ]
  refine wpAnyG_any (i := 9) (v := .bool true) rfl (by kernel_rfl) (by kernel_rfl) (by kernel_rfl) (fun _ _ _ h => h) (by kernel_rfl) (fun _ => hS) (by kernel_rfl) ?_ ?_
  · intro _; go_simp
  simp only [Act.put, List.setIfInBounds_toArray, List.set_cons_zero, List.set_cons_succ]
  refine wpAnyG_any (i := 10) (v := .bool true) rfl (by kernel_rfl) (by kernel_rfl) (by kernel_rfl) (fun _ _ _ h => h) (by kernel_rfl) (fun _ => hS) (by kernel_rfl) ?_ ?_
  · intro _; go_simp
  simp only [Act.put, List.setIfInBounds_toArray, List.set_cons_zero, List.set_cons_succ]
  refine wpAnyG_load (i := 11) (dst := some 34) (ty := 30) (x := .tmp 6) (b := G5) (o := (0)) (cs := (U.cells)) (by kernel_rfl) (by kernel_rfl) (by kernel_rfl) (by kernel_rfl) (by kernel_rfl) (fun _ _ _ h => h) (by kernel_rfl) (by kernel_rfl) (by kernel_rfl) hS (by kernel_rfl) (fun _ h => h.1.2.1) uE rfl hiU ?_
  simp only [Act.put, List.setIfInBounds_toArray, List.set_cons_zero, List.set_cons_succ]
  refine wpAnyG_load (i := 12) (dst := some 35) (ty := 30) (x := .tmp 8) (b := G7) (o := (0)) (cs := (U.cells)) (by kernel_rfl) (by kernel_rfl) (by kernel_rfl) (by kernel_rfl) (by kernel_rfl) (fun _ _ _ h => h) (by kernel_rfl) (by kernel_rfl) (by kernel_rfl) hS (by kernel_rfl) (fun _ h => h.1.2.2.1) uE rfl hiU ?_
  simp only [Act.put, List.setIfInBounds_toArray, List.set_cons_zero, List.set_cons_succ]
  refine wpAnyG_any (i := 13) (v := .bool true) rfl (by kernel_rfl) (by kernel_rfl) (by kernel_rfl) (fun _ _ _ h => h) (by kernel_rfl) (fun _ => hS) (by kernel_rfl) ?_ ?_
  · intro _; go_simp
  simp only [Act.put, List.setIfInBounds_toArray, List.set_cons_zero, List.set_cons_succ]
  refine wpAnyG_any (i := 14) (v := .bool true) rfl (by kernel_rfl) (by kernel_rfl) (by kernel_rfl) (fun _ _ _ h => h) (by kernel_rfl) (fun _ => hS) (by kernel_rfl) ?_ ?_
  · intro _; go_simp
  simp only [Act.put, List.setIfInBounds_toArray, List.set_cons_zero, List.set_cons_succ]
  refine wpAnyG_any (i := 15) (v := .bool true) rfl (by kernel_rfl) (by kernel_rfl) (by kernel_rfl) (fun _ _ _ h => h) (by kernel_rfl) (fun _ => hS) (by kernel_rfl) ?_ ?_
  · intro _; go_simp
  simp only [Act.put, List.setIfInBounds_toArray, List.set_cons_zero, List.set_cons_succ]
  refine wpAnyG_any (i := 16) (v := ?_) rfl (by kernel_rfl) (by kernel_rfl) (by kernel_rfl) (fun _ _ _ h => h) (by kernel_rfl) (fun _ => hS) (by kernel_rfl) ?_ ?_
  rotate_left
  · intro _; go_simp; try with_reducible rfl
  simp only [Act.put, List.setIfInBounds_toArray, List.set_cons_zero, List.set_cons_succ]
  refine wpAnyG_any (i := 17) (v := ?_) rfl (by kernel_rfl) (by kernel_rfl) (by kernel_rfl) (fun _ _ _ h => h) (by kernel_rfl) (fun _ => hS) (by kernel_rfl) ?_ ?_
  rotate_left
  · intro _; go_simp; try with_reducible rfl
  simp only [Act.put, List.setIfInBounds_toArray, List.set_cons_zero, List.set_cons_succ]
  refine wpAnyG_any (i := 18) (v := .bool true) rfl (by kernel_rfl) (by kernel_rfl) (by kernel_rfl) (fun _ _ _ h => h) (by kernel_rfl) (fun _ => hS) (by kernel_rfl) ?_ ?_
  · intro _; go_simp
  simp only [Act.put, List.setIfInBounds_toArray, List.set_cons_zero, List.set_cons_succ]
  refine wpAnyG_any (i := 19) (v := .bool true) rfl (by kernel_rfl) (by kernel_rfl) (by kernel_rfl) (fun _ _ _ h => h) (by kernel_rfl) (fun _ => hS) (by kernel_rfl) ?_ ?_
  · intro _; go_simp
  simp only [Act.put, List.setIfInBounds_toArray, List.set_cons_zero, List.set_cons_succ]
  refine wpAnyG_any (i := 20) (v := .bool true) rfl (by kernel_rfl) (by kernel_rfl) (by kernel_rfl) (fun _ _ _ h => h) (by kernel_rfl) (fun _ => hS) (by kernel_rfl) ?_ ?_
  · intro _; go_simp
  simp only [Act.put, List.setIfInBounds_toArray, List.set_cons_zero, List.set_cons_succ]
  refine wpAnyG_any (i := 21) (v := ?_) rfl (by kernel_rfl) (by kernel_rfl) (by kernel_rfl) (fun _ _ _ h => h) (by kernel_rfl) (fun _ => hS) (by kernel_rfl) ?_ ?_
  rotate_left
  · intro _; go_simp; try with_reducible rfl
  simp only [Act.put, List.setIfInBounds_toArray, List.set_cons_zero, List.set_cons_succ]
  refine wpAnyG_read (i := 22) (v := ?_) rfl (by kernel_rfl) (by kernel_rfl) (by kernel_rfl) (fun _ _ _ h => h) (by kernel_rfl) (by kernel_rfl) (by kernel_rfl) hS (by kernel_rfl) ?_ ?_
  rotate_left
  · intro wx hSw; go_split_ands; go_simp; try with_reducible rfl
  simp only [Act.put, List.setIfInBounds_toArray, List.set_cons_zero, List.set_cons_succ]
  refine wpAnyG_any (i := 23) (v := ?_) rfl (by kernel_rfl) (by kernel_rfl) (by kernel_rfl) (fun _ _ _ h => h) (by kernel_rfl) (fun _ => hS) (by kernel_rfl) ?_ ?_
  rotate_left
  · intro _; go_simp; try with_reducible rfl
  simp only [Act.put, List.setIfInBounds_toArray, List.set_cons_zero, List.set_cons_succ]
  refine wpAnyG_read (i := 24) (v := ?_) rfl (by kernel_rfl) (by kernel_rfl) (by kernel_rfl) (fun _ _ _ h => h) (by kernel_rfl) (by kernel_rfl) (by kernel_rfl) hS (by kernel_rfl) ?_ ?_
  rotate_left
  · intro wx hSw; go_split_ands; go_simp; try with_reducible rfl
  simp only [Act.put, List.setIfInBounds_toArray, List.set_cons_zero, List.set_cons_succ]
  refine wpAnyG_any (i := 25) (v := .bool true) rfl (by kernel_rfl) (by kernel_rfl) (by kernel_rfl) (fun _ _ _ h => h) (by kernel_rfl) (fun _ => hS) (by kernel_rfl) ?_ ?_
  · intro _; go_simp
  simp only [Act.put, List.setIfInBounds_toArray, List.set_cons_zero, List.set_cons_succ]
  refine wpAnyG_any (i := 26) (v := .bool true) rfl (by kernel_rfl) (by kernel_rfl) (by kernel_rfl) (fun _ _ _ h => h) (by kernel_rfl) (fun _ => hS) (by kernel_rfl) ?_ ?_
  · intro _; go_simp
  simp only [Act.put, List.setIfInBounds_toArray, List.set_cons_zero, List.set_cons_succ]
  refine wpAnyG_one (i := 27) rfl (by kernel_rfl) (by kernel_rfl) (fun K hK => ?_)
  go_simp
  refine hK.out _ _ (fun h => absurd (show true = false from h) (by decide)) ?_
  clear hK K
  refine wpAnyG_done (by kernel_rfl) ?_ _
  go_wp2
  go_ret
  exact ⟨rfl, hB5.trans (hb6.mono hB5.size)⟩
end Go.Proofs.YtnfilpbjgfmclaaDoor
