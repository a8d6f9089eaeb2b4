/- causal: 'live'. -/
import Derived.Test.YtmoabomoodddkaaBf8
namespace Go.Proofs.Ytmoabomoodddkaa
open Go.RowKit Go.Shelf
set_option maxRecDepth 20000
set_option linter.unusedSimpArgs false
def lvE : Ev := ⟨1, 2, [0, 1, 0, 0, 0, 0, 0, 0], 4, 0, 0, false, 0, 0, 0⟩
def lvF : Ev := ⟨1, 1, [0, 0, 0, 0, 0, 0, 0, 0], 4, 0, 0, false, 0, 0, 0⟩
theorem lvE_ok : lvE.Ok := ⟨⟨⟨by decide, by decide⟩, by decide, by decide⟩, rfl, by decide, ⟨⟨by decide, by decide⟩, by decide, by decide⟩, by decide, by decide, by decide, by decide⟩
theorem lvF_ok : lvF.Ok := ⟨⟨⟨by decide, by decide⟩, by decide, by decide⟩, rfl, by decide, ⟨⟨by decide, by decide⟩, by decide, by decide⟩, by decide, by decide, by decide, by decide⟩
theorem lv_r1 : refN [0, 0, 0, 0, 0, 0, 0, 0] [] lvE = 0 := by kernel_rfl
theorem lv_r2 : refN [0, 0, 0, 0, 0, 0, 0, 0] [lvE] lvF = 0 := by kernel_rfl
theorem lv_t1 : Takes [0, 0, 0, 0, 0, 0, 0, 0] (insE lvE []) [] [0, 0, 0, 0, 0, 0, 0, 0] [lvE] := Takes.done _ _ (.inr (by kernel_rfl))
theorem lv_t2 : Takes [0, 0, 0, 0, 0, 0, 0, 0] (insE lvF [lvE]) [lvF, lvE] [0, 2, 0, 0, 0, 0, 0, 0] [] := by
  refine Takes.step _ _ lvF [lvE] _ _ (by kernel_rfl) (by kernel_rfl) ?_
  exact Takes.step _ _ lvE [] _ _ (by kernel_rfl) (by kernel_rfl) (Takes.done _ _ (.inr (by kernel_rfl)))
set_option maxHeartbeats 4000000 in
theorem clive_any (w : World) : Calls Try.prog 12 #[] w fun r w' => r = .returned (.bool true) ∧ Below w.heap.size w w' := by
  have hnew := fun W => new_any W
  have HP1 : Veil (∀ H b W, BufC W H b [0, 0, 0, 0, 0, 0, 0, 0] [] → Calls Try.prog 28 #[.pointer (some ⟨H, 0, none⟩), .agg lvE.cells.toArray] W fun r w' => ∃ x c, r = .returned (.tuple #[.slice x 0 c, .int .i64 0]) ∧ BufC w' H b [0, 0, 0, 0, 0, 0, 0, 0] [lvE] ∧ Turn (fun k => k = b ∨ k = H) W w') := ⟨fun H b W hC => (put_ok H b _ _ lvE W hC lvE_ok (by decide) lv_r1).mono fun r w' ⟨v, xs, S2, L2, h1, h2, h3, h4, h5⟩ => by
    obtain ⟨rfl, rfl, rfl⟩ := h2.det lv_t1
    obtain ⟨x, c, rfl⟩ := h4.isSlice
    exact ⟨x, c, h1, h3, h5⟩⟩
  have HP2 : Veil (∀ H b W, BufC W H b [0, 0, 0, 0, 0, 0, 0, 0] [lvE] → Calls Try.prog 28 #[.pointer (some ⟨H, 0, none⟩), .agg lvF.cells.toArray] W fun r w' => ∃ g c, r = .returned (.tuple #[.slice (some ⟨g, 0, none⟩) 2 c, .int .i64 0]) ∧ w'.rangeAt g 0 lvF.cells ∧ W.heap.size ≤ g ∧ BufC w' H b [0, 2, 0, 0, 0, 0, 0, 0] [] ∧ Turn (fun k => k = b ∨ k = H) W w' ∧ ∀ V, Below w'.heap.size w' V → V.rangeAt g 0 lvF.cells) := ⟨fun H b W hC => (put_ok H b _ _ lvF W hC lvF_ok (by decide) lv_r2).mono fun r w' ⟨v, xs, S2, L2, h1, h2, h3, h4, h5⟩ => by
    obtain ⟨rfl, rfl, rfl⟩ := h2.det lv_t2
    obtain ⟨x, c, rfl⟩ := h4.isSlice
    obtain ⟨g, rfl, _, hr⟩ := h4.at_ 0 (by decide)
    exact ⟨g, c, h1, hr, (h4.blockLt g rfl).2.1, h3, h5, fun V hb => by obtain ⟨g', e, _, hr'⟩ := (h4.far hb).at_ 0 (by decide); injection e with e; injection e with e; subst e; exact hr'⟩⟩
  have HSN : Veil (∀ H b W, BufC W H b [0, 2, 0, 0, 0, 0, 0, 0] [] → Calls Try.prog 29 #[.pointer (some ⟨H, 0, none⟩)] W fun r w' => r = .returned (.agg (([0, 2, 0, 0, 0, 0, 0, 0] : List Int).map (Value.int .u32)).toArray) ∧ Below W.heap.size W w') := ⟨fun H b W hC => seen_any H b _ _ W hC⟩
  go_enter Try.func12, Try.ntmps12
  go_upto_region 4 with (go_at_call 27; refine (hnew _).mono ?_; rintro x W1 ⟨H, b, rfl, hC1, hb1, hbb, hbH⟩)
  have hlb := hC1.wait.lt
  have hlH := hC1.cells.lt
  have k1 := (CellsAt.new W1 37 lvE.cells).alloc (.cells lvF.cells.toArray 37)
  have k2 := CellsAt.new (W1.alloc (.cells lvE.cells.toArray 37)) 37 lvF.cells
  rw [World.size_alloc] at k2
  have hb2 : Below W1.heap.size W1 ((W1.alloc (.cells lvE.cells.toArray 37)).alloc (.cells lvF.cells.toArray 37)) := ((Below.refl _ _).alloc (Nat.le_refl _) _).alloc (by simp) _
  refine forget (p := fun y => Code.wp _ _ _ _ y) (fun W => Below w.heap.size w W ∧ BufC W H b [0, 0, 0, 0, 0, 0, 0, 0] [] ∧ CellsAt W W1.heap.size 37 lvE.cells ∧ CellsAt W (W1.heap.size + 1) 37 lvF.cells) ⟨hb1.trans (hb2.mono hb1.size), hC1.far hb2, k1, k2⟩ ?_
  clear k1 k2 hb2 hC1 hb1
  rintro W2 ⟨hB2, hC2, k1, k2⟩
  have hBw : w.heap.size < W1.heap.size := by omega
  generalize W1.heap.size = B1 at hlb hlH k1 k2 hBw ⊢
  have iE : (Try.prog.info? 37).map (·.size) = some lvE.cells.length := by kernel_rfl
  have iF : (Try.prog.info? 37).map (·.size) = some lvF.cells.length := by kernel_rfl
  have uE := Try.underlying37
  have HEQ : Veil (∀ W, (binOp .eql 37 (.agg lvF.cells.toArray) (.agg lvF.cells.toArray)).run Try.prog W = .ok (.bool true) W) := ⟨fun W => by rw [ev_eql lvF lvF lvF_ok lvF_ok, evEq_self]⟩
  have HIX : Veil (∀ wx, (Instr.index 24 (.agg (([0, 2, 0, 0, 0, 0, 0, 0] : List Int).map (Value.int .u32)).toArray) (.int .i64 1)).run Try.prog wx = .ok (.int .u32 2) wx) := ⟨fun wx => run_index_row wx 24 22 8 .u32 [0, 2, 0, 0, 0, 0, 0, 0] 1 Try.underlying24 Try.underlying22 (by kernel_rfl) rfl (by decide)⟩
  have hp1 := HP1.out H b W2 hC2
  generalize ([0, 2, 0, 0, 0, 0, 0, 0] : List Int).map (Value.int .u32) = SV at HSN HIX
  generalize lvE.cells = E at k1 iE hp1 HP1
  generalize lvF.cells = F at k2 iF HP2 HEQ
  have hr1 := k1.wholeM
  clear hnew
  go_upto_region 5 with (first
    | (refine wpList_ldv rfl 37 _ rfl B1 0 rfl E hr1 uE rfl iE ?_)
    | (go_at_call 28; refine hp1.mono ?_; rintro x W3 ⟨x3, c3, rfl, hC3, ht3⟩))
  have hB3 : Below w.heap.size w W3 := hB2.trans (ht3.below hB2.size (fun k hk => by rcases hk with rfl | rfl; exact hbb; exact hbH))
  have k3 : CellsAt W3 (B1 + 1) 37 F := k2.congr (ht3.block _ k2.lt (by omega))
  have hp2 := HP2.out H b W3 hC3
  have hr3 := k3.wholeM
  clear hp1 HP1 hr1 k1 k2 hC2 hB2 hC3
  go_upto_region 6 with (first
    | (refine wpList_ldv rfl 37 _ rfl (B1 + 1) 0 rfl F hr3 uE rfl iF ?_)
    | (go_at_call 28; refine hp2.mono ?_; rintro x W4 ⟨g, c4, rfl, hrg, hg4, hC4, ht4, hkeep⟩))
  have hB4 : Below w.heap.size w W4 := hB3.trans (ht4.below hB3.size (fun k hk => by rcases hk with rfl | rfl; exact hbb; exact hbH))
  have k4 : CellsAt W4 (B1 + 1) 37 F := k3.congr (ht4.block _ k3.lt (by omega))
  have HK := Veil.mk hkeep
  have hsn := HSN.out H b W4.drew (hC4.congr (w' := W4.drew) rfl rfl)
  clear hp2 HP2 hr3 k3 hB3 hkeep HSN hC4 ht3 ht4
  refine wp_region_gateT (fun w' => w'.rangeAt g 0 F ∧ w'.rangeAt (B1 + 1) 0 F) (fun _ => True) 99 (by kernel_rfl) ?_
  have hT : (fun w' : World => w'.rangeAt g 0 F ∧ w'.rangeAt (B1 + 1) 0 F) W4.drew := ⟨hrg, k4.wholeM⟩
  have hS : (fun _ : World => True) W4.drew := trivial
  have heq := HEQ.out
  have hix := HIX.out
  refine wpAnyT_held (i := 0) (v := ?_) rfl (by kernel_rfl) (by kernel_rfl) (by kernel_rfl) (fun _ _ _ h => h) (by kernel_rfl) hT (fun _ => hS) (by kernel_rfl) ?_ ?_
  rotate_left
  · intro wx hSw; go_split_ands; go_simp; try with_reducible rfl
  simp only [Act.put, List.getElem_toArray, List.getElem_cons_succ, List.getElem_cons_zero, List.setIfInBounds_toArray, List.set_cons_zero, List.set_cons_succ]
  refine wpAnyT_held (i := 1) (v := ?_) rfl (by kernel_rfl) (by kernel_rfl) (by kernel_rfl) (fun _ _ _ h => h) (by kernel_rfl) hT (fun _ => hS) (by kernel_rfl) ?_ ?_
  rotate_left
  · intro wx hSw; go_split_ands; go_simp; try with_reducible rfl
  simp only [Act.put, List.getElem_toArray, List.getElem_cons_succ, List.getElem_cons_zero, List.setIfInBounds_toArray, List.set_cons_zero, List.set_cons_succ]
  refine wpAnyT_held (i := 2) (v := ?_) rfl (by kernel_rfl) (by kernel_rfl) (by kernel_rfl) (fun _ _ _ h => h) (by kernel_rfl) hT (fun _ => hS) (by kernel_rfl) ?_ ?_
  rotate_left
  · intro wx hSw; go_split_ands; go_simp; try with_reducible rfl
  simp only [Act.put, List.getElem_toArray, List.getElem_cons_succ, List.getElem_cons_zero, List.setIfInBounds_toArray, List.set_cons_zero, List.set_cons_succ]
  refine wpAnyT_held (i := 3) (v := ?_) rfl (by kernel_rfl) (by kernel_rfl) (by kernel_rfl) (fun _ _ _ h => h) (by kernel_rfl) hT (fun _ => hS) (by kernel_rfl) ?_ ?_
  rotate_left
  · intro wx hSw; go_split_ands; go_simp; try with_reducible rfl
  simp only [Act.put, List.getElem_toArray, List.getElem_cons_succ, List.getElem_cons_zero, List.setIfInBounds_toArray, List.set_cons_zero, List.set_cons_succ]
  refine wpAnyT_held (i := 4) (v := ?_) rfl (by kernel_rfl) (by kernel_rfl) (by kernel_rfl) (fun _ _ _ h => h) (by kernel_rfl) hT (fun _ => hS) (by kernel_rfl) ?_ ?_
  rotate_left
  · intro wx hSw; go_split_ands; go_simp; try with_reducible rfl
  simp only [Act.put, List.getElem_toArray, List.getElem_cons_succ, List.getElem_cons_zero, List.setIfInBounds_toArray, List.set_cons_zero, List.set_cons_succ]
  refine wpAnyT_held (i := 5) (v := .bool true) rfl (by kernel_rfl) (by kernel_rfl) (by kernel_rfl) (fun _ _ _ h => h) (by kernel_rfl) hT (fun _ => hS) (by kernel_rfl) ?_ ?_
  · intro wx hSw; go_split_ands; go_simp
  simp only [Act.put, List.getElem_toArray, List.getElem_cons_succ, List.getElem_cons_zero, List.setIfInBounds_toArray, List.set_cons_zero, List.set_cons_succ]
  refine wpAnyT_held (i := 6) (v := ?_) rfl (by kernel_rfl) (by kernel_rfl) (by kernel_rfl) (fun _ _ _ h => h) (by kernel_rfl) hT (fun _ => hS) (by kernel_rfl) ?_ ?_
  rotate_left
  · intro wx hSw; go_split_ands; go_simp; try with_reducible rfl
  simp only [Act.put, List.getElem_toArray, List.getElem_cons_succ, List.getElem_cons_zero, List.setIfInBounds_toArray, List.set_cons_zero, List.set_cons_succ]
  refine wpAnyT_held (i := 7) (v := ?_) rfl (by kernel_rfl) (by kernel_rfl) (by kernel_rfl) (fun _ _ _ h => h) (by kernel_rfl) hT (fun _ => hS) (by kernel_rfl) ?_ ?_
  rotate_left
  · intro wx hSw; go_split_ands; go_simp; try with_reducible rfl
  simp only [Act.put, List.getElem_toArray, List.getElem_cons_succ, List.getElem_cons_zero, List.setIfInBounds_toArray, List.set_cons_zero, List.set_cons_succ]
  refine wpAnyT_held (i := 8) (v := ?_) rfl (by kernel_rfl) (by kernel_rfl) (by kernel_rfl) (fun _ _ _ h => h) (by kernel_rfl) hT (fun _ => hS) (by kernel_rfl) ?_ ?_
  rotate_left
  · intro wx hSw; go_split_ands; go_simp; try with_reducible rfl
  simp only [Act.put, List.getElem_toArray, List.getElem_cons_succ, List.getElem_cons_zero, List.setIfInBounds_toArray, List.set_cons_zero, List.set_cons_succ]
  refine wpAnyT_held (i := 9) (v := .bool true) rfl (by kernel_rfl) (by kernel_rfl) (by kernel_rfl) (fun _ _ _ h => h) (by kernel_rfl) hT (fun _ => hS) (by kernel_rfl) ?_ ?_
  · intro wx hSw; go_split_ands; go_simp
  simp only [Act.put, List.getElem_toArray, List.getElem_cons_succ, List.getElem_cons_zero, List.setIfInBounds_toArray, List.set_cons_zero, List.set_cons_succ]
  refine wpAnyT_held (i := 10) (v := ?_) rfl (by kernel_rfl) (by kernel_rfl) (by kernel_rfl) (fun _ _ _ h => h) (by kernel_rfl) hT (fun _ => hS) (by kernel_rfl) ?_ ?_
  rotate_left
  · intro wx hSw; go_split_ands; go_simp; try with_reducible rfl
  simp only [Act.put, List.getElem_toArray, List.getElem_cons_succ, List.getElem_cons_zero, List.setIfInBounds_toArray, List.set_cons_zero, List.set_cons_succ]
  refine wpAnyT_held (i := 11) (v := ?_) rfl (by kernel_rfl) (by kernel_rfl) (by kernel_rfl) (fun _ _ _ h => h) (by kernel_rfl) hT (fun _ => hS) (by kernel_rfl) ?_ ?_
  rotate_left
  · intro wx hSw; go_split_ands; go_simp; try with_reducible rfl
  simp only [Act.put, List.getElem_toArray, List.getElem_cons_succ, List.getElem_cons_zero, List.setIfInBounds_toArray, List.set_cons_zero, List.set_cons_succ]
  refine wpAnyT_held (i := 12) (v := ?_) rfl (by kernel_rfl) (by kernel_rfl) (by kernel_rfl) (fun _ _ _ h => h) (by kernel_rfl) hT (fun _ => hS) (by kernel_rfl) ?_ ?_
  rotate_left
  · intro wx hSw; go_split_ands; go_simp; try with_reducible rfl
  simp only [Act.put, List.getElem_toArray, List.getElem_cons_succ, List.getElem_cons_zero, List.setIfInBounds_toArray, List.set_cons_zero, List.set_cons_succ]
  refine wpAnyT_held (i := 13) (v := ?_) rfl (by kernel_rfl) (by kernel_rfl) (by kernel_rfl) (fun _ _ _ h => h) (by kernel_rfl) hT (fun _ => hS) (by kernel_rfl) ?_ ?_
  rotate_left
  · intro wx hSw; go_split_ands; go_simp; try with_reducible rfl
  simp only [Act.put, List.getElem_toArray, List.getElem_cons_succ, List.getElem_cons_zero, List.setIfInBounds_toArray, List.set_cons_zero, List.set_cons_succ]
  refine wpAnyT_held (i := 14) (v := .bool true) rfl (by kernel_rfl) (by kernel_rfl) (by kernel_rfl) (fun _ _ _ h => h) (by kernel_rfl) hT (fun _ => hS) (by kernel_rfl) ?_ ?_
  · intro wx hSw; go_split_ands; go_simp
  simp only [Act.put, List.getElem_toArray, List.getElem_cons_succ, List.getElem_cons_zero, List.setIfInBounds_toArray, List.set_cons_zero, List.set_cons_succ]
  refine wpAnyT_held (i := 15) (v := ?_) rfl (by kernel_rfl) (by kernel_rfl) (by kernel_rfl) (fun _ _ _ h => h) (by kernel_rfl) hT (fun _ => hS) (by kernel_rfl) ?_ ?_
  rotate_left
  · intro wx hSw; go_split_ands; go_simp; try with_reducible rfl
  simp only [Act.put, List.getElem_toArray, List.getElem_cons_succ, List.getElem_cons_zero, List.setIfInBounds_toArray, List.set_cons_zero, List.set_cons_succ]
  refine wpAnyT_held (i := 16) (v := ?_) rfl (by kernel_rfl) (by kernel_rfl) (by kernel_rfl) (fun _ _ _ h => h) (by kernel_rfl) hT (fun _ => hS) (by kernel_rfl) ?_ ?_
  rotate_left
  · intro wx hSw; go_split_ands; go_simp; try with_reducible rfl
  simp only [Act.put, List.getElem_toArray, List.getElem_cons_succ, List.getElem_cons_zero, List.setIfInBounds_toArray, List.set_cons_zero, List.set_cons_succ]
  refine wpAnyT_held (i := 17) (v := ?_) rfl (by kernel_rfl) (by kernel_rfl) (by kernel_rfl) (fun _ _ _ h => h) (by kernel_rfl) hT (fun _ => hS) (by kernel_rfl) ?_ ?_
  rotate_left
  · intro wx hSw; go_split_ands; go_simp; try with_reducible rfl
  simp only [Act.put, List.getElem_toArray, List.getElem_cons_succ, List.getElem_cons_zero, List.setIfInBounds_toArray, List.set_cons_zero, List.set_cons_succ]
  refine wpAnyT_held (i := 18) (v := ?_) rfl (by kernel_rfl) (by kernel_rfl) (by kernel_rfl) (fun _ _ _ h => h) (by kernel_rfl) hT (fun _ => hS) (by kernel_rfl) ?_ ?_
  rotate_left
  · intro wx hSw; go_split_ands; go_simp; try with_reducible rfl
  simp only [Act.put, List.getElem_toArray, List.getElem_cons_succ, List.getElem_cons_zero, List.setIfInBounds_toArray, List.set_cons_zero, List.set_cons_succ]
  refine wpAnyT_load (i := 19) (dst := some 45) (ty := 37) (x := .tmp 44) (b := g) (o := (0)) (cs := F) (by kernel_rfl) (by kernel_rfl) (by kernel_rfl) (by kernel_rfl) (by kernel_rfl) (fun _ _ _ h => h) (by kernel_rfl) hT (fun _ => hS) (by kernel_rfl) (fun _ h => h.1) uE rfl iF ?_
  simp only [Act.put, List.getElem_toArray, List.getElem_cons_succ, List.getElem_cons_zero, List.setIfInBounds_toArray, List.set_cons_zero, List.set_cons_succ]
  refine wpAnyT_load (i := 20) (dst := some 46) (ty := 37) (x := .tmp 3) (b := (B1 + 1)) (o := (0)) (cs := F) (by kernel_rfl) (by kernel_rfl) (by kernel_rfl) (by kernel_rfl) (by kernel_rfl) (fun _ _ _ h => h) (by kernel_rfl) hT (fun _ => hS) (by kernel_rfl) (fun _ h => h.2) uE rfl iF ?_
  simp only [Act.put, List.getElem_toArray, List.getElem_cons_succ, List.getElem_cons_zero, List.setIfInBounds_toArray, List.set_cons_zero, List.set_cons_succ]
  refine wpAnyT_held (i := 21) (v := .bool true) rfl (by kernel_rfl) (by kernel_rfl) (by kernel_rfl) (fun _ _ _ h => h) (by kernel_rfl) hT (fun _ => hS) (by kernel_rfl) ?_ ?_
  · intro wx hSw; go_split_ands; go_simp
  simp only [Act.put, List.getElem_toArray, List.getElem_cons_succ, List.getElem_cons_zero, List.setIfInBounds_toArray, List.set_cons_zero, List.set_cons_succ]
  refine wpAnyT_held (i := 22) (v := ?_) rfl (by kernel_rfl) (by kernel_rfl) (by kernel_rfl) (fun _ _ _ h => h) (by kernel_rfl) hT (fun _ => hS) (by kernel_rfl) ?_ ?_
  rotate_left
  · intro wx hSw; go_split_ands; go_simp; try with_reducible rfl
  simp only [Act.put, List.getElem_toArray, List.getElem_cons_succ, List.getElem_cons_zero, List.setIfInBounds_toArray, List.set_cons_zero, List.set_cons_succ]
  refine wpAnyT_held (i := 23) (v := ?_) rfl (by kernel_rfl) (by kernel_rfl) (by kernel_rfl) (fun _ _ _ h => h) (by kernel_rfl) hT (fun _ => hS) (by kernel_rfl) ?_ ?_
  rotate_left
  · intro wx hSw; go_split_ands; go_simp; try with_reducible rfl
  simp only [Act.put, List.getElem_toArray, List.getElem_cons_succ, List.getElem_cons_zero, List.setIfInBounds_toArray, List.set_cons_zero, List.set_cons_succ]
  refine wpAnyT_held (i := 24) (v := ?_) rfl (by kernel_rfl) (by kernel_rfl) (by kernel_rfl) (fun _ _ _ h => h) (by kernel_rfl) hT (fun _ => hS) (by kernel_rfl) ?_ ?_
  rotate_left
  · intro wx hSw; go_split_ands; go_simp; try with_reducible rfl
  simp only [Act.put, List.getElem_toArray, List.getElem_cons_succ, List.getElem_cons_zero, List.setIfInBounds_toArray, List.set_cons_zero, List.set_cons_succ]
  refine wpAnyT_one (i := 25) rfl (by kernel_rfl) (by kernel_rfl) (fun K hK => ?_)
  refine wpx_call _ _ (by kernel_rfl) (hsn.mono ?_)
  rintro x W5 ⟨rfl, hb5⟩
  refine ⟨_, rfl, ?_⟩
  have hb5' : Below W4.heap.size W4 W5 := (Below.refl _ _).drew.trans hb5
  have HB5 : Veil (Below w.heap.size w W5) := ⟨hB4.trans (hb5'.mono hB4.size)⟩
  replace hT : (fun w' : World => w'.rangeAt g 0 F ∧ w'.rangeAt (B1 + 1) 0 F) W5 := ⟨HK.out W5 hb5', (k4.farM hb5').wholeM⟩
  replace hS : (fun _ : World => True) W5 := trivial
  clear hb5 hb5' hrg k4 hsn hB4
  refine hK.out _ _ hT (fun _ => hS) ?_
  clear hK K
  try simp only [Act.put, List.getElem_toArray, List.getElem_cons_succ, List.getElem_cons_zero, List.setIfInBounds_toArray, List.set_cons_zero, List.set_cons_succ]
  refine wpAnyT_held (i := 26) (v := .int .u32 2) rfl (by kernel_rfl) (by kernel_rfl) (by kernel_rfl) (fun _ _ _ h => h) (by kernel_rfl) hT (fun _ => hS) (by kernel_rfl) ?_ ?_
  · intro wx hSw; go_split_ands; go_simp
  simp only [Act.put, List.getElem_toArray, List.getElem_cons_succ, List.getElem_cons_zero, List.setIfInBounds_toArray, List.set_cons_zero, List.set_cons_succ]
  refine wpAnyT_held (i := 27) (v := .bool true) rfl (by kernel_rfl) (by kernel_rfl) (by kernel_rfl) (fun _ _ _ h => h) (by kernel_rfl) hT (fun _ => hS) (by kernel_rfl) ?_ ?_
  · intro wx hSw; go_split_ands; go_simp
  simp only [Act.put, List.getElem_toArray, List.getElem_cons_succ, List.getElem_cons_zero, List.setIfInBounds_toArray, List.set_cons_zero, List.set_cons_succ]
  refine wpAnyT_held (i := 28) (v := ?_) rfl (by kernel_rfl) (by kernel_rfl) (by kernel_rfl) (fun _ _ _ h => h) (by kernel_rfl) hT (fun _ => hS) (by kernel_rfl) ?_ ?_
  rotate_left
  · intro wx hSw; go_split_ands; go_simp; try with_reducible rfl
  simp only [Act.put, List.getElem_toArray, List.getElem_cons_succ, List.getElem_cons_zero, List.setIfInBounds_toArray, List.set_cons_zero, List.set_cons_succ]
  refine wpAnyT_held (i := 29) (v := ?_) rfl (by kernel_rfl) (by kernel_rfl) (by kernel_rfl) (fun _ _ _ h => h) (by kernel_rfl) hT (fun _ => hS) (by kernel_rfl) ?_ ?_
  rotate_left
  · intro wx hSw; go_split_ands; go_simp; try with_reducible rfl
  simp only [Act.put, List.getElem_toArray, List.getElem_cons_succ, List.getElem_cons_zero, List.setIfInBounds_toArray, List.set_cons_zero, List.set_cons_succ]
  refine wpAnyT_done (by kernel_rfl) ?_ _
  clear hT hS heq hix
  go_wp2
  go_ret
  exact ⟨rfl, HB5.out⟩
end Go.Proofs.Ytmoabomoodddkaa
