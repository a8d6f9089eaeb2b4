/- The readers of wire: a wrap. -/
import Derived.Test.YtdfjfafhpjoilaaDoorRk
import Derived.Test.YtdfjfafhpjoilaaDoorWr5
import Derived.Laws.CopyRow
namespace Go.Proofs.YtdfjfafhpjoilaaDoor
open Go.RowKit
set_option maxRecDepth 20000
set_option linter.unusedSimpArgs false

theorem wp_copyE {P : Program} {w : World} {o : Oper} {a : Act} {K : Act → World → Prop} {Q : Exit → Act → World → Prop} (d s : Operand) (dT sT : TypeId)
    (ho : o.op = .call { callee := .builtin .copy, args := #[d, s], argTypes := #[dT, sT] }) (elem : TypeId) (hu : P.underlying dT = some (.slice elem)) (hsz : (P.info? elem).map (·.size) = some 1)
    (g off dLen dCap : Nat) (ad : Addr) (sLen sCap : Nat) (hd : a.eval d = .slice (some ⟨g, off, none⟩) dLen dCap) (hs : a.eval s = .slice (some ad) sLen sCap)
    (cur : List Value) (t : TypeId) (hg : CellsAt w g t cur) (cs : List Value) (hn : cs.length = Nat.min sLen dLen)
    (hsrc : ∀ j v, cs[j]? = some v → w.cell? (ad.add j) = some v) (hfit : off + cs.length ≤ cur.length) (h1 : ∀ v ∈ cs, v.oneCell' = true)
    (h : K (a.put o.dst (goInt cs.length)) (w.setRow g (cur.take off ++ cs ++ cur.drop (off + cs.length)).toArray)) : o.wp P a w K Q := by
  have hrun := run_copy_row (P := P) w dT sT o.type elem g off dLen dCap ad sLen sCap cur.toArray t cs hu hsz hg hn hsrc (by simpa using hfit) h1
  rw [List.append_assoc] at h
  unfold Oper.wp
  simp [execOp, ho, resolve, invoke, builtin, hd, hs, hrun, Result.andThen]
  exact h
/-- What bytes say as a wrap. -/
def wpOf (z : List Int) (o : Nat) : Wp := ⟨at1 z o, at1 z (o + 1), at4 z (o + 2), (z.drop (o + 6)).take 48⟩
theorem wp_set0 (a b c : Int) (l : List Int) (v : Int) : ((⟨a, b, c, l⟩ : Wp).cells).set 0 (.int .u8 v) = (⟨v, b, c, l⟩ : Wp).cells := rfl
theorem wp_setDot (a b c : Int) (l : List Int) (b' c' : Int) : ((⟨a, b, c, l⟩ : Wp).cells).take 1 ++ dotC b' c' ++ ((⟨a, b, c, l⟩ : Wp).cells).drop (1 + (dotC b' c').length) = (⟨a, b', c', l⟩ : Wp).cells := rfl
theorem wp_setData (a b c : Int) (l m : List Int) (h : l.length = m.length) : ((⟨a, b, c, l⟩ : Wp).cells).take 3 ++ byC m ++ ((⟨a, b, c, l⟩ : Wp).cells).drop (3 + (byC m).length) = (⟨a, b, c, m⟩ : Wp).cells := by
  have e : ((⟨a, b, c, l⟩ : Wp).cells).drop (3 + (byC m).length) = [] := by
    apply List.drop_of_length_le
    simp [Wp.cells, dotC, byC_length, h]; omega
  rw [e, List.append_nil]; rfl
def dataZ : List Int := List.replicate 48 0
def wpZ : Wp := ⟨0, 0, 0, dataZ⟩
theorem zeroWp_eq : zeroWp = wpZ.cells := rfl
theorem wp_len (e : Wp) (h : e.data.length = 48) : e.cells.length = 51 := (wp_parts e h).1

set_option maxHeartbeats 8000000 in
theorem rwrap_at (R base : Nat) (z : List Int) (o : Nat) (w : World) (hR : Rd w R base (z.drop o)) (hz : ∀ v ∈ z, b8 v) :
    Calls Tryd.prog 34 #[.pointer (some ⟨R, 0, none⟩)] w fun e w' =>
      (o + 54 ≤ z.length ∧ e = .returned (.agg (wpOf z o).cells.toArray) ∧ Rd w' R base (z.drop (o + 54)) ∧ Took w w' R base) ∨ (z.length < o + 54 ∧ e = .panicked [wrongP] ∧ Took w w' R base) := by
  have hlt := hR.lt
  have hsz := hR.size
  have h1 := fun wx (h : Rd wx R base (z.drop o)) => rone_at R base z o wx h
  have h2 := fun wx (h : Rd wx R base (z.drop (o + 1))) => rdot_at R base z (o + 1) wx h hz
  have h3 := fun wx (h : Rd wx R base (z.drop (o + 6))) => take_any R base (z.drop (o + 6)) 48 wx h
  have e12 : o + 1 + 1 = o + 2 := rfl
  rw [e12] at h2
  have HWP : Veil (wpOf z o = ⟨at1 z o, at1 z (o + 1), at4 z (o + 2), (z.drop (o + 6)).take 48⟩) := ⟨rfl⟩
  have HL : Veil ((z.drop (o + 6)).length = z.length - (o + 6)) := ⟨List.length_drop⟩
  have HD : Veil ((z.drop (o + 6)).drop 48 = z.drop (o + 54)) := ⟨by rw [List.drop_drop]⟩
  obtain ⟨WP, hWP⟩ : ∃ q, wpOf z o = q := ⟨_, rfl⟩
  rw [hWP] at HWP ⊢
  obtain ⟨A, hA⟩ : ∃ q, at1 z o = q := ⟨_, rfl⟩
  obtain ⟨B, hB⟩ : ∃ q, at1 z (o + 1) = q := ⟨_, rfl⟩
  obtain ⟨C, hC⟩ : ∃ q, at4 z (o + 2) = q := ⟨_, rfl⟩
  obtain ⟨D, hD⟩ : ∃ q, (z.drop (o + 6)).take 48 = q := ⟨_, rfl⟩
  have HDL : Veil (o + 54 ≤ z.length → D.length = 48) := ⟨fun h => by rw [← hD, List.length_take, List.length_drop]; omega⟩
  rw [hA] at h1
  rw [hB, hC] at h2
  rw [hD] at h3
  rw [hA, hB, hC, hD] at HWP
  have hG0 := (CellsAt.new w 52 wpZ.cells).alloc (.cells wpZ.cells.toArray 52)
  have hG1 : CellsAt ((w.alloc (.cells wpZ.cells.toArray 52)).alloc (.cells wpZ.cells.toArray 52)) (w.heap.size + 1) 52 wpZ.cells := by
    have := CellsAt.new (w.alloc (.cells wpZ.cells.toArray 52)) 52 wpZ.cells
    rw [World.size_alloc] at this
    exact this
  have hR0 := (hR.alloc (.cells wpZ.cells.toArray 52)).alloc (.cells wpZ.cells.toArray 52)
  have hT0 : Took w ((w.alloc (.cells wpZ.cells.toArray 52)).alloc (.cells wpZ.cells.toArray 52)) R base := (Took.alloc hsz _).trans (Took.alloc (by simp; omega) _)
  have r1 : base ≤ w.heap.size + 1 := by omega
  have r2 : R ≠ w.heap.size + 1 := by omega
  have r3 : R ≠ w.heap.size := by omega
  clear hR hz hWP hA hB hC hD e12
  go_enter Tryd.func34, Tryd.ntmps34
  go_upto_region 2 with fail
  refine forget (p := fun y => Code.wp _ _ _ _ y) (fun W => Rd W R base (z.drop o) ∧ Took w W R base ∧ CellsAt W w.heap.size 52 wpZ.cells ∧ CellsAt W (w.heap.size + 1) 52 wpZ.cells) ⟨hR0, hT0, hG0, hG1⟩ ?_
  clear hR0 hT0 hG0 hG1
  rintro W ⟨hR0, hT0, hG0, hG1⟩
  have h1W := h1 W hR0
  clear h1
  by_cases k0 : o + 1 ≤ z.length
  rotate_left
  · go_upto_region 3 with (go_at_call 22; refine h1W.mono ?_; rintro e wB (⟨hx, _⟩ | ⟨_, rfl, htB⟩); (exfalso; omega))
    exact bodyPost_gone (.inr ⟨by omega, rfl, hT0.trans htB⟩)
  go_upto_region 3 with (go_at_call 22; refine h1W.mono ?_; rintro e w1 (⟨_, rfl, hR1, ht1⟩ | ⟨hx, _⟩); rotate_left; (exfalso; omega); have hH1 := hG1.took ht1 (by omega); have cj := hH1.cell 0; have fj := hH1.frozen2 0)
  have hH0 := hG0.took ht1 (by omega)
  have hH2 := hH1.set2 0 (.int .u8 A)
  refine forget (p := fun y => Code.wp _ _ _ _ y) (fun W => Rd W R base (z.drop (o + 1)) ∧ Took w W R base ∧ CellsAt W w.heap.size 52 wpZ.cells ∧ CellsAt W (w.heap.size + 1) 52 (⟨A, 0, 0, dataZ⟩ : Wp).cells) ⟨hR1.setCellO _ _ r1 r2, (hT0.trans ht1).setCellO _ _ (by show w.heap.size ≤ w.heap.size + 1; omega) r1, hH0.setOther2 _ _ (by show w.heap.size ≠ w.heap.size + 1; omega), hH2⟩ ?_
  clear h1W hR0 hT0 hG0 hG1 hH1 hH0 hH2 hR1 ht1 cj fj W
  rintro W ⟨hR0, hT0, hG0, hG1⟩
  have h1W := h2 W hR0
  clear h2
  by_cases k1 : o + 1 + 5 ≤ z.length
  rotate_left
  · go_upto_region 4 with (go_at_call 24; refine h1W.mono ?_; rintro e wB (⟨hx, _⟩ | ⟨_, rfl, htB⟩); (exfalso; omega))
    exact bodyPost_gone (.inr ⟨by omega, rfl, hT0.trans htB⟩)
  go_upto_region 4 with (first
    | (go_at_call 24; refine h1W.mono ?_; rintro e w1 (⟨_, rfl, hR1, ht1⟩ | ⟨hx, _⟩); rotate_left; (exfalso; omega); have hH1 := hG1.took ht1 (by omega))
    | (refine wpList_stm rfl 25 _ _ rfl _ 1 rfl rfl hH1 sizeDot (by show 1 + 2 ≤ 51; omega) (dot_one B C) ?_))
  have hH0 := hG0.took ht1 (by omega)
  have hH2 := hH1.setRow ((⟨A, 0, 0, dataZ⟩ : Wp).cells.take 1 ++ dotC B C ++ (⟨A, 0, 0, dataZ⟩ : Wp).cells.drop (1 + (dotC B C).length))
  have e6 : o + 1 + 5 = o + 6 := by omega
  rw [e6] at hR1
  refine forget (p := fun y => Code.wp _ _ _ _ y) (fun W => Rd W R base (z.drop (o + 6)) ∧ Took w W R base ∧ CellsAt W w.heap.size 52 wpZ.cells ∧ CellsAt W (w.heap.size + 1) 52 (⟨A, B, C, dataZ⟩ : Wp).cells) ⟨hR1.setRowO _ r1 r2, (hT0.trans ht1).setRowO _ (by omega) r1, hH0.setRowOther2 _ (by omega), hH2⟩ ?_
  clear h1W hR0 hT0 hG0 hG1 hH1 hH0 hH2 hR1 ht1 W e6
  rintro W ⟨hR0, hT0, hG0, hG1⟩
  refine wp_region_gate (fun _ => True) 6 (by kernel_rfl) ?_
  obtain ⟨D0, hD0⟩ : ∃ q, W.drew = q := ⟨_, rfl⟩
  have hb0 : Below W.heap.size W D0 := by rw [← hD0]; exact (Below.refl _ _).drew
  rw [hD0]
  have hT1 := hT0.trans (Took.afar hR0.size hb0)
  have hR1 := hR0.afar hb0
  have hH0 := hG0.took (Took.afar (R := R) hR0.size hb0) (by omega)
  have hH1 := hG1.took (Took.afar (R := R) hR0.size hb0) (by omega)
  clear hD0 hb0 hR0 hT0 hG0 hG1
  have hS : True := trivial
  have h3W := h3 D0 hR1
  clear h3
  refine wpAnyG_any (i := 0) (v := ?_) rfl (by kernel_rfl) (by kernel_rfl) (by kernel_rfl) (fun _ _ _ h => h) (by kernel_rfl) (fun _ => hS) (by kernel_rfl) ?_ ?_
  rotate_left
  · intro _; go_simp; try with_reducible rfl
  simp only [Act.put, List.setIfInBounds_toArray, List.set_cons_zero, List.set_cons_succ]
  refine wpAnyG_any (i := 1) (v := ?_) rfl (by kernel_rfl) (by kernel_rfl) (by kernel_rfl) (fun _ _ _ h => h) (by kernel_rfl) (fun _ => hS) (by kernel_rfl) ?_ ?_
  rotate_left
  · intro _; go_simp; try with_reducible rfl
  simp only [Act.put, List.setIfInBounds_toArray, List.set_cons_zero, List.set_cons_succ]
  refine wpAnyG_any (i := 2) (v := ?_) rfl (by kernel_rfl) (by kernel_rfl) (by kernel_rfl) (fun _ _ _ h => h) (by kernel_rfl) (fun _ => hS) (by kernel_rfl) ?_ ?_
  rotate_left
  · intro _; go_simp; try with_reducible rfl
  simp only [Act.put, List.setIfInBounds_toArray, List.set_cons_zero, List.set_cons_succ]
  refine wpAnyG_any (i := 3) (v := ?_) rfl (by kernel_rfl) (by kernel_rfl) (by kernel_rfl) (fun _ _ _ h => h) (by kernel_rfl) (fun _ => hS) (by kernel_rfl) ?_ ?_
  rotate_left
  · intro _; go_simp; try with_reducible rfl
  simp only [Act.put, List.setIfInBounds_toArray, List.set_cons_zero, List.set_cons_succ]
  refine wpAnyG_any (i := 4) (v := ?_) rfl (by kernel_rfl) (by kernel_rfl) (by kernel_rfl) (fun _ _ _ h => h) (by kernel_rfl) (fun _ => hS) (by kernel_rfl) ?_ ?_
  rotate_left
  · intro _; go_simp; try with_reducible rfl
  simp only [Act.put, List.setIfInBounds_toArray, List.set_cons_zero, List.set_cons_succ]
  refine wpAnyG_one (i := 5) rfl (by kernel_rfl) (by kernel_rfl) (fun K hK => ?_)
  by_cases k2 : o + 54 ≤ z.length
  rotate_left
  · have k3 : (z.drop (o + 6)).length < 48 := by rw [HL.out]; omega
    go_wp2_with (go_at_call 33; refine h3W.mono ?_; rintro e wB (⟨hx, _⟩ | ⟨_, rfl, htB⟩); (exfalso; omega))
    exact bodyPost_gone (.inr ⟨by omega, rfl, hT1.trans htB⟩)
  have k3 : 48 ≤ (z.drop (o + 6)).length := by rw [HL.out]; omega
  have hDL := HDL.out k2
  go_wp2_with (go_at_call 33; refine h3W.mono ?_; rintro e w1 (⟨_, x, rfl, hy, hR2, ht2⟩ | ⟨hx, _⟩); rotate_left; (exfalso; omega))
  obtain ⟨b, off, rfl, hrg⟩ := bytes_range (hy _ (Below.refl _ _)) (by omega)
  have hJ1 := hH1.took ht2 (by omega)
  have hJ0 := hH0.took ht2 (by omega)
  clear hy h3W hH1 hH0
  refine hK.out _ _ (fun _ => hS) ?_
  clear hK K
  refine wpAnyG_one (i := 6) rfl (by kernel_rfl) (by kernel_rfl) (fun K hK => ?_)
  refine wp_copyE _ _ _ _ rfl 5 Tryd.underlying22 (by kernel_rfl) (w.heap.size + 1) 3 48 48 ⟨b, off, none⟩ 48 48 rfl rfl (⟨A, B, C, dataZ⟩ : Wp).cells 52 hJ1 (byC D) (by rw [byC_length, hDL]; rfl) (fun j v hv => by rw [Addr.add_mid]; exact hrg j v hv) (by have := wp_len (⟨A, B, C, dataZ⟩ : Wp) rfl; rw [byC_length, hDL]; omega) (byC_one D) ?_
  refine hK.out _ _ (fun h => absurd (show true = false from h) (by decide)) ?_
  clear hK K
  refine wpAnyG_done (by kernel_rfl) ?_ _
  simp only [Act.put, List.getElem_toArray, List.getElem_cons_succ, List.getElem_cons_zero, List.setIfInBounds_toArray, List.set_cons_zero, List.set_cons_succ]
  go_upto_region 5 with fail
  have hJ2 := hJ1.setRow ((⟨A, B, C, dataZ⟩ : Wp).cells.take 3 ++ byC D ++ (⟨A, B, C, dataZ⟩ : Wp).cells.drop (3 + (byC D).length))
  have HSD := wp_setData A B C dataZ D (by rw [hDL]; rfl)
  rw [HD.out] at hR2
  have HWC : Veil (WP.data.length = 48) := ⟨by rw [HWP.out]; exact hDL⟩
  refine forget (p := fun y => Code.wp _ _ _ _ y) (fun W => Rd W R base (z.drop (o + 54)) ∧ Took w W R base ∧ CellsAt W w.heap.size 52 wpZ.cells ∧ CellsAt W (w.heap.size + 1) 52 WP.cells) ⟨hR2.setRowO _ r1 r2, (hT1.trans ht2).setRowO _ (by omega) r1, hJ0.setRowOther2 _ (by omega), by rw [HWP.out, ← HSD]; exact hJ2⟩ ?_
  clear hJ0 hJ1 hJ2 hR2 ht2 hT1 hR1 HSD hrg hDL W
  rintro W ⟨hR0, hT0, hG0, hG1⟩
  have rE := hG1.whole2
  have iW : (Tryd.prog.info? 52).map (·.size) = some WP.cells.length := by rw [wp_len WP HWC.out]; exact sizeWrap
  have hlW : wpZ.cells.length = WP.cells.length := by rw [wp_len WP HWC.out]; rfl
  obtain ⟨_, _, _, _, h1Wp⟩ := wp_parts WP HWC.out
  go_wp2_with (first
    | (refine wpList_ldv rfl 52 _ rfl _ _ rfl WP.cells rE Tryd.underlying52 rfl iW ?_)
    | (refine wpList_stv rfl 52 _ _ rfl _ rfl rfl hG0 iW hlW h1Wp ?_))
  refine bodyPost_ret (results_cell_row (Tryd.results34) _ _ _ _ _ (0, 0) _ rfl (hG0.setRow WP.cells) Tryd.underlying52 rfl (by rw [iW]; simp)) rfl ?_
  exact .inl ⟨k2, rfl, hR0.setRowO _ hsz r3, hT0.setRowO _ (Nat.le_refl _) hsz⟩
end Go.Proofs.YtdfjfafhpjoilaaDoor
