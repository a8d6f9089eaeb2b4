/- The statement WireFrames, walked. -/
import Derived.Test.YtmojcanbhlfhgaaDoorWireBoth
import Derived.Test.YtmojcanbhlfhgaaDoorWf
namespace Go.Proofs.YtmojcanbhlfhgaaDoor
open Go.RowKit
set_option maxRecDepth 20000
set_option linter.unusedSimpArgs false

set_option maxHeartbeats 4000000 in
theorem frames_walk (F : Fr) (xw : Option Addr) (lw cw : Nat) (ws : List Wp) (xb : Option Addr) (lb cb : Nat) (body : List Int) (w : World) (hT : BTab w) (hp : F.prev.length = 32) (hm : F.mac.length = 32) (hfw : F.wraps = .slice xw lw cw) (hws : WrapsAt w xw lw cw ws) (hfb : F.body = .slice xb lb cb) (hbo : Bytes w xb lb cb body) :
    Calls Tryd.prog 3 #[.agg F.cells.toArray] w fun e w' => e = .returned (.bool true) ∧ Below w.heap.size w w' := by
  obtain ⟨q0, _⟩ := fr_parts F hp hm
  obtain ⟨q2, _⟩ := fr_parts (F.few xw lw cw xb lb cb) hp hm
  have h1 := fr_one (F.few xw lw cw xb lb cb) xw xb _ cw _ cb rfl rfl
  have hfe := fun wx (hb : Below w.heap.size w wx) => few6_any F xw lw cw ws xb lb cb body wx hp hm hfw (hws.below hb) hfb (hbo.below hb)
  have hws2 := hws.few 80
  have hbo2 := hbo.few 5000
  have hfr := fun wx (hb : Below w.heap.size w wx) => Frame_both (F.few xw lw cw xb lb cb) xw (min lw 80) cw (ws.take 80) xb (min lb 5000) cb (body.take 5000) wx hp hm rfl (hws2.below hb) rfl (hbo2.below hb)
  have hrf := fun wx (hb : Below w.heap.size w wx) => refFrame_both (F.few xw lw cw xb lb cb) xw (min lw 80) cw (ws.take 80) xb (min lb 5000) cb (body.take 5000) wx hp hm rfl (hws2.below hb) rfl (hbo2.below hb)
  have hop := fun wx (hb : Below w.heap.size w wx) => Open_both (F.few xw lw cw xb lb cb) xw (min lw 80) cw (ws.take 80) wx hp hm rfl (hws2.below hb)
  have hro := fun wx (hb : Below w.heap.size w wx) => refOpen_both (F.few xw lw cw xb lb cb) xw (min lw 80) cw (ws.take 80) wx hp hm rfl (hws2.below hb)
  have hlv := fun wx (hb : Below w.heap.size w wx) => live6_any wx (hT.below hb)
  obtain ⟨F2, hF2⟩ : ∃ q, F.few xw lw cw xb lb cb = q := ⟨_, rfl⟩
  rw [hF2] at q2 h1 hfe hfr hrf hop hro
  obtain ⟨FB, hFB⟩ : ∃ q, frB F2 (ws.take 80) (body.take 5000) (min lw 80) (min lb 5000) = q := ⟨_, rfl⟩
  rw [hFB] at hfr hrf
  obtain ⟨FE, hFE⟩ : ∃ q, frE (min lw 80) (min lb 5000) = q := ⟨_, rfl⟩
  rw [hFE] at hfr hrf
  obtain ⟨OB, hOB⟩ : ∃ q, opB F2 (ws.take 80) (min lw 80) = q := ⟨_, rfl⟩
  rw [hOB] at hop hro
  have uF := Tryd.underlying30
  have iF : (Tryd.prog.info? 30).map (·.size) = some F.cells.length := by rw [q0]; exact sizeFrame
  have iF2 : (Tryd.prog.info? 30).map (·.size) = some F2.cells.length := by rw [q2]; exact sizeFrame
  have hlq : F.cells.length = F2.cells.length := by rw [q0, q2]
  have hD0 := CellsAt.new w 30 F.cells
  have hB0 : Below w.heap.size w (w.alloc (.cells F.cells.toArray 30)) := (Below.refl _ _).alloc (Nat.le_refl _) _
  clear hT hp hm hfw hws hfb hbo hws2 hbo2 hF2 hFB hFE hOB q0 q2
  go_enter Tryd.func3, Tryd.ntmps3
  go_upto_region 1 with fail
  refine forget (p := fun y => Code.wp _ _ _ _ y) (fun W0 => Below w.heap.size w W0 ∧ CellsAt W0 w.heap.size 30 F.cells) ⟨hB0, hD0⟩ ?_
  clear hB0 hD0
  rintro W0 ⟨hB0, hD0⟩
  have rE := hD0.whole
  go_upto_region 2 with (first
    | (refine wpList_ldv rfl 30 _ rfl _ _ rfl F.cells rE uF rfl iF ?_)
    | (go_at_call 4; refine (hfe _ hB0).mono ?_; rintro e w1 ⟨rfl, hb1⟩; have hD1 := hD0.afar hb1; have hB1 := hB0.trans (hb1.mono hB0.size))
    | (refine wpList_stv rfl 30 _ _ rfl _ rfl rfl hD1 iF2 hlq h1 ?_))
  refine forget (p := fun y => Code.wp _ _ _ _ y) (fun W1 => Below w.heap.size w W1 ∧ CellsAt W1 w.heap.size 30 F2.cells) ⟨below_setRow hB1 (Nat.le_refl _) _, hD1.setRow _⟩ ?_
  clear rE hB1 hD1 hb1 hfe hB0 hD0 iF h1 hlq
  rintro W1 ⟨hB1, hD1⟩
  have rE := hD1.whole
  go_upto_region 3 with (first
    | (refine wpList_ldv rfl 30 _ rfl _ _ rfl F2.cells rE uF rfl iF2 ?_)
    | (go_at_call 5; refine (hfr _ hB1).mono ?_; rintro e w2 ⟨x2, n2, c2, rfl, hy2, hb2⟩))
  have hD2 := hD1.afar hb2
  have hB2 := hB1.trans (hb2.mono hB1.size)
  clear rE hB1 hD1 hb2 hfr
  have rE := hD2.whole
  go_upto_region 4 with (first
    | (refine wpList_ldv rfl 30 _ rfl _ _ rfl F2.cells rE uF rfl iF2 ?_)
    | (go_at_call 6; refine (hrf _ hB2).mono ?_; rintro e w3 ⟨x3, n3, c3, rfl, hy3, hb3⟩))
  have hD3 := hD2.afar hb3
  have hB3 := hB2.trans (hb3.mono hB2.size)
  have hy23 := hy2.below hb3
  clear rE hB2 hD2 hb3 hrf hy2
  obtain ⟨SF, hSF⟩ : ∃ s, strOfNums FB = s := ⟨_, rfl⟩
  obtain ⟨SO, hSO⟩ : ∃ s, strOfNums OB = s := ⟨_, rfl⟩
  have keep : ∀ w', Below w3.heap.size w3 w' → w'.rangeAt w.heap.size 0 F2.cells ∧ (convert 28 9 (.slice x2 n2 c2)).run Tryd.prog w' = .ok (.string SF) w' ∧ (convert 28 9 (.slice x3 n3 c3)).run Tryd.prog w' = .ok (.string SF) w' := fun w' hb =>
    ⟨(hD3.afar hb).whole, by rw [← hSF]; exact conv_bytes (hy23.below hb), by rw [← hSF]; exact conv_bytes (hy3.below hb)⟩
  clear hSF hy23 hy3 hD3
  refine wp_region_gate (fun w' => w'.rangeAt w.heap.size 0 F2.cells ∧ (convert 28 9 (.slice x2 n2 c2)).run Tryd.prog w' = .ok (.string SF) w' ∧ (convert 28 9 (.slice x3 n3 c3)).run Tryd.prog w' = .ok (.string SF) w') 22 (by kernel_rfl) ?_
  refine wpAnyG_one (i := 0) rfl (by kernel_rfl) (by kernel_rfl) (fun K hK => ?_)
  go_wp2_with (go_at_call 7; refine (hlv _ hB3.drew).mono ?_; rintro e w4 ⟨rfl, hb4⟩)
  have hb34 : Below w3.heap.size w3 w4 := ((Below.refl _ _).drew).trans hb4
  have hB4 := hB3.trans (hb34.mono hB3.size)
  have hS := keep _ hb34
  clear hb4 hlv
  refine hK.out _ _ (fun _ => hS) ?_
  clear hK K
  refine wpAnyG_any (i := 1) (v := ?_) rfl (by kernel_rfl) (by kernel_rfl) (by kernel_rfl) (fun _ _ _ h => h) (by kernel_rfl) (fun _ => hS) (by kernel_rfl) ?_ ?_
  rotate_left
  · intro _; go_simp; try with_reducible rfl
  simp only [Act.put, List.setIfInBounds_toArray, List.set_cons_zero, List.set_cons_succ]
  refine wpAnyG_any (i := 2) (v := ?_) rfl (by kernel_rfl) (by kernel_rfl) (by kernel_rfl) (fun _ _ _ h => h) (by kernel_rfl) (fun _ => hS) (by kernel_rfl) ?_ ?_
  rotate_left
  · intro _; go_simp; try with_reducible rfl
  simp only [Act.put, List.setIfInBounds_toArray, List.set_cons_zero, List.set_cons_succ]
  refine wpAnyG_read (i := 3) (v := ?_) rfl (by kernel_rfl) (by kernel_rfl) (by kernel_rfl) (fun _ _ _ h => h) (by kernel_rfl) (by kernel_rfl) (by kernel_rfl) hS (by kernel_rfl) ?_ ?_
  rotate_left
  · intro wx hSw; go_split_ands; go_simp; try with_reducible rfl
  simp only [Act.put, List.setIfInBounds_toArray, List.set_cons_zero, List.set_cons_succ]
  refine wpAnyG_any (i := 4) (v := ?_) rfl (by kernel_rfl) (by kernel_rfl) (by kernel_rfl) (fun _ _ _ h => h) (by kernel_rfl) (fun _ => hS) (by kernel_rfl) ?_ ?_
  rotate_left
  · intro _; go_simp; try with_reducible rfl
  simp only [Act.put, List.setIfInBounds_toArray, List.set_cons_zero, List.set_cons_succ]
  refine wpAnyG_read (i := 5) (v := ?_) rfl (by kernel_rfl) (by kernel_rfl) (by kernel_rfl) (fun _ _ _ h => h) (by kernel_rfl) (by kernel_rfl) (by kernel_rfl) hS (by kernel_rfl) ?_ ?_
  rotate_left
  · intro wx hSw; go_split_ands; go_simp; try with_reducible rfl
  simp only [Act.put, List.setIfInBounds_toArray, List.set_cons_zero, List.set_cons_succ]
  refine wpAnyG_any (i := 6) (v := .bool true) rfl (by kernel_rfl) (by kernel_rfl) (by kernel_rfl) (fun _ _ _ h => h) (by kernel_rfl) (fun _ => hS) (by kernel_rfl) ?_ ?_
  · intro _; go_simp
  simp only [Act.put, List.setIfInBounds_toArray, List.set_cons_zero, List.set_cons_succ]
  refine wpAnyG_any (i := 7) (v := .bool true) rfl (by kernel_rfl) (by kernel_rfl) (by kernel_rfl) (fun _ _ _ h => h) (by kernel_rfl) (fun _ => hS) (by kernel_rfl) ?_ ?_
  · intro _; go_simp
  simp only [Act.put, List.setIfInBounds_toArray, List.set_cons_zero, List.set_cons_succ]
  refine wpAnyG_any (i := 8) (v := .bool true) rfl (by kernel_rfl) (by kernel_rfl) (by kernel_rfl) (fun _ _ _ h => h) (by kernel_rfl) (fun _ => hS) (by kernel_rfl) ?_ ?_
  · intro _; go_simp
  simp only [Act.put, List.setIfInBounds_toArray, List.set_cons_zero, List.set_cons_succ]
  refine wpAnyG_any (i := 9) (v := ?_) rfl (by kernel_rfl) (by kernel_rfl) (by kernel_rfl) (fun _ _ _ h => h) (by kernel_rfl) (fun _ => hS) (by kernel_rfl) ?_ ?_
  rotate_left
  · intro _; go_simp; try with_reducible rfl
  simp only [Act.put, List.setIfInBounds_toArray, List.set_cons_zero, List.set_cons_succ]
  refine wpAnyG_any (i := 10) (v := ?_) rfl (by kernel_rfl) (by kernel_rfl) (by kernel_rfl) (fun _ _ _ h => h) (by kernel_rfl) (fun _ => hS) (by kernel_rfl) ?_ ?_
  rotate_left
  · intro _; go_simp; try with_reducible rfl
  simp only [Act.put, List.setIfInBounds_toArray, List.set_cons_zero, List.set_cons_succ]
  refine wpAnyG_any (i := 11) (v := .bool true) rfl (by kernel_rfl) (by kernel_rfl) (by kernel_rfl) (fun _ _ _ h => h) (by kernel_rfl) (fun _ => hS) (by kernel_rfl) ?_ ?_
  · intro _; go_simp
  simp only [Act.put, List.setIfInBounds_toArray, List.set_cons_zero, List.set_cons_succ]
  refine wpAnyG_any (i := 12) (v := .bool true) rfl (by kernel_rfl) (by kernel_rfl) (by kernel_rfl) (fun _ _ _ h => h) (by kernel_rfl) (fun _ => hS) (by kernel_rfl) ?_ ?_
  · intro _; go_simp
  simp only [Act.put, List.setIfInBounds_toArray, List.set_cons_zero, List.set_cons_succ]
  refine wpAnyG_any (i := 13) (v := .bool true) rfl (by kernel_rfl) (by kernel_rfl) (by kernel_rfl) (fun _ _ _ h => h) (by kernel_rfl) (fun _ => hS) (by kernel_rfl) ?_ ?_
  · intro _; go_simp
  simp only [Act.put, List.setIfInBounds_toArray, List.set_cons_zero, List.set_cons_succ]
  refine wpAnyG_load (i := 14) (dst := some 33) (ty := 30) (x := .tmp 1) (b := w.heap.size) (o := (0)) (cs := (F2.cells)) (by kernel_rfl) (by kernel_rfl) (by kernel_rfl) (by kernel_rfl) (by kernel_rfl) (fun _ _ _ h => h) (by kernel_rfl) (by kernel_rfl) (by kernel_rfl) hS (by kernel_rfl) (fun _ h => h.1) uF rfl iF2 ?_
  simp only [Act.put, List.setIfInBounds_toArray, List.set_cons_zero, List.set_cons_succ]
  refine wpAnyG_load (i := 17) (dst := some 36) (ty := 30) (x := .tmp 1) (b := w.heap.size) (o := (0)) (cs := (F2.cells)) (by kernel_rfl) (by kernel_rfl) (by kernel_rfl) (by kernel_rfl) (by kernel_rfl) (fun _ _ _ h => h) (by kernel_rfl) (by kernel_rfl) (by kernel_rfl) hS (by kernel_rfl) (fun _ h => h.1) uF rfl iF2 ?_
  simp only [Act.put, List.setIfInBounds_toArray, List.set_cons_zero, List.set_cons_succ]
  refine wpAnyG_one (i := 15) rfl (by kernel_rfl) (by kernel_rfl) (fun K hK => ?_)
  go_wp2_with (go_at_call 8; refine (hop _ hB4).mono ?_; rintro e w5 ⟨x5, n5, c5, rfl, hy5, hb5⟩)
  have hb35 := hb34.trans (hb5.mono hb34.size)
  have hB5 := hB4.trans (hb5.mono hB4.size)
  replace hS := keep _ hb35
  refine hK.out _ _ (fun _ => hS) ?_
  clear hK K
  refine wpAnyG_more (S' := fun w' => (w'.rangeAt w.heap.size 0 F2.cells ∧ (convert 28 9 (.slice x2 n2 c2)).run Tryd.prog w' = .ok (.string SF) w' ∧ (convert 28 9 (.slice x3 n3 c3)).run Tryd.prog w' = .ok (.string SF) w') ∧ (convert 28 9 (.slice x5 n5 c5)).run Tryd.prog w' = .ok (.string SO) w') (fun _ h => h.1) _ _ _ _ ?_
  have keep5 : ∀ w', Below w5.heap.size w5 w' → (w'.rangeAt w.heap.size 0 F2.cells ∧ (convert 28 9 (.slice x2 n2 c2)).run Tryd.prog w' = .ok (.string SF) w' ∧ (convert 28 9 (.slice x3 n3 c3)).run Tryd.prog w' = .ok (.string SF) w') ∧ (convert 28 9 (.slice x5 n5 c5)).run Tryd.prog w' = .ok (.string SO) w' := fun w' hb =>
    ⟨keep _ (hb35.trans (hb.mono hb35.size)), by rw [← hSO]; exact conv_bytes (hy5.below hb)⟩
  replace hS := keep5 _ (Below.refl _ _)
  refine wpAnyG_read (i := 16) (v := ?_) rfl (by kernel_rfl) (by kernel_rfl) (by kernel_rfl) (fun _ _ _ h => h) (by kernel_rfl) (by kernel_rfl) (by kernel_rfl) hS (by kernel_rfl) ?_ ?_
  rotate_left
  · intro wx hSw; go_split_ands; go_simp; try with_reducible rfl
  simp only [Act.put, List.setIfInBounds_toArray, List.set_cons_zero, List.set_cons_succ]
  refine wpAnyG_one (i := 18) rfl (by kernel_rfl) (by kernel_rfl) (fun K hK => ?_)
  go_wp2_with (go_at_call 9; refine (hro _ hB5).mono ?_; rintro e w6 ⟨x6, n6, c6, rfl, hy6, hb6⟩)
  replace hS := keep5 _ hb6
  have hcv : (convert 28 9 (.slice x6 n6 c6)).run Tryd.prog w6 = .ok (.string SO) w6 := by rw [← hSO]; exact conv_bytes hy6
  clear hSO
  refine hK.out _ _ (fun _ => hS) ?_
  clear hK K
  refine wpAnyG_one (i := 19) rfl (by kernel_rfl) (by kernel_rfl) (fun K hK => ?_)
  go_simp
  refine hK.out _ _ (fun _ => hS) ?_
  clear hK K
  refine wpAnyG_any (i := 20) (v := .bool true) rfl (by kernel_rfl) (by kernel_rfl) (by kernel_rfl) (fun _ _ _ h => h) (by kernel_rfl) (fun _ => hS) (by kernel_rfl) ?_ ?_
  · intro _; go_simp
  simp only [Act.put, List.setIfInBounds_toArray, List.set_cons_zero, List.set_cons_succ]
  refine wpAnyG_any (i := 21) (v := .bool true) rfl (by kernel_rfl) (by kernel_rfl) (by kernel_rfl) (fun _ _ _ h => h) (by kernel_rfl) (fun _ => hS) (by kernel_rfl) ?_ ?_
  · intro _; go_simp
  simp only [Act.put, List.setIfInBounds_toArray, List.set_cons_zero, List.set_cons_succ]
  refine wpAnyG_one (i := 22) rfl (by kernel_rfl) (by kernel_rfl) (fun K hK => ?_)
  go_simp
  refine hK.out _ _ (fun h => absurd (show true = false from h) (by decide)) ?_
  clear hK K
  refine wpAnyG_done (by kernel_rfl) ?_ _
  go_wp2
  go_ret
  exact ⟨rfl, hB5.trans (hb6.mono hB5.size)⟩
end Go.Proofs.YtmojcanbhlfhgaaDoor
