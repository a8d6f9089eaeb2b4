/- The statement WireSame, walked. (Written by mksamew.py.) -/
import Derived.Test.YtkcaejoidoennaaDoorSf1
import Derived.Test.YtkcaejoidoennaaDoorSf2
import Derived.Test.YtkcaejoidoennaaDoorWf
import Derived.Test.YtkcaejoidoennaaDoorEvm
import Derived.Test.YtkcaejoidoennaaDoorGoW
namespace Go.Proofs.YtkcaejoidoennaaDoor
open Go.RowKit
set_option maxRecDepth 20000
set_option linter.unusedSimpArgs false

theorem CellsAt.setRowO2 {w : World} {g g' : Nat} {t : TypeId} {cs : List Value} (h : CellsAt w g t cs) (cs' : Array Value) (hne : g ≠ g') : CellsAt (w.setRow g' cs') g t cs := by
  unfold CellsAt at h ⊢; rw [setRow_other w g' g cs' hne]; exact h
set_option maxHeartbeats 8000000 in
theorem same_walk (F : Fr) (xw : Option Addr) (lw cw : Nat) (ws : List Wp) (xb : Option Addr) (lb cb : Nat) (body : List Int) (G : Fr) (yw : Option Addr) (mw dw : Nat) (vs : List Wp) (yb : Option Addr) (mb db : Nat) (bp : List Int) (w : World) (hT : BTab w)
    (hF : FrIn w F xw lw cw ws xb lb cb body) (hG : FrIn w G yw mw dw vs yb mb db bp) :
    Calls Tryd.prog 3 #[.agg F.cells.toArray, .agg G.cells.toArray] w fun e w' => e = .returned (.bool true) ∧ Below w.heap.size w w' := by
  obtain ⟨hp, hm, hfw, hfb, hws, hbo, _, _, _⟩ := hF
  obtain ⟨kp, km, kfw, kfb, kws, kbo, _, _, _⟩ := hG
  have hfF := fun wx (hb : Below w.heap.size w wx) => few6_any F xw lw cw ws xb lb cb body wx hp hm hfw (hws.below hb) hfb (hbo.below hb)
  have hfG := fun wx (hb : Below w.heap.size w wx) => few6_any G yw mw dw vs yb mb db bp wx kp km kfw (kws.below hb) kfb (kbo.below hb)
  have hw2 := hws.few 80
  have hb2 := hbo.few 5000
  have kw2 := kws.few 80
  have kb2 := kbo.few 5000
  have s1 := fun wx (hb : Below w.heap.size w wx) => SameFrame_any (F.few xw lw cw xb lb cb) xw (min lw 80) cw (ws.take 80) xb (min lb 5000) cb (body.take 5000) (G.few yw mw dw yb mb db) yw (min mw 80) dw (vs.take 80) yb (min mb 5000) db (bp.take 5000) wx hp hm rfl (hw2.below hb) rfl (hb2.below hb) kp km rfl (kw2.below hb) rfl (kb2.below hb)
  have s2 := fun wx (hb : Below w.heap.size w wx) => refSame_any (F.few xw lw cw xb lb cb) xw (min lw 80) cw (ws.take 80) xb (min lb 5000) cb (body.take 5000) (G.few yw mw dw yb mb db) yw (min mw 80) dw (vs.take 80) yb (min mb 5000) db (bp.take 5000) wx hp hm rfl (hw2.below hb) rfl (hb2.below hb) kp km rfl (kw2.below hb) rfl (kb2.below hb)
  have s3 := fun wx (hb : Below w.heap.size w wx) => SameFrame_any (G.few yw mw dw yb mb db) yw (min mw 80) dw (vs.take 80) yb (min mb 5000) db (bp.take 5000) (F.few xw lw cw xb lb cb) xw (min lw 80) cw (ws.take 80) xb (min lb 5000) cb (body.take 5000) wx kp km rfl (kw2.below hb) rfl (kb2.below hb) hp hm rfl (hw2.below hb) rfl (hb2.below hb)
  have s4 := fun wx (hb : Below w.heap.size w wx) => SameFrame_any (F.few xw lw cw xb lb cb) xw (min lw 80) cw (ws.take 80) xb (min lb 5000) cb (body.take 5000) (F.few xw lw cw xb lb cb) xw (min lw 80) cw (ws.take 80) xb (min lb 5000) cb (body.take 5000) wx hp hm rfl (hw2.below hb) rfl (hb2.below hb) hp hm rfl (hw2.below hb) rfl (hb2.below hb)
  rw [sameB_comm (G.few yw mw dw yb mb db)] at s3
  rw [sameB_refl] at s4
  obtain ⟨q0, _⟩ := fr_parts F hp hm
  obtain ⟨q2, _⟩ := fr_parts (F.few xw lw cw xb lb cb) hp hm
  obtain ⟨g0, _⟩ := fr_parts G kp km
  obtain ⟨g2, _⟩ := fr_parts (G.few yw mw dw yb mb db) kp km
  have h1F := fr_one (F.few xw lw cw xb lb cb) xw xb _ cw _ cb rfl rfl
  have h1G := fr_one (G.few yw mw dw yb mb db) yw yb _ dw _ db rfl rfl
  have hlv := fun wx (hb : Below w.heap.size w wx) => live6_any wx (hT.below hb)
  obtain ⟨r, hr⟩ : ∃ q, sameB (F.few xw lw cw xb lb cb) (ws.take 80) (body.take 5000) (G.few yw mw dw yb mb db) (vs.take 80) (bp.take 5000) = q := ⟨_, rfl⟩
  rw [hr] at s1 s2 s3
  obtain ⟨F2, hF2⟩ : ∃ q, F.few xw lw cw xb lb cb = q := ⟨_, rfl⟩
  obtain ⟨G2, hG2⟩ : ∃ q, G.few yw mw dw yb mb db = q := ⟨_, rfl⟩
  rw [hF2] at s1 s2 s3 s4 q2 h1F hfF
  rw [hG2] at s1 s2 s3 g2 h1G hfG
  have uF := Tryd.underlying30
  have iF : (Tryd.prog.info? 30).map (·.size) = some F.cells.length := by rw [q0]; exact sizeFrame
  have iG : (Tryd.prog.info? 30).map (·.size) = some G.cells.length := by rw [g0]; exact sizeFrame
  have iF2 : (Tryd.prog.info? 30).map (·.size) = some F2.cells.length := by rw [q2]; exact sizeFrame
  have iG2 : (Tryd.prog.info? 30).map (·.size) = some G2.cells.length := by rw [g2]; exact sizeFrame
  have hlF : F.cells.length = F2.cells.length := by rw [q0, q2]
  have hlG : G.cells.length = G2.cells.length := by rw [g0, g2]
  have hA : CellsAt ((w.alloc (.cells F.cells.toArray 30)).alloc (.cells G.cells.toArray 30)) w.heap.size 30 F.cells := (CellsAt.new w 30 F.cells).alloc _
  have hB : CellsAt ((w.alloc (.cells F.cells.toArray 30)).alloc (.cells G.cells.toArray 30)) (w.heap.size + 1) 30 G.cells := by
    have := CellsAt.new (w.alloc (.cells F.cells.toArray 30)) 30 G.cells
    rw [World.size_alloc] at this
    exact this
  have hW : Below w.heap.size w ((w.alloc (.cells F.cells.toArray 30)).alloc (.cells G.cells.toArray 30)) := ((Below.refl _ _).alloc (Nat.le_refl _) _).alloc (by simp) _
  clear hT hp hm hfw hfb hws hbo kp km kfw kfb kws kbo hw2 hb2 kw2 kb2 q0 q2 g0 g2 hr hF2 hG2
  go_enter Tryd.func3, Tryd.ntmps3
  go_upto_region 1 with fail
  refine forget (p := fun y => Code.wp _ _ _ _ y) (fun W => Below w.heap.size w W ∧ CellsAt W w.heap.size 30 F.cells ∧ CellsAt W (w.heap.size + 1) 30 G.cells) ⟨hW, hA, hB⟩ ?_
  clear hW hA hB
  rintro W ⟨hW, hA, hB⟩
  obtain ⟨GB, hGB⟩ : ∃ q, w.heap.size + 1 = q := ⟨_, rfl⟩
  have hne : GB ≠ w.heap.size := by omega
  have hle : w.heap.size ≤ GB := by omega
  rw [hGB] at hB ⊢
  clear hGB
  refine wp_meetE (fun a U => a = ⟨#[.agg F.cells.toArray, .agg G.cells.toArray, .pointer (some ⟨w.heap.size, 0, none⟩), .pointer (some ⟨GB, 0, none⟩), .bool false, .agg F.cells.toArray, .agg F2.cells.toArray, .agg G.cells.toArray, .agg G2.cells.toArray, undef, undef, undef, undef, undef, undef, undef, undef, undef, undef, undef, undef, undef, undef, undef, undef, undef, undef, undef, undef, undef, undef, undef, undef], []⟩ ∧ Below w.heap.size w U ∧ CellsAt U w.heap.size 30 F2.cells ∧ CellsAt U GB 30 G2.cells) ?_ ?_
  · refine wp_region_gate (fun _ => True) 5 (by kernel_rfl) ?_
    obtain ⟨D0, hD0⟩ : ∃ q, W.drew = q := ⟨_, rfl⟩
    have hb1 : Below W.heap.size W D0 := by rw [← hD0]; exact (Below.refl _ _).drew
    rw [hD0]
    replace hW := hW.trans (hb1.mono hW.size)
    replace hA := hA.afar hb1
    replace hB := hB.afar hb1
    clear hD0 hb1
    have hS : True := trivial
    refine wpAnyG_two (i := 0) (j := 2) rfl rfl (by kernel_rfl) (by kernel_rfl) (by kernel_rfl) (fun K hK => ?_) (fun K hK => ?_)
    · skip
      refine wp_load_mid 30 _ rfl _ _ rfl F.cells _ hA.whole uF rfl iF ?_
      refine hK.out _ _ (fun _ => hS) ?_
      clear hK K
      refine wpAnyG_two (i := 1) (j := 2) rfl rfl (by kernel_rfl) (by kernel_rfl) (by kernel_rfl) (fun K hK => ?_) (fun K hK => ?_)
      · skip
        go_wp2_with (go_at_call 4; refine (hfF _ hW).mono ?_; rintro e w1 ⟨rfl, hb1⟩)
        replace hW := hW.trans (hb1.mono hW.size)
        replace hA := hA.afar hb1
        replace hB := hB.afar hb1
        clear hb1
        refine hK.out _ _ (fun _ => hS) ?_
        clear hK K
        refine wpAnyG_one (i := 2) rfl (by kernel_rfl) (by kernel_rfl) (fun K hK => ?_)
        refine wp_load_mid 30 _ rfl _ _ rfl G.cells _ hB.whole uF rfl iG ?_
        refine hK.out _ _ (fun _ => hS) ?_
        clear hK K
        refine wpAnyG_one (i := 3) rfl (by kernel_rfl) (by kernel_rfl) (fun K hK => ?_)
        go_wp2_with (go_at_call 4; refine (hfG _ hW).mono ?_; rintro e w2 ⟨rfl, hb2⟩)
        replace hW := hW.trans (hb2.mono hW.size)
        replace hA := hA.afar hb2
        replace hB := hB.afar hb2
        clear hb2
        refine hK.out _ _ (fun _ => hS) ?_
        clear hK K
        refine wpAnyG_one (i := 4) rfl (by kernel_rfl) (by kernel_rfl) (fun K hK => ?_)
        refine wp_stvE 30 _ _ rfl _ rfl rfl hA iF2 hlF h1F ?_
        replace hW := below_setRow hW (Nat.le_refl _) F2.cells.toArray
        replace hB := hB.setRowO2 F2.cells.toArray hne
        replace hA := hA.setRow F2.cells
        refine hK.out _ _ (fun _ => hS) ?_
        clear hK K
        refine wpAnyG_one (i := 5) rfl (by kernel_rfl) (by kernel_rfl) (fun K hK => ?_)
        refine wp_stvE 30 _ _ rfl _ rfl rfl hB iG2 hlG h1G ?_
        replace hW := below_setRow hW hle G2.cells.toArray
        replace hA := hA.setRowO2 G2.cells.toArray hne.symm
        replace hB := hB.setRow G2.cells
        refine hK.out _ _ (fun h => absurd (show true = false from h) (by decide)) ?_
        clear hK K
        refine wpAnyG_done (by kernel_rfl) ?_ _
        exact ⟨rfl, hW, hA, hB⟩
      · skip
        refine wp_load_mid 30 _ rfl _ _ rfl G.cells _ hB.whole uF rfl iG ?_
        refine hK.out _ _ (fun _ => hS) ?_
        clear hK K
        refine wpAnyG_one (i := 1) rfl (by kernel_rfl) (by kernel_rfl) (fun K hK => ?_)
        go_wp2_with (go_at_call 4; refine (hfF _ hW).mono ?_; rintro e w1 ⟨rfl, hb1⟩)
        replace hW := hW.trans (hb1.mono hW.size)
        replace hA := hA.afar hb1
        replace hB := hB.afar hb1
        clear hb1
        refine hK.out _ _ (fun _ => hS) ?_
        clear hK K
        refine wpAnyG_one (i := 3) rfl (by kernel_rfl) (by kernel_rfl) (fun K hK => ?_)
        go_wp2_with (go_at_call 4; refine (hfG _ hW).mono ?_; rintro e w2 ⟨rfl, hb2⟩)
        replace hW := hW.trans (hb2.mono hW.size)
        replace hA := hA.afar hb2
        replace hB := hB.afar hb2
        clear hb2
        refine hK.out _ _ (fun _ => hS) ?_
        clear hK K
        refine wpAnyG_one (i := 4) rfl (by kernel_rfl) (by kernel_rfl) (fun K hK => ?_)
        refine wp_stvE 30 _ _ rfl _ rfl rfl hA iF2 hlF h1F ?_
        replace hW := below_setRow hW (Nat.le_refl _) F2.cells.toArray
        replace hB := hB.setRowO2 F2.cells.toArray hne
        replace hA := hA.setRow F2.cells
        refine hK.out _ _ (fun _ => hS) ?_
        clear hK K
        refine wpAnyG_one (i := 5) rfl (by kernel_rfl) (by kernel_rfl) (fun K hK => ?_)
        refine wp_stvE 30 _ _ rfl _ rfl rfl hB iG2 hlG h1G ?_
        replace hW := below_setRow hW hle G2.cells.toArray
        replace hA := hA.setRowO2 G2.cells.toArray hne.symm
        replace hB := hB.setRow G2.cells
        refine hK.out _ _ (fun h => absurd (show true = false from h) (by decide)) ?_
        clear hK K
        refine wpAnyG_done (by kernel_rfl) ?_ _
        exact ⟨rfl, hW, hA, hB⟩
    · skip
      refine wp_load_mid 30 _ rfl _ _ rfl G.cells _ hB.whole uF rfl iG ?_
      refine hK.out _ _ (fun _ => hS) ?_
      clear hK K
      refine wpAnyG_one (i := 0) rfl (by kernel_rfl) (by kernel_rfl) (fun K hK => ?_)
      refine wp_load_mid 30 _ rfl _ _ rfl F.cells _ hA.whole uF rfl iF ?_
      refine hK.out _ _ (fun _ => hS) ?_
      clear hK K
      refine wpAnyG_one (i := 1) rfl (by kernel_rfl) (by kernel_rfl) (fun K hK => ?_)
      go_wp2_with (go_at_call 4; refine (hfF _ hW).mono ?_; rintro e w1 ⟨rfl, hb1⟩)
      replace hW := hW.trans (hb1.mono hW.size)
      replace hA := hA.afar hb1
      replace hB := hB.afar hb1
      clear hb1
      refine hK.out _ _ (fun _ => hS) ?_
      clear hK K
      refine wpAnyG_one (i := 3) rfl (by kernel_rfl) (by kernel_rfl) (fun K hK => ?_)
      go_wp2_with (go_at_call 4; refine (hfG _ hW).mono ?_; rintro e w2 ⟨rfl, hb2⟩)
      replace hW := hW.trans (hb2.mono hW.size)
      replace hA := hA.afar hb2
      replace hB := hB.afar hb2
      clear hb2
      refine hK.out _ _ (fun _ => hS) ?_
      clear hK K
      refine wpAnyG_one (i := 4) rfl (by kernel_rfl) (by kernel_rfl) (fun K hK => ?_)
      refine wp_stvE 30 _ _ rfl _ rfl rfl hA iF2 hlF h1F ?_
      replace hW := below_setRow hW (Nat.le_refl _) F2.cells.toArray
      replace hB := hB.setRowO2 F2.cells.toArray hne
      replace hA := hA.setRow F2.cells
      refine hK.out _ _ (fun _ => hS) ?_
      clear hK K
      refine wpAnyG_one (i := 5) rfl (by kernel_rfl) (by kernel_rfl) (fun K hK => ?_)
      refine wp_stvE 30 _ _ rfl _ rfl rfl hB iG2 hlG h1G ?_
      replace hW := below_setRow hW hle G2.cells.toArray
      replace hA := hA.setRowO2 G2.cells.toArray hne.symm
      replace hB := hB.setRow G2.cells
      refine hK.out _ _ (fun h => absurd (show true = false from h) (by decide)) ?_
      clear hK K
      refine wpAnyG_done (by kernel_rfl) ?_ _
      exact ⟨rfl, hW, hA, hB⟩
  rintro a U ⟨rfl, hW3, hA3, hB3⟩
  clear hW hA hB hfF hfG iF iG hlF hlG h1F h1G W
  have keep : ∀ w', Below U.heap.size U w' → w'.rangeAt w.heap.size 0 F2.cells ∧ w'.rangeAt GB 0 G2.cells := fun w' hb => ⟨(hA3.afar hb).whole, (hB3.afar hb).whole⟩
  clear hA3 hB3
  go_upto_region 2 with fail
  refine wp_region_gate (fun w' => w'.rangeAt w.heap.size 0 F2.cells ∧ w'.rangeAt GB 0 G2.cells) 24 (by kernel_rfl) ?_
  refine wpAnyG_one (i := 0) rfl (by kernel_rfl) (by kernel_rfl) (fun K hK => ?_)
  go_wp2_with (go_at_call 5; refine (hlv _ hW3.drew).mono ?_; rintro e w4 ⟨rfl, hb4⟩)
  have hb34 : Below U.heap.size U w4 := ((Below.refl _ _).drew).trans hb4
  have hB4 := hW3.trans (hb34.mono hW3.size)
  have hS := keep _ hb34
  clear hb4 hlv
  refine hK.out _ _ (fun _ => hS) ?_
  clear hK K
  refine wpAnyG_any (i := 1) (v := ?_) rfl (by kernel_rfl) (by kernel_rfl) (by kernel_rfl) (fun _ _ _ h => h) (by kernel_rfl) (fun _ => hS) (by kernel_rfl) ?_ ?_
  rotate_left
  · intro _; go_simp; try with_reducible rfl
  simp only [Act.put, List.setIfInBounds_toArray, List.set_cons_zero, List.set_cons_succ]
  refine wpAnyG_load (i := 2) (dst := some 11) (ty := 30) (x := .tmp 2) (b := w.heap.size) (o := (0)) (cs := (F2.cells)) (by kernel_rfl) (by kernel_rfl) (by kernel_rfl) (by kernel_rfl) (by kernel_rfl) (fun _ _ _ h => h) (by kernel_rfl) (by kernel_rfl) (by kernel_rfl) hS (by kernel_rfl) (fun _ h => h.1) uF rfl iF2 ?_
  simp only [Act.put, List.setIfInBounds_toArray, List.set_cons_zero, List.set_cons_succ]
  refine wpAnyG_load (i := 3) (dst := some 12) (ty := 30) (x := .tmp 3) (b := GB) (o := (0)) (cs := (G2.cells)) (by kernel_rfl) (by kernel_rfl) (by kernel_rfl) (by kernel_rfl) (by kernel_rfl) (fun _ _ _ h => h) (by kernel_rfl) (by kernel_rfl) (by kernel_rfl) hS (by kernel_rfl) (fun _ h => h.2) uF rfl iG2 ?_
  simp only [Act.put, List.setIfInBounds_toArray, List.set_cons_zero, List.set_cons_succ]
  refine wpAnyG_load (i := 5) (dst := some 14) (ty := 30) (x := .tmp 2) (b := w.heap.size) (o := (0)) (cs := (F2.cells)) (by kernel_rfl) (by kernel_rfl) (by kernel_rfl) (by kernel_rfl) (by kernel_rfl) (fun _ _ _ h => h) (by kernel_rfl) (by kernel_rfl) (by kernel_rfl) hS (by kernel_rfl) (fun _ h => h.1) uF rfl iF2 ?_
  simp only [Act.put, List.setIfInBounds_toArray, List.set_cons_zero, List.set_cons_succ]
  refine wpAnyG_load (i := 6) (dst := some 15) (ty := 30) (x := .tmp 3) (b := GB) (o := (0)) (cs := (G2.cells)) (by kernel_rfl) (by kernel_rfl) (by kernel_rfl) (by kernel_rfl) (by kernel_rfl) (fun _ _ _ h => h) (by kernel_rfl) (by kernel_rfl) (by kernel_rfl) hS (by kernel_rfl) (fun _ h => h.2) uF rfl iG2 ?_
  simp only [Act.put, List.setIfInBounds_toArray, List.set_cons_zero, List.set_cons_succ]
  refine wpAnyG_one (i := 4) rfl (by kernel_rfl) (by kernel_rfl) (fun K hK => ?_)
  go_wp2_with (go_at_call 6; refine (s1 _ hB4).mono ?_; rintro e w5 ⟨rfl, hb5⟩)
  have hb35 := hb34.trans (hb5.mono hb34.size)
  have hB5 := hB4.trans (hb5.mono hB4.size)
  replace hS := keep _ hb35
  refine hK.out _ _ (fun _ => hS) ?_
  clear hK K
  refine wpAnyG_one (i := 7) rfl (by kernel_rfl) (by kernel_rfl) (fun K hK => ?_)
  go_wp2_with (go_at_call 7; refine (s2 _ hB5).mono ?_; rintro e w6 ⟨rfl, hb6⟩)
  have hb36 := hb35.trans (hb6.mono hb35.size)
  have hB6 := hB5.trans (hb6.mono hB5.size)
  replace hS := keep _ hb36
  refine hK.out _ _ (fun _ => hS) ?_
  clear hK K
  refine wpAnyG_any (i := 8) (v := .bool true) rfl (by kernel_rfl) (by kernel_rfl) (by kernel_rfl) (fun _ _ _ h => h) (by kernel_rfl) (fun _ => hS) (by kernel_rfl) ?_ ?_
  · intro _; go_simp
  simp only [Act.put, List.setIfInBounds_toArray, List.set_cons_zero, List.set_cons_succ]
  refine wpAnyG_any (i := 9) (v := .bool true) rfl (by kernel_rfl) (by kernel_rfl) (by kernel_rfl) (fun _ _ _ h => h) (by kernel_rfl) (fun _ => hS) (by kernel_rfl) ?_ ?_
  · intro _; go_simp
  simp only [Act.put, List.setIfInBounds_toArray, List.set_cons_zero, List.set_cons_succ]
  refine wpAnyG_any (i := 10) (v := .bool true) rfl (by kernel_rfl) (by kernel_rfl) (by kernel_rfl) (fun _ _ _ h => h) (by kernel_rfl) (fun _ => hS) (by kernel_rfl) ?_ ?_
  · intro _; go_simp
  simp only [Act.put, List.setIfInBounds_toArray, List.set_cons_zero, List.set_cons_succ]
  refine wpAnyG_load (i := 11) (dst := some 20) (ty := 30) (x := .tmp 2) (b := w.heap.size) (o := (0)) (cs := (F2.cells)) (by kernel_rfl) (by kernel_rfl) (by kernel_rfl) (by kernel_rfl) (by kernel_rfl) (fun _ _ _ h => h) (by kernel_rfl) (by kernel_rfl) (by kernel_rfl) hS (by kernel_rfl) (fun _ h => h.1) uF rfl iF2 ?_
  simp only [Act.put, List.setIfInBounds_toArray, List.set_cons_zero, List.set_cons_succ]
  refine wpAnyG_load (i := 12) (dst := some 21) (ty := 30) (x := .tmp 3) (b := GB) (o := (0)) (cs := (G2.cells)) (by kernel_rfl) (by kernel_rfl) (by kernel_rfl) (by kernel_rfl) (by kernel_rfl) (fun _ _ _ h => h) (by kernel_rfl) (by kernel_rfl) (by kernel_rfl) hS (by kernel_rfl) (fun _ h => h.2) uF rfl iG2 ?_
  simp only [Act.put, List.setIfInBounds_toArray, List.set_cons_zero, List.set_cons_succ]
  refine wpAnyG_load (i := 14) (dst := some 23) (ty := 30) (x := .tmp 3) (b := GB) (o := (0)) (cs := (G2.cells)) (by kernel_rfl) (by kernel_rfl) (by kernel_rfl) (by kernel_rfl) (by kernel_rfl) (fun _ _ _ h => h) (by kernel_rfl) (by kernel_rfl) (by kernel_rfl) hS (by kernel_rfl) (fun _ h => h.2) uF rfl iG2 ?_
  simp only [Act.put, List.setIfInBounds_toArray, List.set_cons_zero, List.set_cons_succ]
  refine wpAnyG_load (i := 15) (dst := some 24) (ty := 30) (x := .tmp 2) (b := w.heap.size) (o := (0)) (cs := (F2.cells)) (by kernel_rfl) (by kernel_rfl) (by kernel_rfl) (by kernel_rfl) (by kernel_rfl) (fun _ _ _ h => h) (by kernel_rfl) (by kernel_rfl) (by kernel_rfl) hS (by kernel_rfl) (fun _ h => h.1) uF rfl iF2 ?_
  simp only [Act.put, List.setIfInBounds_toArray, List.set_cons_zero, List.set_cons_succ]
  refine wpAnyG_one (i := 13) rfl (by kernel_rfl) (by kernel_rfl) (fun K hK => ?_)
  go_wp2_with (go_at_call 6; refine (s1 _ hB6).mono ?_; rintro e w7 ⟨rfl, hb7⟩)
  have hb37 := hb36.trans (hb7.mono hb36.size)
  have hB7 := hB6.trans (hb7.mono hB6.size)
  replace hS := keep _ hb37
  clear s1 s2
  refine hK.out _ _ (fun _ => hS) ?_
  clear hK K
  refine wpAnyG_one (i := 16) rfl (by kernel_rfl) (by kernel_rfl) (fun K hK => ?_)
  go_wp2_with (go_at_call 6; refine (s3 _ hB7).mono ?_; rintro e w8 ⟨rfl, hb8⟩)
  have hb38 := hb37.trans (hb8.mono hb37.size)
  have hB8 := hB7.trans (hb8.mono hB7.size)
  replace hS := keep _ hb38
  clear s3
  refine hK.out _ _ (fun _ => hS) ?_
  clear hK K
  refine wpAnyG_any (i := 17) (v := .bool true) rfl (by kernel_rfl) (by kernel_rfl) (by kernel_rfl) (fun _ _ _ h => h) (by kernel_rfl) (fun _ => hS) (by kernel_rfl) ?_ ?_
  · intro _; go_simp
  simp only [Act.put, List.setIfInBounds_toArray, List.set_cons_zero, List.set_cons_succ]
  refine wpAnyG_any (i := 18) (v := .bool true) rfl (by kernel_rfl) (by kernel_rfl) (by kernel_rfl) (fun _ _ _ h => h) (by kernel_rfl) (fun _ => hS) (by kernel_rfl) ?_ ?_
  · intro _; go_simp
  simp only [Act.put, List.setIfInBounds_toArray, List.set_cons_zero, List.set_cons_succ]
  refine wpAnyG_any (i := 19) (v := .bool true) rfl (by kernel_rfl) (by kernel_rfl) (by kernel_rfl) (fun _ _ _ h => h) (by kernel_rfl) (fun _ => hS) (by kernel_rfl) ?_ ?_
  · intro _; go_simp
  simp only [Act.put, List.setIfInBounds_toArray, List.set_cons_zero, List.set_cons_succ]
  refine wpAnyG_load (i := 20) (dst := some 29) (ty := 30) (x := .tmp 2) (b := w.heap.size) (o := (0)) (cs := (F2.cells)) (by kernel_rfl) (by kernel_rfl) (by kernel_rfl) (by kernel_rfl) (by kernel_rfl) (fun _ _ _ h => h) (by kernel_rfl) (by kernel_rfl) (by kernel_rfl) hS (by kernel_rfl) (fun _ h => h.1) uF rfl iF2 ?_
  simp only [Act.put, List.setIfInBounds_toArray, List.set_cons_zero, List.set_cons_succ]
  refine wpAnyG_load (i := 21) (dst := some 30) (ty := 30) (x := .tmp 2) (b := w.heap.size) (o := (0)) (cs := (F2.cells)) (by kernel_rfl) (by kernel_rfl) (by kernel_rfl) (by kernel_rfl) (by kernel_rfl) (fun _ _ _ h => h) (by kernel_rfl) (by kernel_rfl) (by kernel_rfl) hS (by kernel_rfl) (fun _ h => h.1) uF rfl iF2 ?_
  simp only [Act.put, List.setIfInBounds_toArray, List.set_cons_zero, List.set_cons_succ]
  refine wpAnyG_one (i := 22) rfl (by kernel_rfl) (by kernel_rfl) (fun K hK => ?_)
  go_wp2_with (go_at_call 6; refine (s4 _ hB8).mono ?_; rintro e w9 ⟨rfl, hb9⟩)
  have hb39 := hb38.trans (hb9.mono hb38.size)
  have hB9 := hB8.trans (hb9.mono hB8.size)
  replace hS := keep _ hb39
  refine hK.out _ _ (fun _ => hS) ?_
  clear hK K
  refine wpAnyG_any (i := 23) (v := .bool true) rfl (by kernel_rfl) (by kernel_rfl) (by kernel_rfl) (fun _ _ _ h => h) (by kernel_rfl) (fun _ => hS) (by kernel_rfl) ?_ ?_
  · intro _; go_simp
  simp only [Act.put, List.setIfInBounds_toArray, List.set_cons_zero, List.set_cons_succ]
  refine wpAnyG_one (i := 24) rfl (by kernel_rfl) (by kernel_rfl) (fun K hK => ?_)
  go_simp
  refine hK.out _ _ (fun h => absurd (show true = false from h) (by decide)) ?_
  clear hK K
  refine wpAnyG_done (by kernel_rfl) ?_ _
  go_wp2
  go_ret
  exact ⟨rfl, hB9⟩
end Go.Proofs.YtkcaejoidoennaaDoor
