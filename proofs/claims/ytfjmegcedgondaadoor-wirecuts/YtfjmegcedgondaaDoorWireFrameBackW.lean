/- The statement WireFrameBack, walked. (Written by mkfb.py.) -/
import Derived.Test.YtfjmegcedgondaaDoorWireBoth
import Derived.Test.YtfjmegcedgondaaDoorRgf
import Derived.Test.YtfjmegcedgondaaDoorFf
import Derived.Test.YtfjmegcedgondaaDoorSf1
import Derived.Test.YtfjmegcedgondaaDoorEvl
import Derived.Test.YtfjmegcedgondaaDoorWl
namespace Go.Proofs.YtfjmegcedgondaaDoor
open Go.RowKit
set_option maxRecDepth 20000
set_option linter.unusedSimpArgs false

theorem be4_inF (n : Int) : ∀ v ∈ be4 n, b8 v := fun v hv => by
  unfold be4 at hv
  simp only [List.mem_cons, List.not_mem_nil, or_false] at hv
  rcases hv with rfl | rfl | rfl | rfl <;> constructor <;> omega
theorem wrapsL_in (ws : List Wp) (hi : ∀ e ∈ ws, e.In) : ∀ v ∈ wrapsL ws, b8 v := by
  intro v hv
  unfold wrapsL at hv
  obtain ⟨c, hc, hvc⟩ := List.mem_flatten.1 hv
  obtain ⟨e, he, rfl⟩ := List.mem_map.1 hc
  have h := hi e he
  unfold wrapL dotL at hvc
  simp only [List.mem_append, List.mem_cons, List.not_mem_nil, or_false] at hvc
  rcases hvc with (rfl | (rfl | h1)) | h1
  · exact h.too
  · exact h.ea
  · exact be4_inF _ v h1
  · exact h.data v h1
theorem frameL_in (F : Fr) (ws : List Wp) (body : List Int) (hF : F.In) (hi : ∀ e ∈ ws, e.In) (hb : ∀ v ∈ body, b8 v) (hw : ws.length ≤ 64) : ∀ v ∈ frameL F ws body, b8 v := by
  intro v hv
  rw [frameL_cut] at hv
  unfold dotL at hv
  simp only [List.mem_append, List.mem_cons, List.not_mem_nil, or_false] at hv
  rcases hv with (((rfl | rfl | rfl) | h1) | (rfl | h1)) | (h1 | rfl | h1 | h1 | h1 | h1)
  · exact ⟨by decide, by decide⟩
  · exact ⟨by decide, by decide⟩
  · exact hF.author
  · exact be4_inF _ v h1
  · exact hF.ea
  · exact be4_inF _ v h1
  · exact hF.prev v h1
  · exact ⟨by omega, by omega⟩
  · exact wrapsL_in ws hi v h1
  · unfold be2 at h1
    simp only [List.mem_cons, List.not_mem_nil, or_false] at h1
    rcases h1 with rfl | rfl <;> constructor <;> omega
  · exact hb v h1
  · exact hF.mac v h1
theorem few_in {F : Fr} (h : F.In) (xw : Option Addr) (lw cw : Nat) (xb : Option Addr) (lb cb : Nat) : (F.few xw lw cw xb lb cb).In := ⟨h.author, h.number, h.ea, h.es, h.prev, h.mac⟩
theorem fr_with_in {F : Fr} (h : F.In) (wv bv : Value) : ({ F with wraps := wv, body := bv } : Fr).In := ⟨h.author, h.number, h.ea, h.es, h.prev, h.mac⟩

theorem CellsAt.setRowO3 {w : World} {g g' : Nat} {t : TypeId} {cs : List Value} (h : CellsAt w g t cs) (cs' : Array Value) (hne : g ≠ g') : CellsAt (w.setRow g' cs') g t cs := by
  unfold CellsAt at h ⊢; rw [setRow_other w g' g cs' hne]; exact h
set_option maxHeartbeats 8000000 in
theorem frameback_walk (F : Fr) (xw : Option Addr) (lw cw : Nat) (ws : List Wp) (xb : Option Addr) (lb cb : Nat) (body : List Int) (x : Option Addr) (n c : Nat) (z : List Int) (w : World) (hT : BTab w) (hF : FrIn w F xw lw cw ws xb lb cb body) (hb : Bytes w x n c z) (hz : ∀ v ∈ z, b8 v) :
    Calls Tryd.prog 4 #[.agg F.cells.toArray, .slice x n c] w fun e w' => e = .returned (.bool true) ∧ Below w.heap.size w w' := by
  obtain ⟨hp, hm, hfw, hfb, hws, hbo, inF, inW, inB⟩ := hF
  obtain ⟨q0, _⟩ := fr_parts F hp hm
  obtain ⟨q2, _⟩ := fr_parts (F.few xw lw cw xb lb cb) hp hm
  have h1 := fr_one (F.few xw lw cw xb lb cb) xw xb _ cw _ cb rfl rfl
  have hfe := fun wx (hb : Below w.heap.size w wx) => few6_any F xw lw cw ws xb lb cb body wx hp hm hfw (hws.below hb) hfb (hbo.below hb)
  have hws2 := hws.few 80
  have hbo2 := hbo.few 5000
  have hfr := fun wx (hb : Below w.heap.size w wx) => Frame_both (F.few xw lw cw xb lb cb) xw (min lw 80) cw (ws.take 80) xb (min lb 5000) cb (body.take 5000) wx hp hm rfl (hws2.below hb) rfl (hbo2.below hb)
  have hwl := hws2.len_eq
  have hbl := hbo2.len_eq
  have hlv := fun wx (hb : Below w.heap.size w wx) => live6_any wx (hT.below hb)
  have hrd := fun wx (h : Below w.heap.size w wx) => ReadFrame_any x n c z wx (hb.below h) hz
  -- the frame's own bytes, read again
  have HR1 : Veil (∀ (y : Option Addr) (m d : Nat) (wx : World), ¬ (64 < min lw 80 ∨ 4112 < min lb 5000) → Below w.heap.size w wx → Bytes wx y m d (frameL (F.few xw lw cw xb lb cb) (ws.take 80) (body.take 5000)) → Calls Tryd.prog 6 #[.slice y m d] wx fun e w' => ∃ X : Fr, e = .returned (.tuple #[.agg X.cells.toArray, .int .i64 0]) ∧ X.cells.length = 70 ∧ (∀ v ∈ X.cells, v.oneCell' = true) ∧ Below wx.heap.size wx w' ∧ ∀ wy, Below w'.heap.size w' wy → Calls Tryd.prog 14 #[.agg X.cells.toArray, .agg (F.few xw lw cw xb lb cb).cells.toArray] wy fun e w'' => e = .returned (.bool true) ∧ Below wy.heap.size wy w'') := ⟨fun y m d wx hno hB hy => by
    have inF2 := few_in inF xw lw cw xb lb cb
    have inW2 : ∀ e ∈ ws.take 80, e.In := fun e he => inW e (List.mem_of_mem_take he)
    have inB2 : ∀ v ∈ body.take 5000, b8 v := fun v hv => inB v (List.mem_of_mem_take hv)
    have hok2 : ∀ e ∈ ws.take 80, e.data.length = 48 := hws2.ok
    obtain ⟨hall, hN, hW, hBo, hFr⟩ := frame_back (F.few xw lw cw xb lb cb) (ws.take 80) (body.take 5000) hp hm inF2 inW2 hok2 (by omega) (by omega)
    have hin := frameL_in (F.few xw lw cw xb lb cb) (ws.take 80) (body.take 5000) inF2 inW2 inB2 (by omega)
    refine (ReadFrame_any y m d _ wx hy hin).mono fun e w' h => ?_
    rcases h with ⟨_, G, y2, m2, d2, h1, h2, h3, h4⟩ | ⟨h0, _⟩
    · rw [hFr, hN] at h1
      rw [hW] at h2
      rw [hBo] at h3
      refine ⟨_, h1, fr_len _ hp hm, fr_one _ (some ⟨G, 0, none⟩) y2 _ _ m2 d2 rfl rfl, h4, fun wy hwy => ?_⟩
      have hwr := (wraps_of_cells h2 hok2 rfl (by omega)).below hwy
      have hby := h3.bytes.2.below hwy
      have hbelow := hB.trans (h4.mono hB.size)
      have hB2 := hbelow.trans (hwy.mono hbelow.size)
      have := SameFrame_any { F.few xw lw cw xb lb cb with wraps := .slice (some ⟨G, 0, none⟩) (ws.take 80).length (ws.take 80).length, body := .slice y2 m2 d2 } (some ⟨G, 0, none⟩) (ws.take 80).length (ws.take 80).length (ws.take 80) y2 m2 d2 (body.take 5000) (F.few xw lw cw xb lb cb) xw (min lw 80) cw (ws.take 80) xb (min lb 5000) cb (body.take 5000) wy hp hm rfl hwr rfl hby hp hm rfl (hws2.below hB2) rfl (hbo2.below hB2)
      rw [show sameB { F.few xw lw cw xb lb cb with wraps := .slice (some ⟨G, 0, none⟩) (ws.take 80).length (ws.take 80).length, body := .slice y2 m2 d2 } (ws.take 80) (body.take 5000) (F.few xw lw cw xb lb cb) (ws.take 80) (body.take 5000) = true from sameB_refl (F.few xw lw cw xb lb cb) (ws.take 80) (body.take 5000)] at this
      exact this
    · exact absurd hall h0⟩
  -- what is read of the other bytes, written again
  have HR2 : Veil (∀ (wx : World), frameAll z → Below w.heap.size w wx → Calls Tryd.prog 6 #[.slice x n c] wx fun e w' => ∃ X : Fr, e = .returned (.tuple #[.agg X.cells.toArray, .int .i64 0]) ∧ X.cells.length = 70 ∧ (∀ v ∈ X.cells, v.oneCell' = true) ∧ Below wx.heap.size wx w' ∧ ∀ wy, Below w'.heap.size w' wy → Calls Tryd.prog 13 #[.agg X.cells.toArray] wy fun e w'' => ∃ x' n' c', e = .returned (.tuple #[.slice x' n' c', .int .i64 0]) ∧ Bytes w'' x' n' c' z ∧ Below wy.heap.size wy w'') := ⟨fun wx hall hB => by
    refine (hrd wx hB).mono fun e w' h => ?_
    rcases h with ⟨_, G, y2, m2, d2, h1, h2, h3, h4⟩ | ⟨h0, _⟩
    · obtain ⟨l1, l2⟩ := frOf_len z hall.1 (.slice (some ⟨G, 0, none⟩) (fN z) (fN z)) (.slice y2 m2 d2)
      obtain ⟨f1, f2, f3, f4, f5⟩ := frame_forth z hz hall (.slice (some ⟨G, 0, none⟩) (fN z) (fN z)) (.slice y2 m2 d2)
      refine ⟨_, h1, fr_len _ l1 l2, fr_one _ (some ⟨G, 0, none⟩) y2 _ _ m2 d2 rfl rfl, h4, fun wy hwy => ?_⟩
      have hok : wpsOk (wsOf z) := wpsN_ok z 45 (fN z) (by have := hall.1.2.2.1.2.2; exact this)
      have hwr := (wraps_of_cells h2 hok f2.symm (by omega)).below hwy
      have hby := h3.bytes.2.below hwy
      have hm2 := h3.bytes.1
      have := Frame_both (frOf z (.slice (some ⟨G, 0, none⟩) (fN z) (fN z)) (.slice y2 m2 d2)) (some ⟨G, 0, none⟩) (fN z) (fN z) (wsOf z) y2 m2 d2 (boOf z) wy l1 l2 rfl hwr rfl hby
      have hno : ¬ (64 < fN z ∨ 4112 < m2) := by omega
      unfold frE frB at this
      rw [if_neg hno, if_neg hno, f1] at this
      exact this
    · exact absurd hall h0⟩
  obtain ⟨Z, hzv, hz1, hZ⟩ := zeroFrL
  have HZL : Veil (Z.length = 70) := ⟨by rw [hZ, fr_len frZ rfl rfl]⟩
  have HFZ : Veil (frZ.cells = Z) := ⟨hZ.symm⟩
  have HZ1 : Veil (∀ v ∈ Z, v.oneCell' = true) := ⟨by rw [hZ]; exact fr_one frZ none none 0 0 0 0 rfl rfl⟩
  have hrd2 : ∀ wx, ¬ frameAll z → Below w.heap.size w wx → Calls Tryd.prog 6 #[.slice x n c] wx fun e w' => e = .returned (.tuple #[.agg Z.toArray, .int .i64 3]) ∧ Below wx.heap.size wx w' := fun wx hall hB => (hrd wx hB).mono fun e w' h => by
    rcases h with ⟨h0, _⟩ | ⟨_, h1, h2⟩
    · exact absurd h0 hall
    · rw [hZ]; exact ⟨h1, h2⟩
  have HRD2 := Veil.mk hrd2
  obtain ⟨F2, hF2⟩ : ∃ q, F.few xw lw cw xb lb cb = q := ⟨_, rfl⟩
  rw [hF2] at q2 h1 hfe hfr HR1
  obtain ⟨FL, hFL⟩ : ∃ q, frameL F2 (ws.take 80) (body.take 5000) = q := ⟨_, rfl⟩
  rw [hFL] at HR1
  have HFB : Veil (¬ (64 < min lw 80 ∨ 4112 < min lb 5000) → frB F2 (ws.take 80) (body.take 5000) (min lw 80) (min lb 5000) = FL ∧ frE (min lw 80) (min lb 5000) = 0) := ⟨fun h => by unfold frB frE; rw [if_neg h, if_neg h]; exact ⟨hFL, rfl⟩⟩
  have HFE : Veil ((64 < min lw 80 ∨ 4112 < min lb 5000) → frE (min lw 80) (min lb 5000) = 2) := ⟨fun h => by unfold frE; rw [if_pos h]⟩
  obtain ⟨FB, hFB⟩ : ∃ q, frB F2 (ws.take 80) (body.take 5000) (min lw 80) (min lb 5000) = q := ⟨_, rfl⟩
  obtain ⟨FE, hFE⟩ : ∃ q, frE (min lw 80) (min lb 5000) = q := ⟨_, rfl⟩
  rw [hFB, hFE] at hfr HFB
  rw [hFE] at HFE
  obtain ⟨BIG, hBIG⟩ : ∃ q, (64 < min lw 80 ∨ 4112 < min lb 5000) = q := ⟨_, rfl⟩
  rw [hBIG] at HFB HFE HR1
  obtain ⟨ALL, hALL⟩ : ∃ q, frameAll z = q := ⟨_, rfl⟩
  rw [hALL] at HR2 HRD2
  have uF := Tryd.underlying30
  have iF : (Tryd.prog.info? 30).map (·.size) = some F.cells.length := by rw [q0]; exact sizeFrame
  have iF2 : (Tryd.prog.info? 30).map (·.size) = some F2.cells.length := by rw [q2]; exact sizeFrame
  have iZ : (Tryd.prog.info? 30).map (·.size) = some Z.length := by rw [HZL.out]; exact sizeFrame
  have hlq : F.cells.length = F2.cells.length := by rw [q0, q2]
  obtain ⟨SZ, hSZ⟩ : ∃ q, strOfNums z = q := ⟨_, rfl⟩
  have HC : Veil (∀ wx (y : Option Addr) (m d : Nat), Bytes wx y m d z → (convert 22 9 (.slice y m d)).run Tryd.prog wx = .ok (.string SZ) wx) := ⟨fun wx y m d h => by rw [← hSZ]; exact conv_bytes h⟩
  have HB : Veil (∀ wx, Below w.heap.size w wx → Bytes wx x n c z) := ⟨fun wx h => hb.below h⟩
  have hD0 := CellsAt.new w 30 F.cells
  have hB0 : Below w.heap.size w (w.alloc (.cells F.cells.toArray 30)) := (Below.refl _ _).alloc (Nat.le_refl _) _
  clear hT hp hm hfw hws hfb hbo hws2 hbo2 hF2 hFL hFB hFE hBIG hALL q0 q2 hb hz hrd hrd2 inF inW inB hwl hbl hSZ hZ
  go_enter Tryd.func4, Tryd.ntmps4
  go_upto_region 1 with fail
  refine forget (p := fun y => Code.wp _ _ _ _ y) (fun W0 => Below w.heap.size w W0 ∧ CellsAt W0 w.heap.size 30 F.cells) ⟨hB0, hD0⟩ ?_
  clear hB0 hD0
  rintro W0 ⟨hB0, hD0⟩
  have rE := hD0.whole
  go_upto_region 2 with (first
    | (refine wpList_ldv rfl 30 _ rfl _ _ rfl F.cells rE uF rfl iF ?_)
    | (go_at_call 12; refine (hfe _ hB0).mono ?_; rintro e w1 ⟨rfl, hb1⟩; have hD1 := hD0.afar hb1; have hB1 := hB0.trans (hb1.mono hB0.size))
    | (refine wpList_stv rfl 30 _ _ rfl _ rfl rfl hD1 iF2 hlq h1 ?_))
  refine forget (p := fun y => Code.wp _ _ _ _ y) (fun W1 => Below w.heap.size w W1 ∧ CellsAt W1 w.heap.size 30 F2.cells) ⟨below_setRow hB1 (Nat.le_refl _) _, hD1.setRow _⟩ ?_
  clear rE hB1 hD1 hb1 hfe hB0 hD0 iF h1 hlq
  rintro W1 ⟨hB1, hD1⟩
  have rE := hD1.whole
  go_upto_region 3 with (first
    | (refine wpList_ldv rfl 30 _ rfl _ _ rfl F2.cells rE uF rfl iF2 ?_)
    | (go_at_call 13; refine (hfr _ hB1).mono ?_; rintro e w2 ⟨x2, n2, c2, rfl, hy2, hb2⟩))
  have hD2 := hD1.afar hb2
  have hB2 := hB1.trans (hb2.mono hB1.size)
  clear rE hB1 hD1 hb2 hfr
  by_cases hbig : BIG
  · have HE := HFE.out hbig
    subst HE
    clear hbig HFB HFE HR1 hy2 hD2 iF2
    go_upto_region 7 with fail
    by_cases hall : ALL
    · have hr2 := HR2.out w2 hall hB2
      clear HR2 HRD2
      go_upto_region 8 with (first
        | (go_at_call 6; refine hr2.mono ?_; rintro e w6 ⟨Y, rfl, hY70, hY1, hb6, hfm⟩; have iY : (Tryd.prog.info? 30).map (·.size) = some Y.cells.length := (by rw [hY70]; exact sizeFrame); have hlY : Z.length = Y.cells.length := (by rw [hY70, HZL.out]); have hN6 := CellsAt.new w6 30 Z; clear hY70)
        | (refine wpList_stv rfl 30 _ _ rfl _ rfl rfl hN6 iY hlY hY1 ?_))
      have hB6 := hB2.trans (hb6.mono hB2.size)
      have hs6 : Below w6.heap.size w6 ((w6.alloc (.cells Z.toArray 30)).setRow w6.heap.size Y.cells.toArray) := below_setRow ((Below.refl _ _).alloc (Nat.le_refl _) _) (Nat.le_refl _) _
      have hfm2 := hfm _ hs6
      have rY := (hN6.setRow Y.cells).whole
      have hB7 : Below w.heap.size w ((w6.alloc (.cells Z.toArray 30)).setRow w6.heap.size Y.cells.toArray) := hB6.trans (hs6.mono hB6.size)
      obtain ⟨G6, hG6⟩ : ∃ q, w6.heap.size = q := ⟨_, rfl⟩
      obtain ⟨U7, hU7⟩ : ∃ q, (w6.alloc (.cells Z.toArray 30)).setRow w6.heap.size Y.cells.toArray = q := ⟨_, rfl⟩
      rw [hU7] at hfm2 rY hB7
      rw [hG6] at rY
      rw [hU7, hG6]
      clear hr2 hb6 hB2 hB6 hN6 hs6 hfm hU7 hG6 hlY hY1
      go_upto_region 11 with (first
        | (refine wpList_ldgv (by kernel_rfl) 30 _ rfl _ _ rfl Y.cells rY uF rfl iY ?_)
        | (go_at_call 13; refine hfm2.mono ?_; rintro e w8 ⟨x8, n8, c8, rfl, hy8, hb8⟩))
      have hB8 := hB7.trans (hb8.mono hB7.size)
      have hv8 := hlv w8 hB8
      go_wp2_with (go_at_call 10; refine hv8.mono ?_; rintro e w9 ⟨rfl, hb9⟩; have hB9 := hB8.trans (hb9.mono hB8.size); have cv1 := HC.out w9 x8 n8 c8 (hy8.below hb9); have cv2 := HC.out w9 x n c (HB.out w9 hB9))
      go_ret
      exact ⟨rfl, hB9⟩
    · have hr2 := HRD2.out w2 hall hB2
      have hZ1 := HZ1.out
      clear HR2 HRD2
      go_upto_region 8 with (first
        | (go_at_call 6; refine hr2.mono ?_; rintro e w6 ⟨rfl, hb6⟩; have hN6 := CellsAt.new w6 30 Z)
        | (refine wpList_stv rfl 30 _ _ rfl _ rfl rfl hN6 iZ rfl hZ1 ?_))
      have hB6 := hB2.trans (hb6.mono hB2.size)
      have hB7 : Below w.heap.size w ((w6.alloc (.cells Z.toArray 30)).setRow w6.heap.size Z.toArray) := below_setRow (hB6.alloc hB6.size _) hB6.size _
      obtain ⟨G6, hG6⟩ : ∃ q, w6.heap.size = q := ⟨_, rfl⟩
      obtain ⟨U7, hU7⟩ : ∃ q, (w6.alloc (.cells Z.toArray 30)).setRow w6.heap.size Z.toArray = q := ⟨_, rfl⟩
      rw [hU7] at hB7
      rw [hU7, hG6]
      clear hr2 hb6 hB2 hB6 hN6 hU7 hG6
      have hv8 := hlv U7 hB7
      go_wp2_with (go_at_call 10; refine hv8.mono ?_; rintro e w9 ⟨rfl, hb9⟩)
      go_ret
      exact ⟨rfl, hB7.trans (hb9.mono hB7.size)⟩
  · have HE := HFB.out hbig
    have HEB : Veil (FB = FL) := ⟨HE.1⟩
    have HE2 := HE.2
    subst HE2
    rw [HEB.out] at hy2
    have hr1 := HR1.out x2 n2 c2 w2 hbig hB2 hy2
    clear hbig HFB HFE HR1 HE hy2 HEB
    go_upto_region 5 with (first
      | (go_at_call 6; refine hr1.mono ?_; rintro e w3 ⟨X, rfl, hX70, hX1, hb3, hsm⟩; have iX : (Tryd.prog.info? 30).map (·.size) = some X.cells.length := (by rw [hX70]; exact sizeFrame); have hlX : Z.length = X.cells.length := (by rw [hX70, HZL.out]); have hN3 := CellsAt.new w3 30 Z; clear hX70)
      | (refine wpList_stv rfl 30 _ _ rfl _ rfl rfl hN3 iX hlX hX1 ?_))
    have hB3 := hB2.trans (hb3.mono hB2.size)
    have hD3 := hD2.afar hb3
    have l1 := hD3.lt
    have hD4 := (hD3.alloc (.cells Z.toArray 30)).setRowO3 (g' := w3.heap.size) X.cells.toArray (by omega)
    have hs3 : Below w3.heap.size w3 ((w3.alloc (.cells Z.toArray 30)).setRow w3.heap.size X.cells.toArray) := below_setRow ((Below.refl _ _).alloc (Nat.le_refl _) _) (Nat.le_refl _) _
    have hsm2 := hsm _ hs3
    have rX := (hN3.setRow X.cells).whole
    have rF := hD4.whole
    have hB4 : Below w.heap.size w ((w3.alloc (.cells Z.toArray 30)).setRow w3.heap.size X.cells.toArray) := hB3.trans (hs3.mono hB3.size)
    obtain ⟨G3, hG3⟩ : ∃ q, w3.heap.size = q := ⟨_, rfl⟩
    obtain ⟨U4, hU4⟩ : ∃ q, (w3.alloc (.cells Z.toArray 30)).setRow w3.heap.size X.cells.toArray = q := ⟨_, rfl⟩
    rw [hU4] at hsm2 rX rF hB4
    rw [hG3] at rX
    rw [hU4, hG3]
    clear hr1 hb3 hB2 hD2 hB3 hD3 hD4 hN3 hs3 hsm hU4 hG3 l1 hlX hX1
    go_upto_region 7 with (first
      | (refine wpList_ldgv (by kernel_rfl) 30 _ rfl _ _ rfl X.cells rX uF rfl iX ?_)
      | (refine wpList_ldgv (by kernel_rfl) 30 _ rfl _ _ rfl F2.cells rF uF rfl iF2 ?_)
      | (go_at_call 14; refine hsm2.mono ?_; rintro e w5 ⟨rfl, hb5⟩))
    have hB2 := hB4.trans (hb5.mono hB4.size)
    clear hB4 hb5 hsm2 rX rF iF2 iX
    by_cases hall : ALL
    · have hr2 := HR2.out w5 hall hB2
      clear HR2 HRD2
      go_upto_region 8 with (first
        | (go_at_call 6; refine hr2.mono ?_; rintro e w6 ⟨Y, rfl, hY70, hY1, hb6, hfm⟩; have iY : (Tryd.prog.info? 30).map (·.size) = some Y.cells.length := (by rw [hY70]; exact sizeFrame); have hlY : Z.length = Y.cells.length := (by rw [hY70, HZL.out]); have hN6 := CellsAt.new w6 30 Z; clear hY70)
        | (refine wpList_stv rfl 30 _ _ rfl _ rfl rfl hN6 iY hlY hY1 ?_))
      have hB6 := hB2.trans (hb6.mono hB2.size)
      have hs6 : Below w6.heap.size w6 ((w6.alloc (.cells Z.toArray 30)).setRow w6.heap.size Y.cells.toArray) := below_setRow ((Below.refl _ _).alloc (Nat.le_refl _) _) (Nat.le_refl _) _
      have hfm2 := hfm _ hs6
      have rY := (hN6.setRow Y.cells).whole
      have hB7 : Below w.heap.size w ((w6.alloc (.cells Z.toArray 30)).setRow w6.heap.size Y.cells.toArray) := hB6.trans (hs6.mono hB6.size)
      obtain ⟨G6, hG6⟩ : ∃ q, w6.heap.size = q := ⟨_, rfl⟩
      obtain ⟨U7, hU7⟩ : ∃ q, (w6.alloc (.cells Z.toArray 30)).setRow w6.heap.size Y.cells.toArray = q := ⟨_, rfl⟩
      rw [hU7] at hfm2 rY hB7
      rw [hG6] at rY
      rw [hU7, hG6]
      clear hr2 hb6 hB2 hB6 hN6 hs6 hfm hU7 hG6 hlY hY1
      go_upto_region 11 with (first
        | (refine wpList_ldgv (by kernel_rfl) 30 _ rfl _ _ rfl Y.cells rY uF rfl iY ?_)
        | (go_at_call 13; refine hfm2.mono ?_; rintro e w8 ⟨x8, n8, c8, rfl, hy8, hb8⟩))
      have hB8 := hB7.trans (hb8.mono hB7.size)
      have hv8 := hlv w8 hB8
      go_wp2_with (go_at_call 10; refine hv8.mono ?_; rintro e w9 ⟨rfl, hb9⟩; have hB9 := hB8.trans (hb9.mono hB8.size); have cv1 := HC.out w9 x8 n8 c8 (hy8.below hb9); have cv2 := HC.out w9 x n c (HB.out w9 hB9))
      go_ret
      exact ⟨rfl, hB9⟩
    · have hr2 := HRD2.out w5 hall hB2
      have hZ1 := HZ1.out
      clear HR2 HRD2
      go_upto_region 8 with (first
        | (go_at_call 6; refine hr2.mono ?_; rintro e w6 ⟨rfl, hb6⟩; have hN6 := CellsAt.new w6 30 Z)
        | (refine wpList_stv rfl 30 _ _ rfl _ rfl rfl hN6 iZ rfl hZ1 ?_))
      have hB6 := hB2.trans (hb6.mono hB2.size)
      have hB7 : Below w.heap.size w ((w6.alloc (.cells Z.toArray 30)).setRow w6.heap.size Z.toArray) := below_setRow (hB6.alloc hB6.size _) hB6.size _
      obtain ⟨G6, hG6⟩ : ∃ q, w6.heap.size = q := ⟨_, rfl⟩
      obtain ⟨U7, hU7⟩ : ∃ q, (w6.alloc (.cells Z.toArray 30)).setRow w6.heap.size Z.toArray = q := ⟨_, rfl⟩
      rw [hU7] at hB7
      rw [hU7, hG6]
      clear hr2 hb6 hB2 hB6 hN6 hU7 hG6
      have hv8 := hlv U7 hB7
      go_wp2_with (go_at_call 10; refine hv8.mono ?_; rintro e w9 ⟨rfl, hb9⟩)
      go_ret
      exact ⟨rfl, hB7.trans (hb9.mono hB7.size)⟩
end Go.Proofs.YtfjmegcedgondaaDoor
