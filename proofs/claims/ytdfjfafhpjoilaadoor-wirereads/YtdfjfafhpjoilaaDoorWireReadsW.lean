/- The statement WireReads, walked. -/
import Derived.Test.YtdfjfafhpjoilaaDoorRf2
import Derived.Test.YtdfjfafhpjoilaaDoorSf2
import Derived.Test.YtdfjfafhpjoilaaDoorWh3q
import Derived.Test.YtdfjfafhpjoilaaDoorEvl
import Derived.Test.YtdfjfafhpjoilaaDoorGoW
namespace Go.Proofs.YtdfjfafhpjoilaaDoor
open Go.RowKit
set_option maxRecDepth 20000
set_option linter.unusedSimpArgs false

/-- A frame with wraps and a body that lie elsewhere. -/
def Fr.laid (A : Fr) (wv bv : Value) : Fr := { A with wraps := wv, body := bv }
/-- Both readers say the same of the same bytes. -/
theorem RF_told (x : Option Addr) (n c : Nat) (z : List Int) (w : World) (hb : Bytes w x n c z) (hz : ∀ v ∈ z, b8 v) :
    ∃ (A : Fr) (ws : List Wp) (bo : List Int) (E : Int), A.prev.length = 32 ∧ A.mac.length = 32 ∧
      (∀ wx, Below w.heap.size w wx → Calls Tryd.prog 4 #[.slice x n c] wx fun e w' => ∃ xw lw cw xb lb cb, e = .returned (.tuple #[.agg (A.laid (.slice xw lw cw) (.slice xb lb cb)).cells.toArray, .int .i64 E]) ∧ WrapsAt w' xw lw cw ws ∧ Bytes w' xb lb cb bo ∧ Below wx.heap.size wx w') ∧
      (∀ wx, Below w.heap.size w wx → Calls Tryd.prog 5 #[.slice x n c] wx fun e w' => ∃ xw lw cw xb lb cb, e = .returned (.tuple #[.agg (A.laid (.slice xw lw cw) (.slice xb lb cb)).cells.toArray, .int .i64 E]) ∧ WrapsAt w' xw lw cw ws ∧ Bytes w' xb lb cb bo ∧ Below wx.heap.size wx w') := by
  have hzl := hb.len_eq
  have hiff := frameAll_iff z hz
  by_cases hall : frameAll z
  · obtain ⟨a1, a2, a3, a4, a5, a6, a7⟩ := hiff.1 hall
    have hN : fN z ≤ 64 := a4
    have hws : 45 + 54 * fN z ≤ z.length := by have : fQ z = 45 + 54 * fN z := rfl; omega
    refine ⟨frOf z (.slice none 0 0) (.slice none 0 0), wsOf z, boOf z, 0, ?_, ?_, fun wx h => ?_, fun wx h => ?_⟩
    · show ((z.drop 12).take 32).length = 32
      rw [List.length_take, List.length_drop]; omega
    · show ((z.drop (fO z)).take 32).length = 32
      rw [List.length_take, List.length_drop]; omega
    · refine (ReadFrame_any x n c z wx (hb.below h) hz).mono ?_
      rintro e w' (⟨_, G, y, m, d, rfl, hc, ho, hB⟩ | ⟨hx, _⟩)
      · exact ⟨some ⟨G, 0, none⟩, fN z, fN z, y, m, d, rfl, wraps_of_cells hc (wpsN_ok z 45 (fN z) hws) (wpsN_len z 45 (fN z)).symm (by omega), ho.bytes.2, hB⟩
      · exact absurd hall hx
    · refine (refRF_good x n c z wx (hb.below h) hz ⟨by omega, a2, a3, a4⟩ ⟨by omega, a6, by omega⟩).mono ?_
      rintro e w' ⟨xw, lw, cw, xb, lb, cb, rfl, hw, hbo, hB⟩
      exact ⟨xw, lw, cw, xb, lb, cb, rfl, hw, hbo, hB⟩
  · have hnil : ∀ w' : World, WrapsAt w' none 0 0 [] ∧ Bytes w' none 0 0 [] := fun w' => ⟨(OwnW.nil w' 0).wraps (fun e he => by cases he), bytes_nil w'⟩
    refine ⟨frZ, [], [], 3, rfl, rfl, fun wx h => ?_, fun wx h => ?_⟩
    · refine (ReadFrame_any x n c z wx (hb.below h) hz).mono ?_
      rintro e w' (⟨hx, _⟩ | ⟨_, rfl, hB⟩)
      · exact absurd hx hall
      · exact ⟨none, 0, 0, none, 0, 0, rfl, (hnil w').1, (hnil w').2, hB⟩
    · by_cases hok : 45 ≤ n ∧ at1 z 0 = 69 ∧ at1 z 1 = 83 ∧ fN z ≤ 64
      · have hbad : ¬ (fQ z + 2 ≤ n ∧ fM z ≤ 4112 ∧ n = fO z + 32) := fun hh => hall (hiff.2 ⟨by omega, hok.2.1, hok.2.2.1, hok.2.2.2, by omega, hh.2.1, by omega⟩)
        refine (refRF_short x n c z wx (hb.below h) hz hok hbad).mono ?_
        rintro e w' ⟨rfl, hB⟩
        exact ⟨none, 0, 0, none, 0, 0, rfl, (hnil w').1, (hnil w').2, hB⟩
      · refine (refRF_odd x n c z wx (hb.below h) hz hok).mono ?_
        rintro e w' ⟨rfl, hB⟩
        exact ⟨none, 0, 0, none, 0, 0, rfl, (hnil w').1, (hnil w').2, hB⟩
theorem rhB_ok (z : List Int) : hdOk (rhB z) ∧ (rhB z).length = 8 := by
  unfold rhB
  split
  · exact ⟨headsN_ok z 8 (by omega), headsN_len z 8⟩
  · exact ⟨hdOk_rep 8, rfl⟩
set_option maxHeartbeats 8000000 in
theorem reads_walk (x : Option Addr) (n c : Nat) (z : List Int) (w : World) (hT : BTab w) (hb : Bytes w x n c z) (hz : ∀ v ∈ z, b8 v) :
    Calls Tryd.prog 3 #[.slice x n c] w fun e w' => e = .returned (.bool true) ∧ Below w.heap.size w w' := by
  obtain ⟨A, ws, bo, E, hp, hm, hRF, hRR⟩ := RF_told x n c z w hb hz
  have hH1 := fun wx (h : Below w.heap.size w wx) => ReadHeads_any x n c z wx (hb.below h) hz
  have hH2 := fun wx (h : Below w.heap.size w wx) => refReadHeads_any x n c z wx (hb.below h) hz
  obtain ⟨ho8, hl8⟩ := rhB_ok z
  have heq := fun wx => heads_same (rhB z) ho8 hl8 wx
  have hiC := sizeHeadsL (rhB z) ho8 hl8
  have h1C := hdsC_one (rhB z)
  obtain ⟨ZH, hzvH, hz1H, hZH⟩ := zeroHeads_has
  have hlC : ZH.length = (hdsC (rhB z)).length := by rw [hZH, hdsC_len hdZ (hdOk_rep 8), hdsC_len _ ho8, hl8]; rfl
  obtain ⟨Z, hzv, hz1, hZ⟩ := zeroFrL
  have hlv := fun wx (h : Below w.heap.size w wx) => live6_any wx (hT.below h)
  obtain ⟨C, hC⟩ : ∃ q, hdsC (rhB z) = q := ⟨_, rfl⟩
  obtain ⟨EH, hEH⟩ : ∃ q, rhE z = q := ⟨_, rfl⟩
  rw [hC] at hiC h1C hlC
  simp only [hC, hEH] at hH1 hH2 heq
  have hsm := fun wx xw lw cw xb lb cb yw mw dw yb mb db (h1 : WrapsAt wx xw lw cw ws) (h2 : Bytes wx xb lb cb bo) (h3 : WrapsAt wx yw mw dw ws) (h4 : Bytes wx yb mb db bo) =>
    refSame_any (A.laid (.slice xw lw cw) (.slice xb lb cb)) xw lw cw ws xb lb cb bo (A.laid (.slice yw mw dw) (.slice yb mb db)) yw mw dw ws yb mb db bo wx hp hm rfl h1 rfl h2 hp hm rfl h3 rfl h4
  have hsB : ∀ wv bv uv dv, sameB (A.laid wv bv) ws bo (A.laid uv dv) ws bo = true := fun wv bv uv dv => sameB_refl A ws bo
  simp only [hsB] at hsm
  have hFl : ∀ wv bv, (A.laid wv bv).cells.length = 70 := fun wv bv => fr_len _ hp hm
  have hiF : ∀ wv bv, (Tryd.prog.info? 30).map (·.size) = some (A.laid wv bv).cells.length := fun wv bv => by rw [hFl]; exact sizeFrame
  have hlF : ∀ wv bv, Z.length = (A.laid wv bv).cells.length := fun wv bv => by rw [hFl, hZ, fr_len frZ rfl rfl]
  have h1F : ∀ xw lw cw xb lb cb, ∀ u ∈ (A.laid (.slice xw lw cw) (.slice xb lb cb)).cells, u.oneCell' = true := fun xw lw cw xb lb cb => fr_one _ xw xb lw cw lb cb rfl rfl
  have uF := Tryd.underlying30
  have uC := Tryd.underlying36
  clear hT hb hz hZ hZH hC hEH ho8 hl8 hsB hFl hp hm
  have hBw0 : Below w.heap.size w w := Below.refl _ _
  go_enter Tryd.func3, Tryd.ntmps3
  go_upto_region 2 with (first
    | (go_at_call 4; refine (hRF w hBw0).mono ?_; rintro e w1 ⟨xw, lw, cw, xb, lb, cb, rfl, hw1, hb1, hB1⟩; have hN1 := CellsAt.new w1 30 Z; obtain ⟨F1, hF1⟩ : ∃ q, (A.laid (.slice xw lw cw) (.slice xb lb cb)).cells = q := ⟨_, rfl⟩; have iF1 := hiF (.slice xw lw cw) (.slice xb lb cb); have lF1 := hlF (.slice xw lw cw) (.slice xb lb cb); have oF1 := h1F xw lw cw xb lb cb; rw [hF1] at iF1 lF1 oF1; rw [hF1])
    | (refine wpList_stv rfl 30 _ _ rfl _ rfl rfl hN1 iF1 lF1 oF1 ?_))
  have hA1 : Below w1.heap.size w1 ((w1.alloc (.cells Z.toArray 30)).setRow w1.heap.size F1.toArray) := below_setRow ((Below.refl _ _).alloc (Nat.le_refl _) _) (Nat.le_refl _) _
  refine forget (p := fun y => Code.wp _ _ _ _ y) (fun W => Below w.heap.size w W ∧ CellsAt W w1.heap.size 30 F1 ∧ WrapsAt W xw lw cw ws ∧ Bytes W xb lb cb bo) ⟨hB1.trans (hA1.mono hB1.size), hN1.setRow _, hw1.below hA1, hb1.below hA1⟩ ?_
  obtain ⟨G1, hG1⟩ : ∃ q, w1.heap.size = q := ⟨_, rfl⟩
  rw [hG1]
  have HF1 := Veil.mk hF1
  clear hG1 hA1 hN1 hw1 hb1 hB1 lF1 oF1 hRF hF1 hBw0
  rintro W2 ⟨hB2, hD2, hw2, hb2⟩
  go_upto_region 3 with (first
    | (go_at_call 5; refine (hRR W2 hB2).mono ?_; rintro e w3 ⟨yw, mw, dw, yb, mb, db, rfl, hw3, hb3, hB3⟩; have hN3 := CellsAt.new w3 30 Z; obtain ⟨F3, hF3⟩ : ∃ q, (A.laid (.slice yw mw dw) (.slice yb mb db)).cells = q := ⟨_, rfl⟩; have iF3 := hiF (.slice yw mw dw) (.slice yb mb db); have lF3 := hlF (.slice yw mw dw) (.slice yb mb db); have oF3 := h1F yw mw dw yb mb db; rw [hF3] at iF3 lF3 oF3; rw [hF3])
    | (refine wpList_stv rfl 30 _ _ rfl _ rfl rfl hN3 iF3 lF3 oF3 ?_))
  have hA3 : Below w3.heap.size w3 ((w3.alloc (.cells Z.toArray 30)).setRow w3.heap.size F3.toArray) := below_setRow ((Below.refl _ _).alloc (Nat.le_refl _) _) (Nat.le_refl _) _
  have hA23 : Below W2.heap.size W2 ((w3.alloc (.cells Z.toArray 30)).setRow w3.heap.size F3.toArray) := hB3.trans (hA3.mono hB3.size)
  refine forget (p := fun y => Code.wp _ _ _ _ y) (fun W => Below w.heap.size w W ∧ CellsAt W G1 30 F1 ∧ WrapsAt W xw lw cw ws ∧ Bytes W xb lb cb bo ∧ CellsAt W w3.heap.size 30 F3 ∧ WrapsAt W yw mw dw ws ∧ Bytes W yb mb db bo) ⟨hB2.trans (hA23.mono hB2.size), hD2.far6 hA23, hw2.below hA23, hb2.below hA23, hN3.setRow _, hw3.below hA3, hb3.below hA3⟩ ?_
  obtain ⟨G3, hG3⟩ : ∃ q, w3.heap.size = q := ⟨_, rfl⟩
  rw [hG3]
  have HF3 := Veil.mk hF3
  clear hG3 hA3 hA23 hN3 hw3 hb3 hB3 lF3 oF3 hRR hF3 hw2 hb2 hD2 hB2 hiF hlF h1F
  clear W2
  rintro W4 ⟨hB4, hD4, hw4, hb4, hE4, hv4, hc4⟩
  go_upto_region 4 with (first
    | (go_at_call 6; refine (hH1 W4 hB4).mono ?_; rintro e w5 ⟨rfl, hB5⟩; have hN5 := CellsAt.new w5 36 ZH)
    | (refine wpList_stv rfl 36 _ _ rfl _ rfl rfl hN5 hiC hlC h1C ?_))
  have hA5 : Below W4.heap.size W4 ((w5.alloc (.cells ZH.toArray 36)).setRow w5.heap.size C.toArray) := hB5.trans ((below_setRow ((Below.refl _ _).alloc (Nat.le_refl _) _) (Nat.le_refl _) _).mono hB5.size)
  refine forget (p := fun y => Code.wp _ _ _ _ y) (fun W => Below w.heap.size w W ∧ CellsAt W G1 30 F1 ∧ WrapsAt W xw lw cw ws ∧ Bytes W xb lb cb bo ∧ CellsAt W G3 30 F3 ∧ WrapsAt W yw mw dw ws ∧ Bytes W yb mb db bo ∧ CellsAt W w5.heap.size 36 C) ⟨hB4.trans (hA5.mono hB4.size), hD4.far6 hA5, hw4.below hA5, hb4.below hA5, hE4.far6 hA5, hv4.below hA5, hc4.below hA5, hN5.setRow _⟩ ?_
  obtain ⟨G5, hG5⟩ : ∃ q, w5.heap.size = q := ⟨_, rfl⟩
  rw [hG5]
  clear hG5 hA5 hN5 hB5 hH1 hB4 hD4 hw4 hb4 hE4 hv4 hc4
  clear W4
  rintro W6 ⟨hB6, hD6, hw6, hb6, hE6, hv6, hc6, hK6⟩
  go_upto_region 5 with (first
    | (go_at_call 7; refine (hH2 W6 hB6).mono ?_; rintro e w7 ⟨rfl, hB7⟩; have hN7 := CellsAt.new w7 36 ZH)
    | (refine wpList_stv rfl 36 _ _ rfl _ rfl rfl hN7 hiC hlC h1C ?_))
  have hA7 : Below W6.heap.size W6 ((w7.alloc (.cells ZH.toArray 36)).setRow w7.heap.size C.toArray) := hB7.trans ((below_setRow ((Below.refl _ _).alloc (Nat.le_refl _) _) (Nat.le_refl _) _).mono hB7.size)
  refine forget (p := fun y => Code.wp _ _ _ _ y) (fun W => Below w.heap.size w W ∧ CellsAt W G1 30 F1 ∧ WrapsAt W xw lw cw ws ∧ Bytes W xb lb cb bo ∧ CellsAt W G3 30 F3 ∧ WrapsAt W yw mw dw ws ∧ Bytes W yb mb db bo ∧ CellsAt W G5 36 C ∧ CellsAt W w7.heap.size 36 C) ⟨hB6.trans (hA7.mono hB6.size), hD6.far6 hA7, hw6.below hA7, hb6.below hA7, hE6.far6 hA7, hv6.below hA7, hc6.below hA7, hK6.far6 hA7, hN7.setRow _⟩ ?_
  obtain ⟨G7, hG7⟩ : ∃ q, w7.heap.size = q := ⟨_, rfl⟩
  rw [hG7]
  clear hG7 hA7 hN7 hB7 hH2 hB6 hD6 hw6 hb6 hE6 hv6 hc6 hK6 hlC h1C
  clear W6
  rintro W8 ⟨hB8, hD8, hw8, hb8, hE8, hv8, hc8, hK8, hM8⟩
  have hlv8 := hlv W8 hB8
  have hsmF : ∀ wx, Below W8.heap.size W8 wx → Calls Tryd.prog 9 #[.agg F1.toArray, .agg F3.toArray] wx fun e w' => e = .returned (.bool true) ∧ Below wx.heap.size wx w' := fun wx h => by
    rw [← HF1.out, ← HF3.out]
    exact hsm wx xw lw cw xb lb cb yw mw dw yb mb db (hw8.below h) (hb8.below h) (hv8.below h) (hc8.below h)
  clear hsm hw8 hb8 hv8 hc8 hlv
  go_wp2_with (first
    | (go_at_call 8; refine hlv8.mono ?_; rintro e w9 ⟨rfl, hb9⟩; have r1 := (hD8.far6 hb9).whole2; have r3 := (hE8.far6 hb9).whole2)
    | (go_at_call 9; refine (hsmF w9 hb9).mono ?_; rintro e w10 ⟨rfl, hb10⟩; have hb910 := hb9.trans (hb10.mono hb9.size); have r5 := (hK8.far6 hb910).whole2; have r7 := (hM8.far6 hb910).whole2)
    | (refine wpList_ldgv rfl 30 _ rfl G1 0 rfl F1 r1 uF rfl iF1 ?_)
    | (refine wpList_ldgv rfl 30 _ rfl G3 0 rfl F3 r3 uF rfl iF3 ?_)
    | (refine wpList_ldgv rfl 36 _ rfl G5 0 rfl C r5 uC rfl hiC ?_)
    | (refine wpList_ldgv rfl 36 _ rfl G7 0 rfl C r7 uC rfl hiC ?_))
  go_ret
  exact ⟨rfl, hB8.trans (hb910.mono hB8.size)⟩
end Go.Proofs.YtdfjfafhpjoilaaDoor
