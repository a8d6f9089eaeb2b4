/- The statement WireSizes, walked. -/
import Derived.Test.YtcikbpcahalnnaaDoorWireBoth
import Derived.Test.YtcikbpcahalnnaaDoorWf
import Derived.Test.YtcikbpcahalnnaaDoorWpad
namespace Go.Proofs.YtcikbpcahalnnaaDoor
open Go.RowKit
set_option maxRecDepth 20000
set_option linter.unusedSimpArgs false

theorem CellsAt.setRowOther {w : World} {g g' : Nat} {t : TypeId} {cs : List Value} (h : CellsAt w g t cs) (cs' : Array Value) (hne : g ≠ g') : CellsAt (w.setRow g' cs') g t cs := by
  unfold CellsAt at h ⊢; rw [setRow_other w g' g cs' hne]; exact h
theorem wp_stvG {P : Program} {o : Oper} {a : Act} {w : World} {K : Act → World → Prop} {Q : Exit → Act → World → Prop} (ty : TypeId) (x y : Operand) (ho : o.op = .store ty x y)
    (g : Nat) (hx : a.eval x = .pointer (some ⟨g, 0, none⟩)) {t : TypeId} {old cs : List Value} (hy : a.eval y = .agg cs.toArray) (hg : CellsAt w g t old)
    (hi : (P.info? ty).map (·.size) = some cs.length) (hl : old.length = cs.length) (h1 : ∀ v ∈ cs, v.oneCell' = true)
    (h : K (a.put o.dst undef) (w.setRow g cs.toArray)) : o.wp P a w K Q := by
  unfold Oper.wp execOp
  simp only [ho, hx, hy, Instr.storeAt, Instr.sureAddr, Sem.run_bind, Sem.run_pure, Result.andThen_ok, run_storeVar_cells w g ty t old cs hg hl hi h1]
  exact h
theorem wp_meet {P : Program} {c : Code} {Q : Exit → Act → World → Prop} {a : Act} {w : World} (R : Act → World → Prop) (h1 : Code.wp P c (fun ex a w => match ex with | .normal => R a w | _ => False) a w) (h2 : ∀ a w, R a w → Q .normal a w) : Code.wp P c Q a w :=
  Code.wp_mono (fun e a w q => by cases e <;> first | exact h2 _ _ q | exact q.elim) h1
theorem frB_length (F : Fr) (ws : List Wp) (body : List Int) (lw lb : Nat) (hp : F.prev.length = 32) (hm : F.mac.length = 32) (hw : ∀ e ∈ ws, e.data.length = 48) (h1 : ws.length = lw) (h2 : body.length = lb) : (frB F ws body lw lb).length = if 64 < lw ∨ 4112 < lb then 0 else 45 + 54 * lw + 2 + lb + 32 := by
  unfold frB
  by_cases h : 64 < lw ∨ 4112 < lb
  · rw [if_pos h, if_pos h]; rfl
  · rw [if_neg h, if_neg h]
    unfold frameL
    simp only [List.length_append, openL_length F ws hp hw, hm, h1, h2, be2, List.length_cons, List.length_nil]
theorem opB_length (F : Fr) (ws : List Wp) (lw : Nat) (hp : F.prev.length = 32) (hw : ∀ e ∈ ws, e.data.length = 48) (h1 : ws.length = lw) : (opB F ws lw).length = if 64 < lw then 0 else 45 + 54 * lw := by
  unfold opB
  by_cases h : 64 < lw
  · rw [if_pos h, if_pos h]; rfl
  · rw [if_neg h, if_neg h, openL_length F ws hp hw, h1]
set_option maxHeartbeats 4000000 in
theorem sizes_long (xa : Option Addr) (la ca : Nat) (za : List Int) (xb : Option Addr) (lb cb : Nat) (zb : List Int) (l : Array Value) (w : World) (hT : BTab w) (ha : Bytes w xa la ca za) (hb : Bytes w xb lb cb zb) (hl : 5000 < la ∨ 5000 < lb) :
    Calls Tryd.prog 4 #[.slice xa la ca, .slice xb lb cb, .agg l] w fun e w' => e = .returned (.bool true) ∧ Below w.heap.size w w' := by
  have hB0 : Below w.heap.size w (w.alloc (.cells l 34)) := (Below.refl _ _).alloc (Nat.le_refl _) _
  have hlv := live6_any (w.alloc (.cells l 34)) (hT.below hB0)
  have h1 := ha.le
  have h2 := ha.top
  have h3 := hb.le
  have h4 := hb.top
  clear hT ha hb
  by_cases h : 5000 < la
  · have h' : (la : Int) > 5000 := by omega
    clear hl
    go_enter Tryd.func4, Tryd.ntmps4
    go_wp2_with (go_at_call 6; refine hlv.mono ?_; rintro e w1 ⟨rfl, hb1⟩)
    go_ret
    exact ⟨rfl, hB0.trans (hb1.mono hB0.size)⟩
  · have h' : ¬ (la : Int) > 5000 := by omega
    have h'' : (lb : Int) > 5000 := by omega
    clear hl
    go_enter Tryd.func4, Tryd.ntmps4
    go_wp2_with (go_at_call 6; refine hlv.mono ?_; rintro e w1 ⟨rfl, hb1⟩)
    go_ret
    exact ⟨rfl, hB0.trans (hb1.mono hB0.size)⟩

set_option maxHeartbeats 4000000 in
theorem sizes_walk (xa : Option Addr) (la ca : Nat) (za : List Int) (xb : Option Addr) (lb cb : Nat) (zb : List Int) (F : Fr) (xw : Option Addr) (lw cw : Nat) (ws : List Wp) (xd : Option Addr) (ld cd : Nat) (bo : List Int) (G : Fr) (yw : Option Addr) (mw dw : Nat) (vs : List Wp) (yd : Option Addr) (md dd : Nat) (bp : List Int) (w : World) (hT : BTab w) (ha : Bytes w xa la ca za) (hb : Bytes w xb lb cb zb)
    (hFp : F.prev.length = 32) (hFm : F.mac.length = 32) (hFw : F.wraps = .slice xw lw cw) (hFws : WrapsAt w xw lw cw ws) (hFb : F.body = .slice xd ld cd) (hFbo : Bytes w xd ld cd bo)
    (hGp : G.prev.length = 32) (hGm : G.mac.length = 32) (hGw : G.wraps = .slice yw mw dw) (hGws : WrapsAt w yw mw dw vs) (hGb : G.body = .slice yd md dd) (hGbo : Bytes w yd md dd bp) (hl1 : la ≤ 5000) (hl2 : lb ≤ 5000) :
    Calls Tryd.prog 4 #[.slice xa la ca, .slice xb lb cb, .agg (F.cells ++ G.cells).toArray] w fun e w' => e = .returned (.bool true) ∧ Below w.heap.size w w' := by
  obtain ⟨sa, hsa, hsa'⟩ := bucketN_in la
  obtain ⟨sb, hsb, hsb'⟩ := bucketN_in lb
  have hpa := fun wx (h : Below w.heap.size w wx) => Pad_both xa la ca za wx (hT.below h) (ha.below h) sa hsa (by omega)
  have hpb := fun wx (h : Below w.heap.size w wx) => Pad_both xb lb cb zb wx (hT.below h) (hb.below h) sb hsb (by omega)
  have hka := fun wx (h : Below w.heap.size w wx) => bucket_any la wx (hT.below h)
  have hkb := fun wx (h : Below w.heap.size w wx) => bucket_any lb wx (hT.below h)
  rw [hsa] at hka
  rw [hsb] at hkb
  have hna : (if sa = 0 then [] else padL za sa).length = sa := by
    by_cases h : sa = 0
    · rw [if_pos h, h]; rfl
    · rw [if_neg h, padL_length]; rw [← ha.len_eq]; omega
  have hnb : (if sb = 0 then [] else padL zb sb).length = sb := by
    by_cases h : sb = 0
    · rw [if_pos h, h]; rfl
    · rw [if_neg h, padL_length]; rw [← hb.len_eq]; omega
  have hlv := fun wx (h : Below w.heap.size w wx) => live6_any wx (hT.below h)
  obtain ⟨q0, _⟩ := fr_parts F hFp hFm
  obtain ⟨k0, _⟩ := fr_parts G hGp hGm
  obtain ⟨hq2, _, _, _, _, qw, qb, _⟩ := fr_parts (F.few xw lw cw xd ld cd) hFp hFm
  obtain ⟨hk2, _, _, _, _, kw, kb, _⟩ := fr_parts (G.few yw mw dw yd md dd) hGp hGm
  have ho1 := fr_one (F.few xw lw cw xd ld cd) xw xd _ cw _ cd rfl rfl
  have ho2 := fr_one (G.few yw mw dw yd md dd) yw yd _ dw _ dd rfl rfl
  have hf1 := fun wx (h : Below w.heap.size w wx) => few6_any F xw lw cw ws xd ld cd bo wx hFp hFm hFw (hFws.below h) hFb (hFbo.below h)
  have hf2 := fun wx (h : Below w.heap.size w wx) => few6_any G yw mw dw vs yd md dd bp wx hGp hGm hGw (hGws.below h) hGb (hGbo.below h)
  have hw1 := hFws.few 80
  have hw2 := hGws.few 80
  have hd1 := hFbo.few 5000
  have hd2 := hGbo.few 5000
  have hr1 := fun wx (h : Below w.heap.size w wx) => Frame_both (F.few xw lw cw xd ld cd) xw (min lw 80) cw (ws.take 80) xd (min ld 5000) cd (bo.take 5000) wx hFp hFm rfl (hw1.below h) rfl (hd1.below h)
  have hr2 := fun wx (h : Below w.heap.size w wx) => Frame_both (G.few yw mw dw yd md dd) yw (min mw 80) dw (vs.take 80) yd (min md 5000) dd (bp.take 5000) wx hGp hGm rfl (hw2.below h) rfl (hd2.below h)
  have hv1 := fun wx (h : Below w.heap.size w wx) => Open_both (F.few xw lw cw xd ld cd) xw (min lw 80) cw (ws.take 80) wx hFp hFm rfl (hw1.below h)
  have hv2 := fun wx (h : Below w.heap.size w wx) => Open_both (G.few yw mw dw yd md dd) yw (min mw 80) dw (vs.take 80) wx hGp hGm rfl (hw2.below h)
  have hs1 := frB_length (F.few xw lw cw xd ld cd) (ws.take 80) (bo.take 5000) (min lw 80) (min ld 5000) hFp hFm hw1.ok hw1.len_eq.symm hd1.len_eq.symm
  have hs2 := frB_length (G.few yw mw dw yd md dd) (vs.take 80) (bp.take 5000) (min mw 80) (min md 5000) hGp hGm hw2.ok hw2.len_eq.symm hd2.len_eq.symm
  have ht1 := opB_length (F.few xw lw cw xd ld cd) (ws.take 80) (min lw 80) hFp hw1.ok hw1.len_eq.symm
  have ht2 := opB_length (G.few yw mw dw yd md dd) (vs.take 80) (min mw 80) hGp hw2.ok hw2.len_eq.symm
  have HL : Veil (min lw 80 ≤ cw ∧ cw ≤ 9223372036854775807 ∧ min ld 5000 ≤ cd ∧ cd ≤ 9223372036854775807 ∧ min mw 80 ≤ dw ∧ dw ≤ 9223372036854775807 ∧ min md 5000 ≤ dd ∧ dd ≤ 9223372036854775807) := ⟨hw1.le, hw1.top, hd1.le, hd1.top, hw2.le, hw2.top, hd2.le, hd2.top⟩
  have HQW : Veil ((F.few xw lw cw xd ld cd).cells[36]? = some (.slice xw (min lw 80) cw) ∧ (F.few xw lw cw xd ld cd).cells[37]? = some (.slice xd (min ld 5000) cd) ∧ (G.few yw mw dw yd md dd).cells[36]? = some (.slice yw (min mw 80) dw) ∧ (G.few yw mw dw yd md dd).cells[37]? = some (.slice yd (min md 5000) dd)) := ⟨qw, qb, kw, kb⟩
  obtain ⟨F2, hF2⟩ : ∃ q, F.few xw lw cw xd ld cd = q := ⟨_, rfl⟩
  obtain ⟨K2, hK2⟩ : ∃ q, G.few yw mw dw yd md dd = q := ⟨_, rfl⟩
  rw [hF2] at hq2 ho1 hf1 hr1 hv1 hs1 ht1 HQW
  rw [hK2] at hk2 ho2 hf2 hr2 hv2 hs2 ht2 HQW
  obtain ⟨B1, hB1⟩ : ∃ q, frB F2 (ws.take 80) (bo.take 5000) (min lw 80) (min ld 5000) = q := ⟨_, rfl⟩
  obtain ⟨B2, hB2⟩ : ∃ q, frB K2 (vs.take 80) (bp.take 5000) (min mw 80) (min md 5000) = q := ⟨_, rfl⟩
  obtain ⟨O1, hO1⟩ : ∃ q, opB F2 (ws.take 80) (min lw 80) = q := ⟨_, rfl⟩
  obtain ⟨O2, hO2⟩ : ∃ q, opB K2 (vs.take 80) (min mw 80) = q := ⟨_, rfl⟩
  rw [hB1] at hr1 hs1
  rw [hB2] at hr2 hs2
  rw [hO1] at hv1 ht1
  rw [hO2] at hv2 ht2
  obtain ⟨m1, hm1⟩ : ∃ q, min lw 80 = q := ⟨_, rfl⟩
  obtain ⟨m2, hm2⟩ : ∃ q, min ld 5000 = q := ⟨_, rfl⟩
  obtain ⟨m3, hm3⟩ : ∃ q, min mw 80 = q := ⟨_, rfl⟩
  obtain ⟨m4, hm4⟩ : ∃ q, min md 5000 = q := ⟨_, rfl⟩
  rw [hm1, hm2] at hs1 hr1
  rw [hm3, hm4] at hs2 hr2
  rw [hm1] at ht1
  rw [hm3] at ht2
  rw [hm1, hm2, hm3, hm4] at HL HQW
  have HS1 : Veil (B1.length = if 64 < m1 ∨ 4112 < m2 then 0 else 45 + 54 * m1 + 2 + m2 + 32) := ⟨hs1⟩
  have HS2 : Veil (B2.length = if 64 < m3 ∨ 4112 < m4 then 0 else 45 + 54 * m3 + 2 + m4 + 32) := ⟨hs2⟩
  have HT1 : Veil (O1.length = if 64 < m1 then 0 else 45 + 54 * m1) := ⟨ht1⟩
  have HT2 : Veil (O2.length = if 64 < m3 then 0 else 45 + 54 * m3) := ⟨ht2⟩
  have uF := Tryd.underlying30
  have iF : (Tryd.prog.info? 30).map (·.size) = some F.cells.length := by rw [q0]; exact sizeFrame
  have iG : (Tryd.prog.info? 30).map (·.size) = some G.cells.length := by rw [k0]; exact sizeFrame
  have iF2 : (Tryd.prog.info? 30).map (·.size) = some F2.cells.length := by rw [hq2]; exact sizeFrame
  have iK2 : (Tryd.prog.info? 30).map (·.size) = some K2.cells.length := by rw [hk2]; exact sizeFrame
  have kS : ∀ U, CellsAt U w.heap.size 34 (F.cells ++ G.cells) → U.rangeAt w.heap.size 0 F.cells ∧ U.rangeAt w.heap.size 70 G.cells := fun U h => by
    have r1 := h.range 0 70
    have r2 := h.range 70 70
    rw [List.drop_zero, List.take_left' q0] at r1
    rw [List.drop_left' q0, List.take_of_length_le (by omega)] at r2
    exact ⟨r1, r2⟩
  obtain ⟨Z, hzv, hz1, _, hZ⟩ := zeroFrame_has
  have HZ : Veil (∀ U : World, CellsAt (U.alloc (.cells Z 30)) U.heap.size 30 fr00.cells) := ⟨fun U => by rw [hZ]; exact CellsAt.new U 30 fr00.cells⟩
  clear hs1 hs2 ht1 ht2 hm1 hm2 hm3 hm4 hB1 hB2 hO1 hO2 hF2 hK2 hZ qw qb kw kb hFp hFm hFw hFws hFb hFbo hGp hGm hGw hGws hGb hGbo hw1 hw2 hd1 hd2 q0 k0
  have h1 := ha.le
  have h2 := ha.top
  have h3 := hb.le
  have h4 := hb.top
  have g1 : ¬ (la : Int) > 5000 := by omega
  have g2 : ¬ (lb : Int) > 5000 := by omega
  have hB0 : Below w.heap.size w (w.alloc (.cells (F.cells ++ G.cells).toArray 34)) := (Below.refl _ _).alloc (Nat.le_refl _) _
  have hD0 := CellsAt.new w 34 (F.cells ++ G.cells)
  obtain ⟨PA, hPA⟩ : ∃ q, (if sa = 0 then [] else padL za sa) = q := ⟨_, rfl⟩
  obtain ⟨PB, hPB⟩ : ∃ q, (if sb = 0 then [] else padL zb sb) = q := ⟨_, rfl⟩
  obtain ⟨EA, hEA⟩ : ∃ q : Int, (if sa = 0 then 2 else 0) = q := ⟨_, rfl⟩
  obtain ⟨EB, hEB⟩ : ∃ q : Int, (if sb = 0 then 2 else 0) = q := ⟨_, rfl⟩
  rw [hPA, hEA] at hpa
  rw [hPB, hEB] at hpb
  rw [hPA] at hna
  rw [hPB] at hnb
  have HE : Veil (sa = sb → EA = EB) := ⟨fun h => by rw [← hEA, ← hEB, h]⟩
  clear hPA hPB hEA hEB hsa hsb hsa' hsb' hT ha hb
  go_enter Tryd.func4, Tryd.ntmps4
  go_upto_region 3 with fail
  refine forget (p := fun y => Code.wp _ _ _ _ y) (fun W0 => Below w.heap.size w W0 ∧ CellsAt W0 w.heap.size 34 (F.cells ++ G.cells)) ⟨hB0, hD0⟩ ?_
  clear hB0 hD0
  rintro W0 ⟨hB0, hD0⟩
  go_upto_region 4 with (go_at_call 9; refine (hpa _ hB0).mono ?_; rintro e w1 ⟨x1, n1, c1, rfl, hy1, hb1⟩)
  have hB1 := hB0.trans (hb1.mono hB0.size)
  have hD1 := hD0.afar hb1
  have hn1 := hy1.len_eq
  rw [hna] at hn1
  subst hn1
  have hc1 := hy1.le
  have ht1 := hy1.top
  clear hpa hB0 hD0 hb1 hy1 hna
  go_upto_region 5 with (go_at_call 9; refine (hpb _ hB1).mono ?_; rintro e w2 ⟨x2, n2, c2, rfl, hy2, hb2⟩)
  have hB2 := hB1.trans (hb2.mono hB1.size)
  have hD2 := hD1.afar hb2
  have hn2 := hy2.len_eq
  rw [hnb] at hn2
  subst hn2
  have hc2 := hy2.le
  have ht2 := hy2.top
  clear hpb hB1 hD1 hb2 hy2 hnb
  refine wp_meet (fun a W => W = w2 ∧ ∃ u17 u18 u19 u20 u21 u22 u23 u24 u25 u26 u27 u28 u29 u30 u31 u32 u33 u34 u35 u36 u37 u38 u39 u40 u41 u42 u43 u44 u45 u46 u47 u48 u49 u50 u51 u52 u53, a = ⟨#[.slice xa la ca, .slice xb lb cb, .agg (F.cells ++ G.cells).toArray, undef, undef, .pointer (some ⟨w.heap.size, 0, none⟩), .bool false, .slice x1 n1 c1, .int .i64 EA, .slice x2 n2 c2, .int .i64 EB, undef, undef, undef, undef, undef, undef, u17, u18, u19, u20, u21, u22, u23, u24, u25, u26, u27, u28, u29, u30, u31, u32, u33, u34, u35, u36, u37, u38, u39, u40, u41, u42, u43, u44, u45, u46, u47, u48, u49, u50, u51, u52, u53, .bool false, undef, undef, undef, undef, undef, undef, undef, undef, undef, undef, undef, undef, undef, undef, undef, undef, undef, undef, undef, undef, undef, undef, undef, undef, undef, undef, undef, undef, undef, undef, undef, undef, undef, undef, undef, undef, undef, undef, undef, undef, undef, undef, undef, undef, undef, undef, undef, undef, undef, undef, undef, undef, undef, undef, undef], []⟩) ?_ ?_
  · by_cases hq : n1 = n2
    · have hqq := HE.out hq
      subst hq hqq
      go_upto_region 99 with (first
        | (go_at_call 10; refine (hka _ hB2).mono ?_; rintro e w3 ⟨rfl, rfl⟩; clear hka)
        | (go_at_call 10; refine (hkb _ hB2).mono ?_; rintro e w3 ⟨rfl, rfl⟩))
    · have hqi : ¬ (n1 : Int) = (n2 : Int) := by omega
      go_upto_region 99 with (first
        | (go_at_call 10; refine (hka _ hB2).mono ?_; rintro e w3 ⟨rfl, rfl⟩; clear hka)
        | (go_at_call 10; refine (hkb _ hB2).mono ?_; rintro e w3 ⟨rfl, rfl⟩))
  rintro a W ⟨rfl, u17, u18, u19, u20, u21, u22, u23, u24, u25, u26, u27, u28, u29, u30, u31, u32, u33, u34, u35, u36, u37, u38, u39, u40, u41, u42, u43, u44, u45, u46, u47, u48, u49, u50, u51, u52, u53, rfl⟩
  clear hka hkb HE hc1 hc2 ht1 ht2
  go_upto_region 7 with fail
  refine wp_meet (fun a U => ∃ G1 G2, a = ⟨#[.slice xa la ca, .slice xb lb cb, .agg (F.cells ++ G.cells).toArray, undef, undef, .pointer (some ⟨w.heap.size, 0, none⟩), .bool false, .slice x1 n1 c1, .int .i64 EA, .slice x2 n2 c2, .int .i64 EB, .pointer (some ⟨G1, 0, none⟩), .pointer (some ⟨G2, 0, none⟩), undef, undef, undef, undef, u17, u18, u19, u20, u21, u22, u23, u24, u25, u26, u27, u28, u29, u30, u31, u32, u33, u34, u35, u36, u37, u38, u39, u40, u41, u42, u43, u44, u45, u46, u47, u48, u49, u50, u51, u52, u53, .bool false, .pointer (some ⟨w.heap.size, 0, none⟩), .agg F.cells.toArray, .agg F2.cells.toArray, .pointer (some ⟨w.heap.size, 70, none⟩), .agg G.cells.toArray, .agg K2.cells.toArray, undef, undef, undef, undef, undef, undef, undef, undef, undef, undef, undef, undef, undef, undef, undef, undef, undef, undef, undef, undef, undef, undef, undef, undef, undef, undef, undef, undef, undef, undef, undef, undef, undef, undef, undef, undef, undef, undef, undef, undef, undef, undef, undef, undef, undef, undef, undef, undef, undef], []⟩ ∧ Below w.heap.size w U ∧ CellsAt U G1 30 F2.cells ∧ CellsAt U G2 30 K2.cells) ?_ ?_
  · refine wp_region_gate (fun U => U.rangeAt w.heap.size 0 F.cells ∧ U.rangeAt w.heap.size 70 G.cells) 9 (by kernel_rfl) ?_
    obtain ⟨D0, hD0⟩ : ∃ q, W.drew = q := ⟨_, rfl⟩
    have hb0 : Below W.heap.size W D0 := by rw [← hD0]; exact (Below.refl _ _).drew
    rw [hD0]
    have hBD0 := hB2.trans (hb0.mono hB2.size)
    have hDD0 := hD2.afar hb0
    clear hD0 hb0 hB2 hD2 hr1 hr2 hv1 hv2 hlv
    have hS := kS _ hDD0
    refine wpAnyG_any (i := 0) (v := ?_) rfl (by kernel_rfl) (by kernel_rfl) (by kernel_rfl) (fun _ _ _ h => h) (by kernel_rfl) (fun _ => hS) (by kernel_rfl) ?_ ?_
    rotate_left
    · intro _; go_simp; try with_reducible rfl
    simp only [Act.put, List.setIfInBounds_toArray, List.set_cons_zero, List.set_cons_succ]
    refine wpAnyG_load (i := 1) (dst := some 56) (ty := 30) (x := .tmp 55) (b := w.heap.size) (o := (0)) (cs := (F.cells)) (by kernel_rfl) (by kernel_rfl) (by kernel_rfl) (by kernel_rfl) (by kernel_rfl) (fun _ _ _ h => h) (by kernel_rfl) (by kernel_rfl) (by kernel_rfl) hS (by kernel_rfl) (fun _ h => h.1) uF rfl iF ?_
    simp only [Act.put, List.setIfInBounds_toArray, List.set_cons_zero, List.set_cons_succ]
    refine wpAnyG_any (i := 3) (v := ?_) rfl (by kernel_rfl) (by kernel_rfl) (by kernel_rfl) (fun _ _ _ h => h) (by kernel_rfl) (fun _ => hS) (by kernel_rfl) ?_ ?_
    rotate_left
    · intro _; go_simp; try with_reducible rfl
    simp only [Act.put, List.setIfInBounds_toArray, List.set_cons_zero, List.set_cons_succ]
    refine wpAnyG_load (i := 4) (dst := some 59) (ty := 30) (x := .tmp 58) (b := w.heap.size) (o := (70)) (cs := (G.cells)) (by kernel_rfl) (by kernel_rfl) (by kernel_rfl) (by kernel_rfl) (by kernel_rfl) (fun _ _ _ h => h) (by kernel_rfl) (by kernel_rfl) (by kernel_rfl) hS (by kernel_rfl) (fun _ h => h.2) uF rfl iG ?_
    simp only [Act.put, List.setIfInBounds_toArray, List.set_cons_zero, List.set_cons_succ]
    refine wpAnyG_three (i := 2) (j := 6) (l := 7) rfl rfl rfl (by kernel_rfl) (by kernel_rfl) (by kernel_rfl) (by kernel_rfl) (fun K hK => ?_) (fun K hK => ?_) (fun K hK => ?_)
    · skip
      go_wp2_with (go_at_call 5; refine (hf1 _ hBD0).mono ?_; rintro e U1 ⟨rfl, hbU1⟩)
      have hBU1 := hBD0.trans (hbU1.mono hBD0.size)
      have hDU1 := hDD0.afar hbU1
      have hzU1 := hbU1.size
      replace hS := kS _ hDU1
      refine hK.out _ _ (fun _ => hS) ?_
      clear hK K
      refine wpAnyG_three (i := 5) (j := 6) (l := 7) rfl rfl rfl (by kernel_rfl) (by kernel_rfl) (by kernel_rfl) (by kernel_rfl) (fun K hK => ?_) (fun K hK => ?_) (fun K hK => ?_)
      · skip
        go_wp2_with (go_at_call 5; refine (hf2 _ hBU1).mono ?_; rintro e U2 ⟨rfl, hbU2⟩)
        have hBU2 := hBU1.trans (hbU2.mono hBU1.size)
        have hDU2 := hDU1.afar hbU2
        have hzU2 := hbU2.size
        replace hS := kS _ hDU2
        refine hK.out _ _ (fun _ => hS) ?_
        clear hK K
        refine wpAnyG_two (i := 6) (j := 7) rfl rfl (by kernel_rfl) (by kernel_rfl) (by kernel_rfl) (fun K hK => ?_) (fun K hK => ?_)
        · skip
          go_simp
          have hBU3 := hBU2.alloc hBU2.size (.cells Z 30)
          have hDU3 := hDU2.alloc (.cells Z 30)
          have hNU3 := HZ.out U2
          have hlU3 := hDU2.lt
          replace hS := kS _ hDU3
          refine hK.out _ _ (fun _ => hS) ?_
          clear hK K
          obtain ⟨U3, hUU3⟩ : ∃ q, U2.alloc (.cells Z 30) = q := ⟨_, rfl⟩
          obtain ⟨a3, hgU3⟩ : ∃ q, U2.heap.size = q := ⟨_, rfl⟩
          rw [hUU3] at hBU3 hDU3 hNU3
          rw [hgU3] at hNU3 hlU3
          rw [hUU3, hgU3]
          have hAU3 := hNU3
          clear hNU3 hUU3 hgU3
          refine wpAnyG_one (i := 7) rfl (by kernel_rfl) (by kernel_rfl) (fun K hK => ?_)
          go_simp
          have hBU4 := hBU3.alloc hBU3.size (.cells Z 30)
          have hDU4 := hDU3.alloc (.cells Z 30)
          have hNU4 := HZ.out U3
          have hlU4 := hDU3.lt
          have hAU4 := hAU3.alloc (.cells Z 30)
          have hmU4 := hAU3.lt
          replace hS := kS _ hDU4
          refine hK.out _ _ (fun _ => hS) ?_
          clear hK K
          obtain ⟨U4, hUU4⟩ : ∃ q, U3.alloc (.cells Z 30) = q := ⟨_, rfl⟩
          obtain ⟨c4, hgU4⟩ : ∃ q, U3.heap.size = q := ⟨_, rfl⟩
          rw [hUU4] at hBU4 hDU4 hNU4 hAU4
          rw [hgU4] at hNU4 hlU4 hmU4
          rw [hUU4, hgU4]
          have hCU4 := hNU4
          clear hNU4 hUU4 hgU4
          refine wpAnyG_one (i := 8) rfl (by kernel_rfl) (by kernel_rfl) (fun K hK => ?_)
          refine wp_stvG 30 _ _ rfl _ rfl rfl hAU4 iF2 (by rw [hq2]; rfl) ho1 ?_
          have hDs : CellsAt (U4.setRow a3 F2.cells.toArray) w.heap.size 34 (F.cells ++ G.cells) := hDU4.setRowOther _ (by omega)
          have hBs : Below w.heap.size w (U4.setRow a3 F2.cells.toArray) := below_setRow hBU4 (by omega) _
          have hA2 : CellsAt (U4.setRow a3 F2.cells.toArray) a3 30 F2.cells := hAU4.setRow _
          have hC2 : CellsAt (U4.setRow a3 F2.cells.toArray) c4 30 fr00.cells := hCU4.setRowOther _ (by omega)
          replace hS := kS _ hDs
          refine hK.out _ _ (fun _ => hS) ?_
          clear hK K
          refine wpAnyG_one (i := 9) rfl (by kernel_rfl) (by kernel_rfl) (fun K hK => ?_)
          refine wp_stvG 30 _ _ rfl _ rfl rfl hC2 iK2 (by rw [hk2]; rfl) ho2 ?_
          refine hK.out _ _ (fun h => absurd (show true = false from h) (by decide)) ?_
          clear hK K
          refine wpAnyG_done (by kernel_rfl) ?_ _
          exact ⟨a3, c4, rfl, below_setRow hBs (by omega) _, hA2.setRowOther _ (by omega), hC2.setRow _⟩
        · skip
          go_simp
          have hBU5 := hBU2.alloc hBU2.size (.cells Z 30)
          have hDU5 := hDU2.alloc (.cells Z 30)
          have hNU5 := HZ.out U2
          have hlU5 := hDU2.lt
          replace hS := kS _ hDU5
          refine hK.out _ _ (fun _ => hS) ?_
          clear hK K
          obtain ⟨U5, hUU5⟩ : ∃ q, U2.alloc (.cells Z 30) = q := ⟨_, rfl⟩
          obtain ⟨c5, hgU5⟩ : ∃ q, U2.heap.size = q := ⟨_, rfl⟩
          rw [hUU5] at hBU5 hDU5 hNU5
          rw [hgU5] at hNU5 hlU5
          rw [hUU5, hgU5]
          have hCU5 := hNU5
          clear hNU5 hUU5 hgU5
          refine wpAnyG_one (i := 6) rfl (by kernel_rfl) (by kernel_rfl) (fun K hK => ?_)
          go_simp
          have hBU6 := hBU5.alloc hBU5.size (.cells Z 30)
          have hDU6 := hDU5.alloc (.cells Z 30)
          have hNU6 := HZ.out U5
          have hlU6 := hDU5.lt
          have hCU6 := hCU5.alloc (.cells Z 30)
          have hmU6 := hCU5.lt
          replace hS := kS _ hDU6
          refine hK.out _ _ (fun _ => hS) ?_
          clear hK K
          obtain ⟨U6, hUU6⟩ : ∃ q, U5.alloc (.cells Z 30) = q := ⟨_, rfl⟩
          obtain ⟨a6, hgU6⟩ : ∃ q, U5.heap.size = q := ⟨_, rfl⟩
          rw [hUU6] at hBU6 hDU6 hNU6 hCU6
          rw [hgU6] at hNU6 hlU6 hmU6
          rw [hUU6, hgU6]
          have hAU6 := hNU6
          clear hNU6 hUU6 hgU6
          refine wpAnyG_one (i := 8) rfl (by kernel_rfl) (by kernel_rfl) (fun K hK => ?_)
          refine wp_stvG 30 _ _ rfl _ rfl rfl hAU6 iF2 (by rw [hq2]; rfl) ho1 ?_
          have hDs : CellsAt (U6.setRow a6 F2.cells.toArray) w.heap.size 34 (F.cells ++ G.cells) := hDU6.setRowOther _ (by omega)
          have hBs : Below w.heap.size w (U6.setRow a6 F2.cells.toArray) := below_setRow hBU6 (by omega) _
          have hA2 : CellsAt (U6.setRow a6 F2.cells.toArray) a6 30 F2.cells := hAU6.setRow _
          have hC2 : CellsAt (U6.setRow a6 F2.cells.toArray) c5 30 fr00.cells := hCU6.setRowOther _ (by omega)
          replace hS := kS _ hDs
          refine hK.out _ _ (fun _ => hS) ?_
          clear hK K
          refine wpAnyG_one (i := 9) rfl (by kernel_rfl) (by kernel_rfl) (fun K hK => ?_)
          refine wp_stvG 30 _ _ rfl _ rfl rfl hC2 iK2 (by rw [hk2]; rfl) ho2 ?_
          refine hK.out _ _ (fun h => absurd (show true = false from h) (by decide)) ?_
          clear hK K
          refine wpAnyG_done (by kernel_rfl) ?_ _
          exact ⟨a6, c5, rfl, below_setRow hBs (by omega) _, hA2.setRowOther _ (by omega), hC2.setRow _⟩
      · skip
        go_simp
        have hBU7 := hBU1.alloc hBU1.size (.cells Z 30)
        have hDU7 := hDU1.alloc (.cells Z 30)
        have hNU7 := HZ.out U1
        have hlU7 := hDU1.lt
        replace hS := kS _ hDU7
        refine hK.out _ _ (fun _ => hS) ?_
        clear hK K
        obtain ⟨U7, hUU7⟩ : ∃ q, U1.alloc (.cells Z 30) = q := ⟨_, rfl⟩
        obtain ⟨a7, hgU7⟩ : ∃ q, U1.heap.size = q := ⟨_, rfl⟩
        rw [hUU7] at hBU7 hDU7 hNU7
        rw [hgU7] at hNU7 hlU7
        rw [hUU7, hgU7]
        have hAU7 := hNU7
        clear hNU7 hUU7 hgU7
        refine wpAnyG_two (i := 5) (j := 7) rfl rfl (by kernel_rfl) (by kernel_rfl) (by kernel_rfl) (fun K hK => ?_) (fun K hK => ?_)
        · skip
          go_wp2_with (go_at_call 5; refine (hf2 _ hBU7).mono ?_; rintro e U8 ⟨rfl, hbU8⟩)
          have hBU8 := hBU7.trans (hbU8.mono hBU7.size)
          have hDU8 := hDU7.afar hbU8
          have hzU8 := hbU8.size
          have hAU8 := hAU7.afar hbU8
          replace hS := kS _ hDU8
          refine hK.out _ _ (fun _ => hS) ?_
          clear hK K
          refine wpAnyG_one (i := 7) rfl (by kernel_rfl) (by kernel_rfl) (fun K hK => ?_)
          go_simp
          have hBU9 := hBU8.alloc hBU8.size (.cells Z 30)
          have hDU9 := hDU8.alloc (.cells Z 30)
          have hNU9 := HZ.out U8
          have hlU9 := hDU8.lt
          have hAU9 := hAU8.alloc (.cells Z 30)
          have hmU9 := hAU8.lt
          replace hS := kS _ hDU9
          refine hK.out _ _ (fun _ => hS) ?_
          clear hK K
          obtain ⟨U9, hUU9⟩ : ∃ q, U8.alloc (.cells Z 30) = q := ⟨_, rfl⟩
          obtain ⟨c9, hgU9⟩ : ∃ q, U8.heap.size = q := ⟨_, rfl⟩
          rw [hUU9] at hBU9 hDU9 hNU9 hAU9
          rw [hgU9] at hNU9 hlU9 hmU9
          rw [hUU9, hgU9]
          have hCU9 := hNU9
          clear hNU9 hUU9 hgU9
          refine wpAnyG_one (i := 8) rfl (by kernel_rfl) (by kernel_rfl) (fun K hK => ?_)
          refine wp_stvG 30 _ _ rfl _ rfl rfl hAU9 iF2 (by rw [hq2]; rfl) ho1 ?_
          have hDs : CellsAt (U9.setRow a7 F2.cells.toArray) w.heap.size 34 (F.cells ++ G.cells) := hDU9.setRowOther _ (by omega)
          have hBs : Below w.heap.size w (U9.setRow a7 F2.cells.toArray) := below_setRow hBU9 (by omega) _
          have hA2 : CellsAt (U9.setRow a7 F2.cells.toArray) a7 30 F2.cells := hAU9.setRow _
          have hC2 : CellsAt (U9.setRow a7 F2.cells.toArray) c9 30 fr00.cells := hCU9.setRowOther _ (by omega)
          replace hS := kS _ hDs
          refine hK.out _ _ (fun _ => hS) ?_
          clear hK K
          refine wpAnyG_one (i := 9) rfl (by kernel_rfl) (by kernel_rfl) (fun K hK => ?_)
          refine wp_stvG 30 _ _ rfl _ rfl rfl hC2 iK2 (by rw [hk2]; rfl) ho2 ?_
          refine hK.out _ _ (fun h => absurd (show true = false from h) (by decide)) ?_
          clear hK K
          refine wpAnyG_done (by kernel_rfl) ?_ _
          exact ⟨a7, c9, rfl, below_setRow hBs (by omega) _, hA2.setRowOther _ (by omega), hC2.setRow _⟩
        · skip
          go_simp
          have hBU10 := hBU7.alloc hBU7.size (.cells Z 30)
          have hDU10 := hDU7.alloc (.cells Z 30)
          have hNU10 := HZ.out U7
          have hlU10 := hDU7.lt
          have hAU10 := hAU7.alloc (.cells Z 30)
          have hmU10 := hAU7.lt
          replace hS := kS _ hDU10
          refine hK.out _ _ (fun _ => hS) ?_
          clear hK K
          obtain ⟨U10, hUU10⟩ : ∃ q, U7.alloc (.cells Z 30) = q := ⟨_, rfl⟩
          obtain ⟨c10, hgU10⟩ : ∃ q, U7.heap.size = q := ⟨_, rfl⟩
          rw [hUU10] at hBU10 hDU10 hNU10 hAU10
          rw [hgU10] at hNU10 hlU10 hmU10
          rw [hUU10, hgU10]
          have hCU10 := hNU10
          clear hNU10 hUU10 hgU10
          refine wpAnyG_one (i := 5) rfl (by kernel_rfl) (by kernel_rfl) (fun K hK => ?_)
          go_wp2_with (go_at_call 5; refine (hf2 _ hBU10).mono ?_; rintro e U11 ⟨rfl, hbU11⟩)
          have hBU11 := hBU10.trans (hbU11.mono hBU10.size)
          have hDU11 := hDU10.afar hbU11
          have hzU11 := hbU11.size
          have hAU11 := hAU10.afar hbU11
          have hCU11 := hCU10.afar hbU11
          replace hS := kS _ hDU11
          refine hK.out _ _ (fun _ => hS) ?_
          clear hK K
          refine wpAnyG_one (i := 8) rfl (by kernel_rfl) (by kernel_rfl) (fun K hK => ?_)
          refine wp_stvG 30 _ _ rfl _ rfl rfl hAU11 iF2 (by rw [hq2]; rfl) ho1 ?_
          have hDs : CellsAt (U11.setRow a7 F2.cells.toArray) w.heap.size 34 (F.cells ++ G.cells) := hDU11.setRowOther _ (by omega)
          have hBs : Below w.heap.size w (U11.setRow a7 F2.cells.toArray) := below_setRow hBU11 (by omega) _
          have hA2 : CellsAt (U11.setRow a7 F2.cells.toArray) a7 30 F2.cells := hAU11.setRow _
          have hC2 : CellsAt (U11.setRow a7 F2.cells.toArray) c10 30 fr00.cells := hCU11.setRowOther _ (by omega)
          replace hS := kS _ hDs
          refine hK.out _ _ (fun _ => hS) ?_
          clear hK K
          refine wpAnyG_one (i := 9) rfl (by kernel_rfl) (by kernel_rfl) (fun K hK => ?_)
          refine wp_stvG 30 _ _ rfl _ rfl rfl hC2 iK2 (by rw [hk2]; rfl) ho2 ?_
          refine hK.out _ _ (fun h => absurd (show true = false from h) (by decide)) ?_
          clear hK K
          refine wpAnyG_done (by kernel_rfl) ?_ _
          exact ⟨a7, c10, rfl, below_setRow hBs (by omega) _, hA2.setRowOther _ (by omega), hC2.setRow _⟩
      · skip
        go_simp
        have hBU12 := hBU1.alloc hBU1.size (.cells Z 30)
        have hDU12 := hDU1.alloc (.cells Z 30)
        have hNU12 := HZ.out U1
        have hlU12 := hDU1.lt
        replace hS := kS _ hDU12
        refine hK.out _ _ (fun _ => hS) ?_
        clear hK K
        obtain ⟨U12, hUU12⟩ : ∃ q, U1.alloc (.cells Z 30) = q := ⟨_, rfl⟩
        obtain ⟨c12, hgU12⟩ : ∃ q, U1.heap.size = q := ⟨_, rfl⟩
        rw [hUU12] at hBU12 hDU12 hNU12
        rw [hgU12] at hNU12 hlU12
        rw [hUU12, hgU12]
        have hCU12 := hNU12
        clear hNU12 hUU12 hgU12
        refine wpAnyG_two (i := 5) (j := 6) rfl rfl (by kernel_rfl) (by kernel_rfl) (by kernel_rfl) (fun K hK => ?_) (fun K hK => ?_)
        · skip
          go_wp2_with (go_at_call 5; refine (hf2 _ hBU12).mono ?_; rintro e U13 ⟨rfl, hbU13⟩)
          have hBU13 := hBU12.trans (hbU13.mono hBU12.size)
          have hDU13 := hDU12.afar hbU13
          have hzU13 := hbU13.size
          have hCU13 := hCU12.afar hbU13
          replace hS := kS _ hDU13
          refine hK.out _ _ (fun _ => hS) ?_
          clear hK K
          refine wpAnyG_one (i := 6) rfl (by kernel_rfl) (by kernel_rfl) (fun K hK => ?_)
          go_simp
          have hBU14 := hBU13.alloc hBU13.size (.cells Z 30)
          have hDU14 := hDU13.alloc (.cells Z 30)
          have hNU14 := HZ.out U13
          have hlU14 := hDU13.lt
          have hCU14 := hCU13.alloc (.cells Z 30)
          have hmU14 := hCU13.lt
          replace hS := kS _ hDU14
          refine hK.out _ _ (fun _ => hS) ?_
          clear hK K
          obtain ⟨U14, hUU14⟩ : ∃ q, U13.alloc (.cells Z 30) = q := ⟨_, rfl⟩
          obtain ⟨a14, hgU14⟩ : ∃ q, U13.heap.size = q := ⟨_, rfl⟩
          rw [hUU14] at hBU14 hDU14 hNU14 hCU14
          rw [hgU14] at hNU14 hlU14 hmU14
          rw [hUU14, hgU14]
          have hAU14 := hNU14
          clear hNU14 hUU14 hgU14
          refine wpAnyG_one (i := 8) rfl (by kernel_rfl) (by kernel_rfl) (fun K hK => ?_)
          refine wp_stvG 30 _ _ rfl _ rfl rfl hAU14 iF2 (by rw [hq2]; rfl) ho1 ?_
          have hDs : CellsAt (U14.setRow a14 F2.cells.toArray) w.heap.size 34 (F.cells ++ G.cells) := hDU14.setRowOther _ (by omega)
          have hBs : Below w.heap.size w (U14.setRow a14 F2.cells.toArray) := below_setRow hBU14 (by omega) _
          have hA2 : CellsAt (U14.setRow a14 F2.cells.toArray) a14 30 F2.cells := hAU14.setRow _
          have hC2 : CellsAt (U14.setRow a14 F2.cells.toArray) c12 30 fr00.cells := hCU14.setRowOther _ (by omega)
          replace hS := kS _ hDs
          refine hK.out _ _ (fun _ => hS) ?_
          clear hK K
          refine wpAnyG_one (i := 9) rfl (by kernel_rfl) (by kernel_rfl) (fun K hK => ?_)
          refine wp_stvG 30 _ _ rfl _ rfl rfl hC2 iK2 (by rw [hk2]; rfl) ho2 ?_
          refine hK.out _ _ (fun h => absurd (show true = false from h) (by decide)) ?_
          clear hK K
          refine wpAnyG_done (by kernel_rfl) ?_ _
          exact ⟨a14, c12, rfl, below_setRow hBs (by omega) _, hA2.setRowOther _ (by omega), hC2.setRow _⟩
        · skip
          go_simp
          have hBU15 := hBU12.alloc hBU12.size (.cells Z 30)
          have hDU15 := hDU12.alloc (.cells Z 30)
          have hNU15 := HZ.out U12
          have hlU15 := hDU12.lt
          have hCU15 := hCU12.alloc (.cells Z 30)
          have hmU15 := hCU12.lt
          replace hS := kS _ hDU15
          refine hK.out _ _ (fun _ => hS) ?_
          clear hK K
          obtain ⟨U15, hUU15⟩ : ∃ q, U12.alloc (.cells Z 30) = q := ⟨_, rfl⟩
          obtain ⟨a15, hgU15⟩ : ∃ q, U12.heap.size = q := ⟨_, rfl⟩
          rw [hUU15] at hBU15 hDU15 hNU15 hCU15
          rw [hgU15] at hNU15 hlU15 hmU15
          rw [hUU15, hgU15]
          have hAU15 := hNU15
          clear hNU15 hUU15 hgU15
          refine wpAnyG_one (i := 5) rfl (by kernel_rfl) (by kernel_rfl) (fun K hK => ?_)
          go_wp2_with (go_at_call 5; refine (hf2 _ hBU15).mono ?_; rintro e U16 ⟨rfl, hbU16⟩)
          have hBU16 := hBU15.trans (hbU16.mono hBU15.size)
          have hDU16 := hDU15.afar hbU16
          have hzU16 := hbU16.size
          have hAU16 := hAU15.afar hbU16
          have hCU16 := hCU15.afar hbU16
          replace hS := kS _ hDU16
          refine hK.out _ _ (fun _ => hS) ?_
          clear hK K
          refine wpAnyG_one (i := 8) rfl (by kernel_rfl) (by kernel_rfl) (fun K hK => ?_)
          refine wp_stvG 30 _ _ rfl _ rfl rfl hAU16 iF2 (by rw [hq2]; rfl) ho1 ?_
          have hDs : CellsAt (U16.setRow a15 F2.cells.toArray) w.heap.size 34 (F.cells ++ G.cells) := hDU16.setRowOther _ (by omega)
          have hBs : Below w.heap.size w (U16.setRow a15 F2.cells.toArray) := below_setRow hBU16 (by omega) _
          have hA2 : CellsAt (U16.setRow a15 F2.cells.toArray) a15 30 F2.cells := hAU16.setRow _
          have hC2 : CellsAt (U16.setRow a15 F2.cells.toArray) c12 30 fr00.cells := hCU16.setRowOther _ (by omega)
          replace hS := kS _ hDs
          refine hK.out _ _ (fun _ => hS) ?_
          clear hK K
          refine wpAnyG_one (i := 9) rfl (by kernel_rfl) (by kernel_rfl) (fun K hK => ?_)
          refine wp_stvG 30 _ _ rfl _ rfl rfl hC2 iK2 (by rw [hk2]; rfl) ho2 ?_
          refine hK.out _ _ (fun h => absurd (show true = false from h) (by decide)) ?_
          clear hK K
          refine wpAnyG_done (by kernel_rfl) ?_ _
          exact ⟨a15, c12, rfl, below_setRow hBs (by omega) _, hA2.setRowOther _ (by omega), hC2.setRow _⟩
    · skip
      go_simp
      have hBU17 := hBD0.alloc hBD0.size (.cells Z 30)
      have hDU17 := hDD0.alloc (.cells Z 30)
      have hNU17 := HZ.out D0
      have hlU17 := hDD0.lt
      replace hS := kS _ hDU17
      refine hK.out _ _ (fun _ => hS) ?_
      clear hK K
      obtain ⟨U17, hUU17⟩ : ∃ q, D0.alloc (.cells Z 30) = q := ⟨_, rfl⟩
      obtain ⟨a17, hgU17⟩ : ∃ q, D0.heap.size = q := ⟨_, rfl⟩
      rw [hUU17] at hBU17 hDU17 hNU17
      rw [hgU17] at hNU17 hlU17
      rw [hUU17, hgU17]
      have hAU17 := hNU17
      clear hNU17 hUU17 hgU17
      refine wpAnyG_two (i := 2) (j := 7) rfl rfl (by kernel_rfl) (by kernel_rfl) (by kernel_rfl) (fun K hK => ?_) (fun K hK => ?_)
      · skip
        go_wp2_with (go_at_call 5; refine (hf1 _ hBU17).mono ?_; rintro e U18 ⟨rfl, hbU18⟩)
        have hBU18 := hBU17.trans (hbU18.mono hBU17.size)
        have hDU18 := hDU17.afar hbU18
        have hzU18 := hbU18.size
        have hAU18 := hAU17.afar hbU18
        replace hS := kS _ hDU18
        refine hK.out _ _ (fun _ => hS) ?_
        clear hK K
        refine wpAnyG_two (i := 5) (j := 7) rfl rfl (by kernel_rfl) (by kernel_rfl) (by kernel_rfl) (fun K hK => ?_) (fun K hK => ?_)
        · skip
          go_wp2_with (go_at_call 5; refine (hf2 _ hBU18).mono ?_; rintro e U19 ⟨rfl, hbU19⟩)
          have hBU19 := hBU18.trans (hbU19.mono hBU18.size)
          have hDU19 := hDU18.afar hbU19
          have hzU19 := hbU19.size
          have hAU19 := hAU18.afar hbU19
          replace hS := kS _ hDU19
          refine hK.out _ _ (fun _ => hS) ?_
          clear hK K
          refine wpAnyG_one (i := 7) rfl (by kernel_rfl) (by kernel_rfl) (fun K hK => ?_)
          go_simp
          have hBU20 := hBU19.alloc hBU19.size (.cells Z 30)
          have hDU20 := hDU19.alloc (.cells Z 30)
          have hNU20 := HZ.out U19
          have hlU20 := hDU19.lt
          have hAU20 := hAU19.alloc (.cells Z 30)
          have hmU20 := hAU19.lt
          replace hS := kS _ hDU20
          refine hK.out _ _ (fun _ => hS) ?_
          clear hK K
          obtain ⟨U20, hUU20⟩ : ∃ q, U19.alloc (.cells Z 30) = q := ⟨_, rfl⟩
          obtain ⟨c20, hgU20⟩ : ∃ q, U19.heap.size = q := ⟨_, rfl⟩
          rw [hUU20] at hBU20 hDU20 hNU20 hAU20
          rw [hgU20] at hNU20 hlU20 hmU20
          rw [hUU20, hgU20]
          have hCU20 := hNU20
          clear hNU20 hUU20 hgU20
          refine wpAnyG_one (i := 8) rfl (by kernel_rfl) (by kernel_rfl) (fun K hK => ?_)
          refine wp_stvG 30 _ _ rfl _ rfl rfl hAU20 iF2 (by rw [hq2]; rfl) ho1 ?_
          have hDs : CellsAt (U20.setRow a17 F2.cells.toArray) w.heap.size 34 (F.cells ++ G.cells) := hDU20.setRowOther _ (by omega)
          have hBs : Below w.heap.size w (U20.setRow a17 F2.cells.toArray) := below_setRow hBU20 (by omega) _
          have hA2 : CellsAt (U20.setRow a17 F2.cells.toArray) a17 30 F2.cells := hAU20.setRow _
          have hC2 : CellsAt (U20.setRow a17 F2.cells.toArray) c20 30 fr00.cells := hCU20.setRowOther _ (by omega)
          replace hS := kS _ hDs
          refine hK.out _ _ (fun _ => hS) ?_
          clear hK K
          refine wpAnyG_one (i := 9) rfl (by kernel_rfl) (by kernel_rfl) (fun K hK => ?_)
          refine wp_stvG 30 _ _ rfl _ rfl rfl hC2 iK2 (by rw [hk2]; rfl) ho2 ?_
          refine hK.out _ _ (fun h => absurd (show true = false from h) (by decide)) ?_
          clear hK K
          refine wpAnyG_done (by kernel_rfl) ?_ _
          exact ⟨a17, c20, rfl, below_setRow hBs (by omega) _, hA2.setRowOther _ (by omega), hC2.setRow _⟩
        · skip
          go_simp
          have hBU21 := hBU18.alloc hBU18.size (.cells Z 30)
          have hDU21 := hDU18.alloc (.cells Z 30)
          have hNU21 := HZ.out U18
          have hlU21 := hDU18.lt
          have hAU21 := hAU18.alloc (.cells Z 30)
          have hmU21 := hAU18.lt
          replace hS := kS _ hDU21
          refine hK.out _ _ (fun _ => hS) ?_
          clear hK K
          obtain ⟨U21, hUU21⟩ : ∃ q, U18.alloc (.cells Z 30) = q := ⟨_, rfl⟩
          obtain ⟨c21, hgU21⟩ : ∃ q, U18.heap.size = q := ⟨_, rfl⟩
          rw [hUU21] at hBU21 hDU21 hNU21 hAU21
          rw [hgU21] at hNU21 hlU21 hmU21
          rw [hUU21, hgU21]
          have hCU21 := hNU21
          clear hNU21 hUU21 hgU21
          refine wpAnyG_one (i := 5) rfl (by kernel_rfl) (by kernel_rfl) (fun K hK => ?_)
          go_wp2_with (go_at_call 5; refine (hf2 _ hBU21).mono ?_; rintro e U22 ⟨rfl, hbU22⟩)
          have hBU22 := hBU21.trans (hbU22.mono hBU21.size)
          have hDU22 := hDU21.afar hbU22
          have hzU22 := hbU22.size
          have hAU22 := hAU21.afar hbU22
          have hCU22 := hCU21.afar hbU22
          replace hS := kS _ hDU22
          refine hK.out _ _ (fun _ => hS) ?_
          clear hK K
          refine wpAnyG_one (i := 8) rfl (by kernel_rfl) (by kernel_rfl) (fun K hK => ?_)
          refine wp_stvG 30 _ _ rfl _ rfl rfl hAU22 iF2 (by rw [hq2]; rfl) ho1 ?_
          have hDs : CellsAt (U22.setRow a17 F2.cells.toArray) w.heap.size 34 (F.cells ++ G.cells) := hDU22.setRowOther _ (by omega)
          have hBs : Below w.heap.size w (U22.setRow a17 F2.cells.toArray) := below_setRow hBU22 (by omega) _
          have hA2 : CellsAt (U22.setRow a17 F2.cells.toArray) a17 30 F2.cells := hAU22.setRow _
          have hC2 : CellsAt (U22.setRow a17 F2.cells.toArray) c21 30 fr00.cells := hCU22.setRowOther _ (by omega)
          replace hS := kS _ hDs
          refine hK.out _ _ (fun _ => hS) ?_
          clear hK K
          refine wpAnyG_one (i := 9) rfl (by kernel_rfl) (by kernel_rfl) (fun K hK => ?_)
          refine wp_stvG 30 _ _ rfl _ rfl rfl hC2 iK2 (by rw [hk2]; rfl) ho2 ?_
          refine hK.out _ _ (fun h => absurd (show true = false from h) (by decide)) ?_
          clear hK K
          refine wpAnyG_done (by kernel_rfl) ?_ _
          exact ⟨a17, c21, rfl, below_setRow hBs (by omega) _, hA2.setRowOther _ (by omega), hC2.setRow _⟩
      · skip
        go_simp
        have hBU23 := hBU17.alloc hBU17.size (.cells Z 30)
        have hDU23 := hDU17.alloc (.cells Z 30)
        have hNU23 := HZ.out U17
        have hlU23 := hDU17.lt
        have hAU23 := hAU17.alloc (.cells Z 30)
        have hmU23 := hAU17.lt
        replace hS := kS _ hDU23
        refine hK.out _ _ (fun _ => hS) ?_
        clear hK K
        obtain ⟨U23, hUU23⟩ : ∃ q, U17.alloc (.cells Z 30) = q := ⟨_, rfl⟩
        obtain ⟨c23, hgU23⟩ : ∃ q, U17.heap.size = q := ⟨_, rfl⟩
        rw [hUU23] at hBU23 hDU23 hNU23 hAU23
        rw [hgU23] at hNU23 hlU23 hmU23
        rw [hUU23, hgU23]
        have hCU23 := hNU23
        clear hNU23 hUU23 hgU23
        refine wpAnyG_one (i := 2) rfl (by kernel_rfl) (by kernel_rfl) (fun K hK => ?_)
        go_wp2_with (go_at_call 5; refine (hf1 _ hBU23).mono ?_; rintro e U24 ⟨rfl, hbU24⟩)
        have hBU24 := hBU23.trans (hbU24.mono hBU23.size)
        have hDU24 := hDU23.afar hbU24
        have hzU24 := hbU24.size
        have hAU24 := hAU23.afar hbU24
        have hCU24 := hCU23.afar hbU24
        replace hS := kS _ hDU24
        refine hK.out _ _ (fun _ => hS) ?_
        clear hK K
        refine wpAnyG_one (i := 5) rfl (by kernel_rfl) (by kernel_rfl) (fun K hK => ?_)
        go_wp2_with (go_at_call 5; refine (hf2 _ hBU24).mono ?_; rintro e U25 ⟨rfl, hbU25⟩)
        have hBU25 := hBU24.trans (hbU25.mono hBU24.size)
        have hDU25 := hDU24.afar hbU25
        have hzU25 := hbU25.size
        have hAU25 := hAU24.afar hbU25
        have hCU25 := hCU24.afar hbU25
        replace hS := kS _ hDU25
        refine hK.out _ _ (fun _ => hS) ?_
        clear hK K
        refine wpAnyG_one (i := 8) rfl (by kernel_rfl) (by kernel_rfl) (fun K hK => ?_)
        refine wp_stvG 30 _ _ rfl _ rfl rfl hAU25 iF2 (by rw [hq2]; rfl) ho1 ?_
        have hDs : CellsAt (U25.setRow a17 F2.cells.toArray) w.heap.size 34 (F.cells ++ G.cells) := hDU25.setRowOther _ (by omega)
        have hBs : Below w.heap.size w (U25.setRow a17 F2.cells.toArray) := below_setRow hBU25 (by omega) _
        have hA2 : CellsAt (U25.setRow a17 F2.cells.toArray) a17 30 F2.cells := hAU25.setRow _
        have hC2 : CellsAt (U25.setRow a17 F2.cells.toArray) c23 30 fr00.cells := hCU25.setRowOther _ (by omega)
        replace hS := kS _ hDs
        refine hK.out _ _ (fun _ => hS) ?_
        clear hK K
        refine wpAnyG_one (i := 9) rfl (by kernel_rfl) (by kernel_rfl) (fun K hK => ?_)
        refine wp_stvG 30 _ _ rfl _ rfl rfl hC2 iK2 (by rw [hk2]; rfl) ho2 ?_
        refine hK.out _ _ (fun h => absurd (show true = false from h) (by decide)) ?_
        clear hK K
        refine wpAnyG_done (by kernel_rfl) ?_ _
        exact ⟨a17, c23, rfl, below_setRow hBs (by omega) _, hA2.setRowOther _ (by omega), hC2.setRow _⟩
    · skip
      go_simp
      have hBU26 := hBD0.alloc hBD0.size (.cells Z 30)
      have hDU26 := hDD0.alloc (.cells Z 30)
      have hNU26 := HZ.out D0
      have hlU26 := hDD0.lt
      replace hS := kS _ hDU26
      refine hK.out _ _ (fun _ => hS) ?_
      clear hK K
      obtain ⟨U26, hUU26⟩ : ∃ q, D0.alloc (.cells Z 30) = q := ⟨_, rfl⟩
      obtain ⟨c26, hgU26⟩ : ∃ q, D0.heap.size = q := ⟨_, rfl⟩
      rw [hUU26] at hBU26 hDU26 hNU26
      rw [hgU26] at hNU26 hlU26
      rw [hUU26, hgU26]
      have hCU26 := hNU26
      clear hNU26 hUU26 hgU26
      refine wpAnyG_two (i := 2) (j := 6) rfl rfl (by kernel_rfl) (by kernel_rfl) (by kernel_rfl) (fun K hK => ?_) (fun K hK => ?_)
      · skip
        go_wp2_with (go_at_call 5; refine (hf1 _ hBU26).mono ?_; rintro e U27 ⟨rfl, hbU27⟩)
        have hBU27 := hBU26.trans (hbU27.mono hBU26.size)
        have hDU27 := hDU26.afar hbU27
        have hzU27 := hbU27.size
        have hCU27 := hCU26.afar hbU27
        replace hS := kS _ hDU27
        refine hK.out _ _ (fun _ => hS) ?_
        clear hK K
        refine wpAnyG_two (i := 5) (j := 6) rfl rfl (by kernel_rfl) (by kernel_rfl) (by kernel_rfl) (fun K hK => ?_) (fun K hK => ?_)
        · skip
          go_wp2_with (go_at_call 5; refine (hf2 _ hBU27).mono ?_; rintro e U28 ⟨rfl, hbU28⟩)
          have hBU28 := hBU27.trans (hbU28.mono hBU27.size)
          have hDU28 := hDU27.afar hbU28
          have hzU28 := hbU28.size
          have hCU28 := hCU27.afar hbU28
          replace hS := kS _ hDU28
          refine hK.out _ _ (fun _ => hS) ?_
          clear hK K
          refine wpAnyG_one (i := 6) rfl (by kernel_rfl) (by kernel_rfl) (fun K hK => ?_)
          go_simp
          have hBU29 := hBU28.alloc hBU28.size (.cells Z 30)
          have hDU29 := hDU28.alloc (.cells Z 30)
          have hNU29 := HZ.out U28
          have hlU29 := hDU28.lt
          have hCU29 := hCU28.alloc (.cells Z 30)
          have hmU29 := hCU28.lt
          replace hS := kS _ hDU29
          refine hK.out _ _ (fun _ => hS) ?_
          clear hK K
          obtain ⟨U29, hUU29⟩ : ∃ q, U28.alloc (.cells Z 30) = q := ⟨_, rfl⟩
          obtain ⟨a29, hgU29⟩ : ∃ q, U28.heap.size = q := ⟨_, rfl⟩
          rw [hUU29] at hBU29 hDU29 hNU29 hCU29
          rw [hgU29] at hNU29 hlU29 hmU29
          rw [hUU29, hgU29]
          have hAU29 := hNU29
          clear hNU29 hUU29 hgU29
          refine wpAnyG_one (i := 8) rfl (by kernel_rfl) (by kernel_rfl) (fun K hK => ?_)
          refine wp_stvG 30 _ _ rfl _ rfl rfl hAU29 iF2 (by rw [hq2]; rfl) ho1 ?_
          have hDs : CellsAt (U29.setRow a29 F2.cells.toArray) w.heap.size 34 (F.cells ++ G.cells) := hDU29.setRowOther _ (by omega)
          have hBs : Below w.heap.size w (U29.setRow a29 F2.cells.toArray) := below_setRow hBU29 (by omega) _
          have hA2 : CellsAt (U29.setRow a29 F2.cells.toArray) a29 30 F2.cells := hAU29.setRow _
          have hC2 : CellsAt (U29.setRow a29 F2.cells.toArray) c26 30 fr00.cells := hCU29.setRowOther _ (by omega)
          replace hS := kS _ hDs
          refine hK.out _ _ (fun _ => hS) ?_
          clear hK K
          refine wpAnyG_one (i := 9) rfl (by kernel_rfl) (by kernel_rfl) (fun K hK => ?_)
          refine wp_stvG 30 _ _ rfl _ rfl rfl hC2 iK2 (by rw [hk2]; rfl) ho2 ?_
          refine hK.out _ _ (fun h => absurd (show true = false from h) (by decide)) ?_
          clear hK K
          refine wpAnyG_done (by kernel_rfl) ?_ _
          exact ⟨a29, c26, rfl, below_setRow hBs (by omega) _, hA2.setRowOther _ (by omega), hC2.setRow _⟩
        · skip
          go_simp
          have hBU30 := hBU27.alloc hBU27.size (.cells Z 30)
          have hDU30 := hDU27.alloc (.cells Z 30)
          have hNU30 := HZ.out U27
          have hlU30 := hDU27.lt
          have hCU30 := hCU27.alloc (.cells Z 30)
          have hmU30 := hCU27.lt
          replace hS := kS _ hDU30
          refine hK.out _ _ (fun _ => hS) ?_
          clear hK K
          obtain ⟨U30, hUU30⟩ : ∃ q, U27.alloc (.cells Z 30) = q := ⟨_, rfl⟩
          obtain ⟨a30, hgU30⟩ : ∃ q, U27.heap.size = q := ⟨_, rfl⟩
          rw [hUU30] at hBU30 hDU30 hNU30 hCU30
          rw [hgU30] at hNU30 hlU30 hmU30
          rw [hUU30, hgU30]
          have hAU30 := hNU30
          clear hNU30 hUU30 hgU30
          refine wpAnyG_one (i := 5) rfl (by kernel_rfl) (by kernel_rfl) (fun K hK => ?_)
          go_wp2_with (go_at_call 5; refine (hf2 _ hBU30).mono ?_; rintro e U31 ⟨rfl, hbU31⟩)
          have hBU31 := hBU30.trans (hbU31.mono hBU30.size)
          have hDU31 := hDU30.afar hbU31
          have hzU31 := hbU31.size
          have hAU31 := hAU30.afar hbU31
          have hCU31 := hCU30.afar hbU31
          replace hS := kS _ hDU31
          refine hK.out _ _ (fun _ => hS) ?_
          clear hK K
          refine wpAnyG_one (i := 8) rfl (by kernel_rfl) (by kernel_rfl) (fun K hK => ?_)
          refine wp_stvG 30 _ _ rfl _ rfl rfl hAU31 iF2 (by rw [hq2]; rfl) ho1 ?_
          have hDs : CellsAt (U31.setRow a30 F2.cells.toArray) w.heap.size 34 (F.cells ++ G.cells) := hDU31.setRowOther _ (by omega)
          have hBs : Below w.heap.size w (U31.setRow a30 F2.cells.toArray) := below_setRow hBU31 (by omega) _
          have hA2 : CellsAt (U31.setRow a30 F2.cells.toArray) a30 30 F2.cells := hAU31.setRow _
          have hC2 : CellsAt (U31.setRow a30 F2.cells.toArray) c26 30 fr00.cells := hCU31.setRowOther _ (by omega)
          replace hS := kS _ hDs
          refine hK.out _ _ (fun _ => hS) ?_
          clear hK K
          refine wpAnyG_one (i := 9) rfl (by kernel_rfl) (by kernel_rfl) (fun K hK => ?_)
          refine wp_stvG 30 _ _ rfl _ rfl rfl hC2 iK2 (by rw [hk2]; rfl) ho2 ?_
          refine hK.out _ _ (fun h => absurd (show true = false from h) (by decide)) ?_
          clear hK K
          refine wpAnyG_done (by kernel_rfl) ?_ _
          exact ⟨a30, c26, rfl, below_setRow hBs (by omega) _, hA2.setRowOther _ (by omega), hC2.setRow _⟩
      · skip
        go_simp
        have hBU32 := hBU26.alloc hBU26.size (.cells Z 30)
        have hDU32 := hDU26.alloc (.cells Z 30)
        have hNU32 := HZ.out U26
        have hlU32 := hDU26.lt
        have hCU32 := hCU26.alloc (.cells Z 30)
        have hmU32 := hCU26.lt
        replace hS := kS _ hDU32
        refine hK.out _ _ (fun _ => hS) ?_
        clear hK K
        obtain ⟨U32, hUU32⟩ : ∃ q, U26.alloc (.cells Z 30) = q := ⟨_, rfl⟩
        obtain ⟨a32, hgU32⟩ : ∃ q, U26.heap.size = q := ⟨_, rfl⟩
        rw [hUU32] at hBU32 hDU32 hNU32 hCU32
        rw [hgU32] at hNU32 hlU32 hmU32
        rw [hUU32, hgU32]
        have hAU32 := hNU32
        clear hNU32 hUU32 hgU32
        refine wpAnyG_one (i := 2) rfl (by kernel_rfl) (by kernel_rfl) (fun K hK => ?_)
        go_wp2_with (go_at_call 5; refine (hf1 _ hBU32).mono ?_; rintro e U33 ⟨rfl, hbU33⟩)
        have hBU33 := hBU32.trans (hbU33.mono hBU32.size)
        have hDU33 := hDU32.afar hbU33
        have hzU33 := hbU33.size
        have hAU33 := hAU32.afar hbU33
        have hCU33 := hCU32.afar hbU33
        replace hS := kS _ hDU33
        refine hK.out _ _ (fun _ => hS) ?_
        clear hK K
        refine wpAnyG_one (i := 5) rfl (by kernel_rfl) (by kernel_rfl) (fun K hK => ?_)
        go_wp2_with (go_at_call 5; refine (hf2 _ hBU33).mono ?_; rintro e U34 ⟨rfl, hbU34⟩)
        have hBU34 := hBU33.trans (hbU34.mono hBU33.size)
        have hDU34 := hDU33.afar hbU34
        have hzU34 := hbU34.size
        have hAU34 := hAU33.afar hbU34
        have hCU34 := hCU33.afar hbU34
        replace hS := kS _ hDU34
        refine hK.out _ _ (fun _ => hS) ?_
        clear hK K
        refine wpAnyG_one (i := 8) rfl (by kernel_rfl) (by kernel_rfl) (fun K hK => ?_)
        refine wp_stvG 30 _ _ rfl _ rfl rfl hAU34 iF2 (by rw [hq2]; rfl) ho1 ?_
        have hDs : CellsAt (U34.setRow a32 F2.cells.toArray) w.heap.size 34 (F.cells ++ G.cells) := hDU34.setRowOther _ (by omega)
        have hBs : Below w.heap.size w (U34.setRow a32 F2.cells.toArray) := below_setRow hBU34 (by omega) _
        have hA2 : CellsAt (U34.setRow a32 F2.cells.toArray) a32 30 F2.cells := hAU34.setRow _
        have hC2 : CellsAt (U34.setRow a32 F2.cells.toArray) c26 30 fr00.cells := hCU34.setRowOther _ (by omega)
        replace hS := kS _ hDs
        refine hK.out _ _ (fun _ => hS) ?_
        clear hK K
        refine wpAnyG_one (i := 9) rfl (by kernel_rfl) (by kernel_rfl) (fun K hK => ?_)
        refine wp_stvG 30 _ _ rfl _ rfl rfl hC2 iK2 (by rw [hk2]; rfl) ho2 ?_
        refine hK.out _ _ (fun h => absurd (show true = false from h) (by decide)) ?_
        clear hK K
        refine wpAnyG_done (by kernel_rfl) ?_ _
        exact ⟨a32, c26, rfl, below_setRow hBs (by omega) _, hA2.setRowOther _ (by omega), hC2.setRow _⟩

  rintro a U ⟨G1, G2, rfl, hB3, hC1, hC2⟩
  clear hB2 hD2 kS hf1 hf2 hzv hz1 HZ ho1 ho2
  have kL := HL.out
  have c1 : U.cell? ⟨G1, 36, none⟩ = some (.slice xw m1 cw) := by rw [hC1.cell]; exact HQW.out.1
  have c2 : U.cell? ⟨G1, 37, none⟩ = some (.slice xd m2 cd) := by rw [hC1.cell]; exact HQW.out.2.1
  have c3 : U.cell? ⟨G2, 36, none⟩ = some (.slice yw m3 dw) := by rw [hC2.cell]; exact HQW.out.2.2.1
  have c4 : U.cell? ⟨G2, 37, none⟩ = some (.slice yd m4 dd) := by rw [hC2.cell]; exact HQW.out.2.2.2
  obtain ⟨k1, k2, k3, k4, k5, k6, k7, k8⟩ := kL
  by_cases hq1 : m1 = m3
  · by_cases hq2' : m2 = m4
    · subst hq1 hq2'
      have hn1 : B1.length = B2.length := by rw [HS1.out, HS2.out]
      have hn2 : O1.length = O2.length := by rw [HT1.out, HT2.out]
      obtain ⟨FE, hFE⟩ : ∃ q, frE m1 m2 = q := ⟨_, rfl⟩
      rw [hFE] at hr1 hr2
      clear hFE
      go_upto_region 10 with fail
      clear c1 c2 c3 c4 k1 k2 k3 k4 k5 k6 k7 k8
      have rE := hC1.whole
      go_upto_region 11 with (first
        | (refine wpList_ldv rfl 30 _ rfl _ _ rfl F2.cells rE uF rfl iF2 ?_)
        | (go_at_call 11; refine (hr1 _ hB3).mono ?_; rintro e w4 ⟨x4, n4, c4, rfl, hy4, hb4⟩))
      have hB4 := hB3.trans (hb4.mono hB3.size)
      have hC14 := hC1.afar hb4
      have hC24 := hC2.afar hb4
      have hn4 := hy4.len_eq
      rw [hn1] at hn4
      have HN4 : Veil (n4 = B2.length) := ⟨hn4⟩
      clear hn4
      have hle4 := hy4.le
      have htp4 := hy4.top
      clear rE hB3 hC1 hC2 hb4 hr1 hy4
      have rE := hC24.whole
      go_upto_region 12 with (first
        | (refine wpList_ldv rfl 30 _ rfl _ _ rfl K2.cells rE uF rfl iK2 ?_)
        | (go_at_call 11; refine (hr2 _ hB4).mono ?_; rintro e w5 ⟨x5, n5, c5, rfl, hy5, hb5⟩))
      have hB5 := hB4.trans (hb5.mono hB4.size)
      have hC15 := hC14.afar hb5
      have hC25 := hC24.afar hb5
      have hn5 := hy5.len_eq
      rw [← HN4.out] at hn5
      subst hn5
      have hle5 := hy5.le
      have htp5 := hy5.top
      have keep : ∀ w', Below w5.heap.size w5 w' → w'.rangeAt G1 0 F2.cells ∧ w'.rangeAt G2 0 K2.cells := fun w' hb => ⟨(hC15.afar hb).whole, (hC25.afar hb).whole⟩
      clear rE hB4 hC14 hC24 hb5 hr2 hy5 hC15 hC25 HN4 hn1
      refine wp_region_gate (fun w' => w'.rangeAt G1 0 F2.cells ∧ w'.rangeAt G2 0 K2.cells) 22 (by kernel_rfl) ?_
      refine wpAnyG_one (i := 0) rfl (by kernel_rfl) (by kernel_rfl) (fun K hK => ?_)
      go_wp2_with (go_at_call 6; refine (hlv _ hB5.drew).mono ?_; rintro e w6 ⟨rfl, hb6⟩)
      have hb56 : Below w5.heap.size w5 w6 := ((Below.refl _ _).drew).trans hb6
      have hB6 := hB5.trans (hb56.mono hB5.size)
      have hS := keep _ hb56
      clear hb6 hlv
      refine hK.out _ _ (fun _ => hS) ?_
      clear hK K
      refine wpAnyG_any (i := 1) (v := ?_) rfl (by kernel_rfl) (by kernel_rfl) (by kernel_rfl) (fun _ _ _ h => h) (by kernel_rfl) (fun _ => hS) (by kernel_rfl) ?_ ?_
      rotate_left
      · intro _; go_simp; try with_reducible rfl
      simp only [Act.put, List.setIfInBounds_toArray, List.set_cons_zero, List.set_cons_succ]
      refine wpAnyG_any (i := 2) (v := ?_) rfl (by kernel_rfl) (by kernel_rfl) (by kernel_rfl) (fun _ _ _ h => h) (by kernel_rfl) (fun _ => hS) (by kernel_rfl) ?_ ?_
      rotate_left
      · intro _; go_simp; try with_reducible rfl
      simp only [Act.put, List.setIfInBounds_toArray, List.set_cons_zero, List.set_cons_succ]
      refine wpAnyG_any (i := 3) (v := ?_) rfl (by kernel_rfl) (by kernel_rfl) (by kernel_rfl) (fun _ _ _ h => h) (by kernel_rfl) (fun _ => hS) (by kernel_rfl) ?_ ?_
      rotate_left
      · intro _; go_simp; try with_reducible rfl
      simp only [Act.put, List.setIfInBounds_toArray, List.set_cons_zero, List.set_cons_succ]
      refine wpAnyG_any (i := 4) (v := .bool true) rfl (by kernel_rfl) (by kernel_rfl) (by kernel_rfl) (fun _ _ _ h => h) (by kernel_rfl) (fun _ => hS) (by kernel_rfl) ?_ ?_
      · intro _; go_simp
      simp only [Act.put, List.setIfInBounds_toArray, List.set_cons_zero, List.set_cons_succ]
      refine wpAnyG_any (i := 5) (v := .bool true) rfl (by kernel_rfl) (by kernel_rfl) (by kernel_rfl) (fun _ _ _ h => h) (by kernel_rfl) (fun _ => hS) (by kernel_rfl) ?_ ?_
      · intro _; go_simp
      simp only [Act.put, List.setIfInBounds_toArray, List.set_cons_zero, List.set_cons_succ]
      refine wpAnyG_any (i := 6) (v := .bool true) rfl (by kernel_rfl) (by kernel_rfl) (by kernel_rfl) (fun _ _ _ h => h) (by kernel_rfl) (fun _ => hS) (by kernel_rfl) ?_ ?_
      · intro _; go_simp
      simp only [Act.put, List.setIfInBounds_toArray, List.set_cons_zero, List.set_cons_succ]
      refine wpAnyG_any (i := 7) (v := ?_) rfl (by kernel_rfl) (by kernel_rfl) (by kernel_rfl) (fun _ _ _ h => h) (by kernel_rfl) (fun _ => hS) (by kernel_rfl) ?_ ?_
      rotate_left
      · intro _; go_simp; try with_reducible rfl
      simp only [Act.put, List.setIfInBounds_toArray, List.set_cons_zero, List.set_cons_succ]
      refine wpAnyG_any (i := 8) (v := ?_) rfl (by kernel_rfl) (by kernel_rfl) (by kernel_rfl) (fun _ _ _ h => h) (by kernel_rfl) (fun _ => hS) (by kernel_rfl) ?_ ?_
      rotate_left
      · intro _; go_simp; try with_reducible rfl
      simp only [Act.put, List.setIfInBounds_toArray, List.set_cons_zero, List.set_cons_succ]
      refine wpAnyG_any (i := 9) (v := ?_) rfl (by kernel_rfl) (by kernel_rfl) (by kernel_rfl) (fun _ _ _ h => h) (by kernel_rfl) (fun _ => hS) (by kernel_rfl) ?_ ?_
      rotate_left
      · intro _; go_simp; try with_reducible rfl
      simp only [Act.put, List.setIfInBounds_toArray, List.set_cons_zero, List.set_cons_succ]
      refine wpAnyG_any (i := 10) (v := ?_) rfl (by kernel_rfl) (by kernel_rfl) (by kernel_rfl) (fun _ _ _ h => h) (by kernel_rfl) (fun _ => hS) (by kernel_rfl) ?_ ?_
      rotate_left
      · intro _; go_simp; try with_reducible rfl
      simp only [Act.put, List.setIfInBounds_toArray, List.set_cons_zero, List.set_cons_succ]
      refine wpAnyG_any (i := 11) (v := .bool true) rfl (by kernel_rfl) (by kernel_rfl) (by kernel_rfl) (fun _ _ _ h => h) (by kernel_rfl) (fun _ => hS) (by kernel_rfl) ?_ ?_
      · intro _; go_simp
      simp only [Act.put, List.setIfInBounds_toArray, List.set_cons_zero, List.set_cons_succ]
      refine wpAnyG_any (i := 12) (v := .bool true) rfl (by kernel_rfl) (by kernel_rfl) (by kernel_rfl) (fun _ _ _ h => h) (by kernel_rfl) (fun _ => hS) (by kernel_rfl) ?_ ?_
      · intro _; go_simp
      simp only [Act.put, List.setIfInBounds_toArray, List.set_cons_zero, List.set_cons_succ]
      refine wpAnyG_any (i := 13) (v := .bool true) rfl (by kernel_rfl) (by kernel_rfl) (by kernel_rfl) (fun _ _ _ h => h) (by kernel_rfl) (fun _ => hS) (by kernel_rfl) ?_ ?_
      · intro _; go_simp
      simp only [Act.put, List.setIfInBounds_toArray, List.set_cons_zero, List.set_cons_succ]
      refine wpAnyG_load (i := 14) (dst := some 102) (ty := 30) (x := .tmp 11) (b := G1) (o := (0)) (cs := (F2.cells)) (by kernel_rfl) (by kernel_rfl) (by kernel_rfl) (by kernel_rfl) (by kernel_rfl) (fun _ _ _ h => h) (by kernel_rfl) (by kernel_rfl) (by kernel_rfl) hS (by kernel_rfl) (fun _ h => h.1) uF rfl iF2 ?_
      simp only [Act.put, List.setIfInBounds_toArray, List.set_cons_zero, List.set_cons_succ]
      refine wpAnyG_load (i := 17) (dst := some 105) (ty := 30) (x := .tmp 12) (b := G2) (o := (0)) (cs := (K2.cells)) (by kernel_rfl) (by kernel_rfl) (by kernel_rfl) (by kernel_rfl) (by kernel_rfl) (fun _ _ _ h => h) (by kernel_rfl) (by kernel_rfl) (by kernel_rfl) hS (by kernel_rfl) (fun _ h => h.2) uF rfl iK2 ?_
      simp only [Act.put, List.setIfInBounds_toArray, List.set_cons_zero, List.set_cons_succ]
      refine wpAnyG_one (i := 15) rfl (by kernel_rfl) (by kernel_rfl) (fun K hK => ?_)
      go_wp2_with (go_at_call 12; refine (hv1 _ hB6).mono ?_; rintro e w7 ⟨x7, n7, c7, rfl, hy7, hb7⟩)
      have hb57 := hb56.trans (hb7.mono hb56.size)
      have hB7 := hB6.trans (hb7.mono hB6.size)
      have hn7 := hy7.len_eq
      rw [hn2] at hn7
      have HN7 : Veil (n7 = O2.length) := ⟨hn7⟩
      clear hn7
      have hle7 := hy7.le
      have htp7 := hy7.top
      replace hS := keep _ hb57
      clear hy7
      refine hK.out _ _ (fun _ => hS) ?_
      clear hK K
      refine wpAnyG_any (i := 16) (v := ?_) rfl (by kernel_rfl) (by kernel_rfl) (by kernel_rfl) (fun _ _ _ h => h) (by kernel_rfl) (fun _ => hS) (by kernel_rfl) ?_ ?_
      rotate_left
      · intro _; go_simp; try with_reducible rfl
      simp only [Act.put, List.setIfInBounds_toArray, List.set_cons_zero, List.set_cons_succ]
      refine wpAnyG_one (i := 18) rfl (by kernel_rfl) (by kernel_rfl) (fun K hK => ?_)
      go_wp2_with (go_at_call 12; refine (hv2 _ hB7).mono ?_; rintro e w8 ⟨x8, n8, c8, rfl, hy8, hb8⟩)
      have hn8 := hy8.len_eq
      rw [← HN7.out] at hn8
      subst hn8
      have hle8 := hy8.le
      have htp8 := hy8.top
      have hb58 := hb57.trans (hb8.mono hb57.size)
      replace hS := keep _ hb58
      clear hy8
      refine hK.out _ _ (fun _ => hS) ?_
      clear hK K
      refine wpAnyG_any (i := 19) (v := ?_) rfl (by kernel_rfl) (by kernel_rfl) (by kernel_rfl) (fun _ _ _ h => h) (by kernel_rfl) (fun _ => hS) (by kernel_rfl) ?_ ?_
      rotate_left
      · intro _; go_simp; try with_reducible rfl
      simp only [Act.put, List.setIfInBounds_toArray, List.set_cons_zero, List.set_cons_succ]
      refine wpAnyG_any (i := 20) (v := .bool true) rfl (by kernel_rfl) (by kernel_rfl) (by kernel_rfl) (fun _ _ _ h => h) (by kernel_rfl) (fun _ => hS) (by kernel_rfl) ?_ ?_
      · intro _; go_simp
      simp only [Act.put, List.setIfInBounds_toArray, List.set_cons_zero, List.set_cons_succ]
      refine wpAnyG_any (i := 21) (v := .bool true) rfl (by kernel_rfl) (by kernel_rfl) (by kernel_rfl) (fun _ _ _ h => h) (by kernel_rfl) (fun _ => hS) (by kernel_rfl) ?_ ?_
      · intro _; go_simp
      simp only [Act.put, List.setIfInBounds_toArray, List.set_cons_zero, List.set_cons_succ]
      refine wpAnyG_one (i := 22) rfl (by kernel_rfl) (by kernel_rfl) (fun K hK => ?_)
      go_simp
      refine hK.out _ _ (fun h => absurd (show true = false from h) (by decide)) ?_
      clear hK K
      refine wpAnyG_done (by kernel_rfl) ?_ _
      go_wp2
      go_ret
      exact ⟨rfl, hB7.trans (hb8.mono hB7.size)⟩
    · have hq3 : ¬ (m2 : Int) = (m4 : Int) := by omega
      subst hq1
      have hlv' := hlv _ hB3
      clear hr1 hr2 hv1 hv2 hlv
      go_wp2_with (go_at_call 6; refine hlv'.mono ?_; rintro e w4 ⟨rfl, hb4⟩)
      go_ret
      exact ⟨rfl, hB3.trans (hb4.mono hB3.size)⟩
  · have hq3 : ¬ (m1 : Int) = (m3 : Int) := by omega
    have hlv' := hlv _ hB3
    clear hr1 hr2 hv1 hv2 hlv
    go_wp2_with (go_at_call 6; refine hlv'.mono ?_; rintro e w4 ⟨rfl, hb4⟩)
    go_ret
    exact ⟨rfl, hB3.trans (hb4.mono hB3.size)⟩
end Go.Proofs.YtcikbpcahalnnaaDoor
