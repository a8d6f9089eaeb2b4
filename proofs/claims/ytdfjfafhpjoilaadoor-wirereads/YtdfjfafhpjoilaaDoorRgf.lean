/- The readers of wire: a frame, as a whole. -/
import Derived.Test.YtdfjfafhpjoilaaDoorRfr
import Derived.Test.YtdfjfafhpjoilaaDoorRd5
namespace Go.Proofs.YtdfjfafhpjoilaaDoor
open Go.RowKit
set_option maxRecDepth 20000
set_option linter.unusedSimpArgs false

set_option maxHeartbeats 4000000 in
theorem catchF_any (A B : Nat) (v : Value) (C Z : List Value) (hzv : ∀ wx : World, (zeroValue 30).run Tryd.prog wx = .ok (.agg Z.toArray) wx) (_hz1 : ¬ Z.toArray = #[]) (hCZ : C.length = Z.length) (hiZ : (Tryd.prog.info? 30).map (·.size) = some Z.length) (h1Z : ∀ v ∈ Z, v.oneCell' = true) (w : World) (hA : CellsAt w A 30 C) (hB : Box w B 31 v) (hne : A ≠ B) :
    CallsD Tryd.prog 20 #[.pointer (some ⟨A, 0, none⟩), .pointer (some ⟨B, 0, none⟩)] (.panicking [wrongP]) w fun e u' w' =>
      e = .returned (.tuple #[]) ∧ u' = .panicking [{ v := .iface 67 (.agg #[]), recovered := true }] ∧ CellsAt w' A 30 Z ∧ Box w' B 31 (.int .i64 3) ∧ ∀ base, base ≤ A → base ≤ B → base ≤ w.heap.size → Below base w w' := by
  have hta := wrong_asserted
  have hst := wrong_stored
  have hA1 := (hA.alloc (.cells #[] 67)).alloc (.cells Z.toArray 30)
  have hN1 := CellsAt.new (w.alloc (.cells #[] 67)) 30 Z
  rw [World.size_alloc] at hN1
  have hB1 := (hB.alloc (.cells #[] 67)).alloc (.cells Z.toArray 30)
  have hbl : ∀ base, base ≤ w.heap.size → Below base w ((w.alloc (.cells #[] 67)).alloc (.cells Z.toArray 30)) := fun base h => ((Below.refl _ _).alloc h _).alloc (by simp; omega) _
  clear hA hB
  refine callsD_of_wpS Tryd.func20 rfl fun c₀ cs hu => ?_
  apply wpS_seq
  apply wpS_region
  simp [wpOpsS, go_sem, recoverD, hu, wrongP, Tryd.ntmps20, Exit.thenS]
  refine wpS_of_wp ?_
  change Code.wp _ _ _ { tmps := #[.pointer (some ⟨A, 0, none⟩), .pointer (some ⟨B, 0, none⟩), undef, undef, undef, undef, .iface 67 (.agg #[]), undef, undef, undef, undef, undef, undef], defers := [] } _
  go_upto_region 8 with fail
  refine forget (p := fun y => Code.wp _ _ _ _ y) (fun W => CellsAt W A 30 C ∧ CellsAt W (w.heap.size + 1) 30 Z ∧ Box W B 31 v ∧ ∀ base, base ≤ w.heap.size → Below base w W) ⟨hA1, hN1, hB1, hbl⟩ ?_
  clear hA1 hN1 hB1 hbl
  rintro W ⟨hA1, hN1, hB1, hbl⟩
  have rE := hN1.whole2
  have hB2 : Box (W.setRow A Z.toArray) B 31 v := by
    unfold Box at hB1 ⊢
    rw [setRow_other _ _ _ _ (fun e => hne e.symm)]; exact hB1
  have cB := hB2.cell
  have fB := hB2.frozen
  go_wp2_with (first
    | (refine wpList_ldv rfl 30 _ rfl _ _ rfl Z rE Tryd.underlying30 rfl hiZ ?_)
    | (refine wpList_stv rfl 30 _ _ rfl _ rfl rfl hA1 hiZ hCZ h1Z ?_))
  have q1 := (hA1.setRow Z).setOther2 ⟨B, 0, none⟩ (.int .i64 3) (by exact hne)
  have q2 := hB2.set (.int .i64 3)
  have q3 : ∀ base, base ≤ A → base ≤ B → base ≤ w.heap.size → Below base w ((W.setRow A Z.toArray).setCell ⟨B, 0, none⟩ (.int .i64 3)) := fun base h1 h2 h3 => (below_setRow (hbl base h3) h1 _).setCell h2 _
  simp [bodyPostS, results, Tryd.results20]
  exact ⟨q1, q2, q3⟩
set_option maxHeartbeats 2000000 in
theorem catchF_idle (A B : Nat) (w : World) :
    CallsD Tryd.prog 20 #[.pointer (some ⟨A, 0, none⟩), .pointer (some ⟨B, 0, none⟩)] .returning w fun e u' w' => e = .returned (.tuple #[]) ∧ u' = .returning ∧ w' = w := by
  refine callsD_of_wpS Tryd.func20 rfl fun c₀ cs hu => ?_
  apply wpS_seq
  apply wpS_region
  simp [wpOpsS, go_sem, recoverD, hu, Tryd.ntmps20, Exit.thenS]
  refine wpS_of_wp ?_
  change Code.wp _ _ _ { tmps := #[.pointer (some ⟨A, 0, none⟩), .pointer (some ⟨B, 0, none⟩), undef, undef, undef, undef, .nilIface, undef, undef, undef, undef, undef, undef], defers := [] } _
  go_wp2
  cases c₀
  simp_all [bodyPostS, results, Tryd.results20]
theorem results_fr {fn : Func} {p q : Tmp} (h : fn.results = #[.cell p 30, .cell q 31]) (tmps : Array Value) {w : World} {A B : Nat} {C : List Value} {v : Int} (hp : tmps.getD p undef = .pointer (some ⟨A, 0, none⟩)) (hq : tmps.getD q undef = .pointer (some ⟨B, 0, none⟩)) (hA : CellsAt w A 30 C) (hB : Box w B 31 (.int .i64 v)) (hi : (Tryd.prog.info? 30).map (·.size) = some C.length) :
    (results fn tmps).run Tryd.prog w = .ok (.tuple #[.agg C.toArray, .int .i64 v]) w := by
  have hp' : tmps[p]?.getD undef = .pointer (some ⟨A, 0, none⟩) := by simpa using hp
  have hq' : tmps[q]?.getD undef = .pointer (some ⟨B, 0, none⟩) := by simpa using hq
  have hc := hB.cell
  have hl := run_loadVar_row w A 30 30 C.toArray (0, 0) _ hA Tryd.underlying30 rfl (by rw [hi]; simp)
  have hlB : (loadVar 31 ⟨B, 0, none⟩).run Tryd.prog w = .ok (.int .i64 v) w := by simp [go_sem, hc]
  simp [results, h, hp', hq', asAddr, hl, hlB]
theorem results_frt {fn : Func} {p q : Tmp} (h : fn.results = #[.cell p 30, .tmp q]) (tmps : Array Value) {w : World} {A : Nat} {C : List Value} {v : Value} (hp : tmps.getD p undef = .pointer (some ⟨A, 0, none⟩)) (hq : tmps.getD q undef = v) (hA : CellsAt w A 30 C) (hi : (Tryd.prog.info? 30).map (·.size) = some C.length) :
    (results fn tmps).run Tryd.prog w = .ok (.tuple #[.agg C.toArray, v]) w := by
  have hp' : tmps[p]?.getD undef = .pointer (some ⟨A, 0, none⟩) := by simpa using hp
  have hq' : tmps[q]?.getD undef = v := by simpa using hq
  have hl := run_loadVar_row w A 30 30 C.toArray (0, 0) _ hA Tryd.underlying30 rfl (by rw [hi]; simp)
  simp [results, h, hp', hq', asAddr, hl]
/-- Bytes that are a frame's, all of them. -/
def frameAll (z : List Int) : Prop := frameOk z ∧ z.length = fO z + 32
theorem frOf_len (z : List Int) (h : frameOk z) (wv bv : Value) : (frOf z wv bv).prev.length = 32 ∧ (frOf z wv bv).mac.length = 32 := by
  have h1 : 45 ≤ z.length := h.2.2.1.1
  have h2 := h.2.2.2.2
  constructor
  · show ((z.drop 12).take 32).length = 32
    rw [List.length_take, List.length_drop]; omega
  · show ((z.drop (fO z)).take 32).length = 32
    rw [List.length_take, List.length_drop]; omega
set_option maxHeartbeats 8000000 in
theorem readF_any (x : Option Addr) (n c : Nat) (z : List Int) (w : World) (hb : Bytes w x n c z) (hz : ∀ v ∈ z, b8 v) :
    Calls Tryd.prog 10 #[.slice x n c, .func (.func 11) #[] #[]] w fun e w' =>
      (frameAll z ∧ ∃ G y m d, e = .returned (.tuple #[.agg (frOf z (.slice (some ⟨G, 0, none⟩) (fN z) (fN z)) (.slice y m d)).cells.toArray, .int .i64 0]) ∧ CellsAt w' G 52 (wpsC (wsOf z)) ∧ OwnB w' w.heap.size (.slice y m d) (boOf z) ∧ Below w.heap.size w w') ∨ (¬ frameAll z ∧ e = .returned (.tuple #[.agg frZ.cells.toArray, .int .i64 3]) ∧ Below w.heap.size w w') := by
  have hmf := make_func
  obtain ⟨Z, hzv, hz1, hZ⟩ := zeroFrL
  have hiZ : (Tryd.prog.info? 30).map (·.size) = some Z.length := by rw [hZ, fr_len frZ rfl rfl]; exact sizeFrame
  have h1Z : ∀ v ∈ Z, v.oneCell' = true := by rw [hZ]; exact fr_one frZ none none 0 0 0 0 rfl rfl
  rw [← hZ]
  have hA0 : CellsAt ((w.alloc (.cells Z.toArray 30)).alloc (.cells #[.int .i64 0] 31)) w.heap.size 30 Z := (CellsAt.new w 30 Z).alloc _
  have hB0 : Box ((w.alloc (.cells Z.toArray 30)).alloc (.cells #[.int .i64 0] 31)) (w.heap.size + 1) 31 (.int .i64 0) := by
    have : Box ((w.alloc (.cells Z.toArray 30)).alloc (.cells #[.int .i64 0] 31)) (w.alloc (.cells Z.toArray 30)).heap.size 31 (.int .i64 0) := heap_alloc_new _ _
    rw [World.size_alloc] at this
    exact this
  have hW0 : Below w.heap.size w ((w.alloc (.cells Z.toArray 30)).alloc (.cells #[.int .i64 0] 31)) := ((Below.refl _ _).alloc (Nat.le_refl _) _).alloc (by simp) _
  have hs0 : ((w.alloc (.cells Z.toArray 30)).alloc (.cells #[.int .i64 0] 31)).heap.size = w.heap.size + 2 := by simp
  have hpd := fun W1 (hR1 : Rd W1 (w.heap.size + 2) w.heap.size z) => rframe_any (w.heap.size + 2) w.heap.size z W1 hR1 hz
  have HFL : Veil (∀ wv bv, frameOk z → (frOf z wv bv).prev.length = 32 ∧ (frOf z wv bv).mac.length = 32) := ⟨fun wv bv h => frOf_len z h wv bv⟩
  have HZL : Veil (Z.length = 70) := ⟨by rw [hZ, fr_len frZ rfl rfl]⟩
  have HDL : Veil ((z.drop (fO z + 32)).length = z.length - (fO z + 32)) := ⟨List.length_drop⟩
  have HALL : Veil (frameAll z ↔ frameOk z ∧ z.length = fO z + 32) := ⟨Iff.rfl⟩
  have HOL : Veil (frameOk z → fO z + 32 ≤ z.length) := ⟨fun h => h.2.2.2.2⟩
  obtain ⟨FR, hFR⟩ : ∃ q, frOf z = q := ⟨_, rfl⟩
  have HFRE : Veil (frOf z = FR) := ⟨hFR⟩
  obtain ⟨WS, hWS⟩ : ∃ q, wpsC (wsOf z) = q := ⟨_, rfl⟩
  obtain ⟨BO, hBO⟩ : ∃ q, boOf z = q := ⟨_, rfl⟩
  obtain ⟨N, hN⟩ : ∃ q, fN z = q := ⟨_, rfl⟩
  obtain ⟨E, hE⟩ : ∃ q, fO z + 32 = q := ⟨_, rfl⟩
  obtain ⟨zl, hzl⟩ : ∃ q, z.length = q := ⟨_, rfl⟩
  obtain ⟨OK, hOK⟩ : ∃ q, frameOk z = q := ⟨_, rfl⟩
  obtain ⟨ALL, hALL⟩ : ∃ q, frameAll z = q := ⟨_, rfl⟩
  rw [hFR, hWS, hBO, hN, hE, hOK] at hpd
  rw [hFR, hOK] at HFL
  rw [hE, hzl] at HDL
  rw [hALL, hOK, hE, hzl] at HALL
  rw [hOK, hE, hzl] at HOL
  rw [hFR, hWS, hBO, hN, hALL]
  clear hFR hWS hBO hN hE hzl hOK hALL hz hZ
  go_enter_defers Tryd.func10, Tryd.ntmps10
  go_upto_region 2 with fail
  refine forget (p := fun y => Code.wp _ _ _ _ y) (fun W0 => Below w.heap.size w W0 ∧ W0.heap.size = w.heap.size + 2 ∧ CellsAt W0 w.heap.size 30 Z ∧ Box W0 (w.heap.size + 1) 31 (.int .i64 0)) ⟨hW0, hs0, hA0, hB0⟩ ?_
  clear hW0 hs0 hA0 hB0 hmf
  rintro W0 ⟨hW0, hs0, hA0, hB0⟩
  have hRx : Box (W0.alloc (.cells #[.slice x n c] 71)) (w.heap.size + 2) 71 (.slice x n c) := by
    have : Box (W0.alloc (.cells #[.slice x n c] 71)) W0.heap.size 71 (.slice x n c) := heap_alloc_new _ _
    rw [hs0] at this
    exact this
  have hR1 : Rd (W0.alloc (.cells #[.slice x n c] 71)) (w.heap.size + 2) w.heap.size z := ⟨by omega, x, n, c, hRx, fun wx hx => hb.below ((hW0.alloc hW0.size _).trans hx)⟩
  have hA1 := hA0.alloc (.cells #[.slice x n c] 71)
  have hB1 := hB0.alloc (.cells #[.slice x n c] 71)
  have hW1 := hW0.alloc hW0.size (.cells #[.slice x n c] 71)
  go_upto_region 3 with fail
  refine forget (p := fun y => Code.wp _ _ _ _ y) (fun W1 => Below w.heap.size w W1 ∧ Rd W1 (w.heap.size + 2) w.heap.size z ∧ CellsAt W1 w.heap.size 30 Z ∧ Box W1 (w.heap.size + 1) 31 (.int .i64 0)) ⟨hW1, hR1, hA1, hB1⟩ ?_
  clear hW1 hR1 hA1 hB1 hRx hW0 hs0 hA0 hB0
  rintro W1 ⟨hW1, hR1, hA1, hB1⟩
  have hrd := hpd W1 hR1
  have hszW := hR1.lt
  have keep : ∀ w', Took W1 w' (w.heap.size + 2) w.heap.size → CellsAt w' w.heap.size 30 Z ∧ Box w' (w.heap.size + 1) 31 (.int .i64 0) := fun w' ht => by
    have l2 := hB1.lt
    refine ⟨hA1.took ht (by omega), ?_⟩
    unfold Box at hB1 ⊢
    rw [ht.kept _ l2 (by omega)]; exact hB1
  clear hb hR1 hpd
  by_cases hO : OK
  · have h1 : Calls Tryd.prog 11 #[.pointer (some ⟨w.heap.size + 2, 0, none⟩)] W1 fun e w' => ∃ G y m d, e = .returned (.agg (FR (.slice (some ⟨G, 0, none⟩) N N) (.slice y m d)).cells.toArray) ∧ w.heap.size + 2 < G ∧ CellsAt w' G 52 WS ∧ OwnB w' w.heap.size (.slice y m d) BO ∧ Rd w' (w.heap.size + 2) w.heap.size (z.drop E) ∧ Took W1 w' (w.heap.size + 2) w.heap.size := hrd.mono fun e w' h => by
      rcases h with ⟨_, G, y, m, d, h1, h2, h3, h4, h5, h6⟩ | ⟨h, _⟩
      · exact ⟨G, y, m, d, h1, by omega, h3, h4.lessG (by omega), h5, h6⟩
      · exact absurd hO h
    have HO : Veil OK := ⟨hO⟩
    have HU : Veil (∀ wv bv, (Tryd.prog.info? 30).map (·.size) = some (FR wv bv).cells.length ∧ Z.length = (FR wv bv).cells.length) := ⟨fun wv bv => by
      have := HFL.out wv bv HO.out
      rw [fr_len _ this.1 this.2]
      exact ⟨sizeFrame, HZL.out⟩⟩
    have HU1 : Veil (∀ (a : Option Addr) (l k : Nat) (b : Option Addr) (o p : Nat), (FR (.slice a l k) (.slice b o p)).wraps = .slice a l k ∧ (FR (.slice a l k) (.slice b o p)).body = .slice b o p) := ⟨fun a l k b o p => by rw [← HFRE.out]; exact ⟨rfl, rfl⟩⟩
    clear hrd hA1 hB1 hO HFL
    go_upto_region 4 with (first
      | (go_at_call 11; refine h1.mono ?_; rintro e w2 ⟨G, y, m, d, rfl, hG, hC2, hO2, hR2, ht2⟩; obtain ⟨hiU, hlU⟩ := HU.out (.slice (some ⟨G, 0, none⟩) N N) (.slice y m d); have h1U := fr_one (FR (.slice (some ⟨G, 0, none⟩) N N) (.slice y m d)) _ _ _ _ _ _ (HU1.out (some ⟨G, 0, none⟩) N N y m d).1 (HU1.out (some ⟨G, 0, none⟩) N N y m d).2; obtain ⟨U, hU⟩ : ∃ q, (FR (.slice (some ⟨G, 0, none⟩) N N) (.slice y m d)).cells = q := ⟨_, rfl⟩; rw [hU] at hiU hlU h1U ⊢; have hk2 := keep _ ht2; have hk21 := hk2.1)
      | (refine wpList_stv rfl 30 _ _ rfl _ rfl rfl hk21 hiU hlU h1U ?_))
    have HUE : Veil ((FR (.slice (some ⟨G, 0, none⟩) N N) (.slice y m d)).cells = U) := ⟨hU⟩
    have hW2 := hW1.trans ht2.below
    obtain ⟨xr, nr, cr, hbr, hyr⟩ := hR2.has
    have hyr0 := hyr w2 (Below.refl _ _)
    have hnr := hyr0.len_eq
    have hler := hyr0.le
    have htpr := hyr0.top
    have HNR : Veil (nr = zl - E) := ⟨by rw [hnr, HDL.out]⟩
    have hA3 := hk2.1.setRow U
    have hB3 : Box (w2.setRow w.heap.size U.toArray) (w.heap.size + 1) 31 (.int .i64 0) := by
      have := hk2.2
      unfold Box at this ⊢
      rw [setRow_other _ _ _ _ (by omega)]; exact this
    have hR3 : Box (w2.setRow w.heap.size U.toArray) (w.heap.size + 2) 71 (.slice xr nr cr) := by
      unfold Box at hbr ⊢
      rw [setRow_other _ _ _ _ (by omega)]; exact hbr
    have hO3 : OwnB (w2.setRow w.heap.size U.toArray) w.heap.size (.slice y m d) BO := hO2.keepF hk2.1 (by decide) (fun g hg => setRow_other w2 w.heap.size g _ hg)
    have HUZ : Veil (U.length = Z.length) := ⟨hlU.symm⟩
    refine forget (p := fun y => Code.wp _ _ _ _ y) (fun W3 => Below w.heap.size w W3 ∧ CellsAt W3 w.heap.size 30 U ∧ Box W3 (w.heap.size + 1) 31 (.int .i64 0) ∧ Box W3 (w.heap.size + 2) 71 (.slice xr nr cr) ∧ CellsAt W3 G 52 WS ∧ OwnB W3 w.heap.size (.slice y m d) BO) ⟨below_setRow hW2 (Nat.le_refl _) _, hA3, hB3, hR3, hC2.setRowOther2 _ (by omega), hO3⟩ ?_
    clear hA3 hB3 hR3 hW2 hk2 hk21 ht2 hR2 hbr hyr hyr0 h1 keep hW1 hnr hlU hO2 hO3 hC2 hU hszW
    rintro W3 ⟨hW3, hA3, hB3, hR3, hC3, hO3⟩
    have cR := hR3.cell
    have hEl := HOL.out HO.out
    by_cases h0 : nr = 0
    · have HALL1 : Veil ALL := ⟨HALL.out.2 ⟨HO.out, by have := HNR.out; omega⟩⟩
      subst h0
      have hnd := need_ok W3
      have rU := hA3.whole2
      clear HNR hEl
      go_upto_region 5 with (go_at_call 21; refine hnd.mono ?_; rintro e w4 ⟨⟨r4, rfl⟩, rfl⟩)
      have hB4 : Box (W3.setRow w.heap.size U.toArray) (w.heap.size + 1) 31 (.int .i64 0) := by
        unfold Box at hB3 ⊢
        rw [setRow_other _ _ _ _ (by omega)]; exact hB3
      have hA4 := hA3.setRow U
      have cB := hB4.cell
      have fB := hB4.frozen
      go_wp2_with (first
        | (refine wpList_ldv rfl 30 _ rfl _ _ rfl U rU Tryd.underlying30 rfl hiU ?_)
        | (refine wpList_stv rfl 30 _ _ rfl _ rfl rfl hA3 hiU rfl h1U ?_))
      refine leaves_cons (f := 20) (args := #[.pointer (some ⟨w.heap.size, 0, none⟩), .pointer (some ⟨w.heap.size + 1, 0, none⟩)]) (by simp) (by simp [go_sem]) ?_
      refine (catchF_idle w.heap.size (w.heap.size + 1) _).mono ?_
      rintro e u' w'' ⟨rfl, rfl, rfl⟩
      have hA5 := hA4.setOther2 ⟨w.heap.size + 1, 0, none⟩ (.int .i64 0) (by show w.heap.size ≠ w.heap.size + 1; omega)
      have hB5 := hB4.set (.int .i64 0)
      have hC5 := (hC3.setRowOther2 U.toArray (show G ≠ w.heap.size by omega)).setOther2 ⟨w.heap.size + 1, 0, none⟩ (.int .i64 0) (by show G ≠ w.heap.size + 1; omega)
      have hO5 : OwnB ((W3.setRow w.heap.size U.toArray).setCell ⟨w.heap.size + 1, 0, none⟩ (.int .i64 0)) w.heap.size (.slice y m d) BO := (hO3.keepF hA3 (by decide) (fun g hg => setRow_other W3 w.heap.size g _ hg)).setBox hB4 (by decide) _
      have hW5 : Below w.heap.size w ((W3.setRow w.heap.size U.toArray).setCell ⟨w.heap.size + 1, 0, none⟩ (.int .i64 0)) := (below_setRow hW3 (Nat.le_refl _) _).setCell (by show w.heap.size ≤ w.heap.size + 1; omega) _
      exact ⟨_, results_fr Tryd.results10 _ rfl rfl hA5 hB5 hiU, .inl ⟨HALL1.out, G, y, m, d, by rw [HUE.out], hC5, hO5, hW5⟩⟩
    · have HALL1 : Veil (¬ ALL) := ⟨fun h => h0 (by have := HNR.out; have := (HALL.out.1 h).2; omega)⟩
      have hnd := need_bad W3
      have hnb : ((nr : Int) == 0) = false := by simp; omega
      clear HNR hEl
      go_upto_region 5 with (go_at_call 21; refine hnd.mono ?_; rintro e w4 ⟨rfl, rfl⟩)
      refine leaves_cons (f := 20) (args := #[.pointer (some ⟨w.heap.size, 0, none⟩), .pointer (some ⟨w.heap.size + 1, 0, none⟩)]) (by simp) (by simp [go_sem]) ?_
      refine (catchF_any w.heap.size (w.heap.size + 1) _ U Z hzv hz1 HUZ.out hiZ h1Z W3 hA3 hB3 (by omega)).mono ?_
      rintro e u' w'' ⟨rfl, rfl, hA5, hB5, hbl⟩
      exact ⟨_, results_fr Tryd.results10 _ rfl rfl hA5 hB5 hiZ, .inr ⟨HALL1.out, rfl, hW3.trans (hbl w.heap.size (Nat.le_refl _) (by omega) hW3.size)⟩⟩
  · have h1 : Calls Tryd.prog 11 #[.pointer (some ⟨w.heap.size + 2, 0, none⟩)] W1 fun e w' => e = .panicked [wrongP] ∧ Took W1 w' (w.heap.size + 2) w.heap.size := hrd.mono fun e w' h => by
      rcases h with ⟨h, _⟩ | ⟨_, h1, h2⟩
      · exact absurd h hO
      · exact ⟨h1, h2⟩
    have HALL1 : Veil (¬ ALL) := ⟨fun h => hO (HALL.out.1 h).1⟩
    clear hrd hO hA1 hB1
    go_upto_region 4 with (go_at_call 11; refine h1.mono ?_; rintro e w2 ⟨rfl, ht2⟩)
    have hk2 := keep _ ht2
    have hW2 := hW1.trans ht2.below
    refine leaves_cons (f := 20) (args := #[.pointer (some ⟨w.heap.size, 0, none⟩), .pointer (some ⟨w.heap.size + 1, 0, none⟩)]) (by simp) (by simp [go_sem]) ?_
    refine (catchF_any w.heap.size (w.heap.size + 1) _ Z Z hzv hz1 rfl hiZ h1Z w2 hk2.1 hk2.2 (by omega)).mono ?_
    rintro e u' w'' ⟨rfl, rfl, hA5, hB5, hbl⟩
    exact ⟨_, results_fr Tryd.results10 _ rfl rfl hA5 hB5 hiZ, .inr ⟨HALL1.out, rfl, hW2.trans (hbl w.heap.size (Nat.le_refl _) (by omega) hW2.size)⟩⟩
set_option maxHeartbeats 4000000 in
theorem ReadFrame_any (x : Option Addr) (n c : Nat) (z : List Int) (w : World) (hb : Bytes w x n c z) (hz : ∀ v ∈ z, b8 v) :
    Calls Tryd.prog 4 #[.slice x n c] w fun e w' =>
      (frameAll z ∧ ∃ G y m d, e = .returned (.tuple #[.agg (frOf z (.slice (some ⟨G, 0, none⟩) (fN z) (fN z)) (.slice y m d)).cells.toArray, .int .i64 0]) ∧ CellsAt w' G 52 (wpsC (wsOf z)) ∧ OwnB w' w.heap.size (.slice y m d) (boOf z) ∧ Below w.heap.size w w') ∨ (¬ frameAll z ∧ e = .returned (.tuple #[.agg frZ.cells.toArray, .int .i64 3]) ∧ Below w.heap.size w w') := by
  obtain ⟨Z, hzv, hz1, hZ⟩ := zeroFrL
  have hG0 := CellsAt.new w 30 Z
  have hB0 : Below w.heap.size w (w.alloc (.cells Z.toArray 30)) := (Below.refl _ _).alloc (Nat.le_refl _) _
  have hrd := fun wx (h : Below w.heap.size w wx) => readF_any x n c z wx (hb.below h) hz
  have HFL : Veil (∀ wv bv, frameAll z → (frOf z wv bv).cells.length = 70) := ⟨fun wv bv h => by have := frOf_len z h.1 wv bv; exact fr_len _ this.1 this.2⟩
  have HZL : Veil (Z.length = 70) := ⟨by rw [hZ, fr_len frZ rfl rfl]⟩
  have HFZ : Veil (frZ.cells = Z) := ⟨hZ.symm⟩
  have HZ1 : Veil (∀ v ∈ frZ.cells, v.oneCell' = true) := ⟨fr_one frZ none none 0 0 0 0 rfl rfl⟩
  have HU1 : Veil (∀ (a : Option Addr) (l k : Nat) (b : Option Addr) (o p : Nat), ∀ v ∈ (frOf z (.slice a l k) (.slice b o p)).cells, v.oneCell' = true) := ⟨fun a l k b o p => fr_one _ a b l k o p rfl rfl⟩
  obtain ⟨FR, hFR⟩ : ∃ q, frOf z = q := ⟨_, rfl⟩
  obtain ⟨WS, hWS⟩ : ∃ q, wpsC (wsOf z) = q := ⟨_, rfl⟩
  obtain ⟨BO, hBO⟩ : ∃ q, boOf z = q := ⟨_, rfl⟩
  obtain ⟨N, hN⟩ : ∃ q, fN z = q := ⟨_, rfl⟩
  obtain ⟨ALL, hALL⟩ : ∃ q, frameAll z = q := ⟨_, rfl⟩
  obtain ⟨ZF, hZF⟩ : ∃ q, frZ.cells = q := ⟨_, rfl⟩
  rw [hFR, hWS, hBO, hN, hALL, hZF] at hrd
  rw [hFR, hALL] at HFL
  rw [hFR] at HU1
  rw [hZF] at HFZ HZ1
  rw [hFR, hWS, hBO, hN, hALL, hZF]
  clear hFR hWS hBO hN hALL hb hz hZ hZF
  go_enter Tryd.func4, Tryd.ntmps4
  go_upto_region 1 with fail
  refine forget (p := fun y => Code.wp _ _ _ _ y) (fun W => Below w.heap.size w W ∧ CellsAt W w.heap.size 30 Z) ⟨hB0, hG0⟩ ?_
  clear hB0 hG0
  rintro W ⟨hB0, hG0⟩
  have hrW := hrd W hB0
  clear hrd
  by_cases hA : ALL
  · have h1 : Calls Tryd.prog 10 #[.slice x n c, .func (.func 11) #[] #[]] W fun e w' => ∃ G y m d, e = .returned (.tuple #[.agg (FR (.slice (some ⟨G, 0, none⟩) N N) (.slice y m d)).cells.toArray, .int .i64 0]) ∧ CellsAt w' G 52 WS ∧ OwnB w' W.heap.size (.slice y m d) BO ∧ Below W.heap.size W w' := hrW.mono fun e w' h => by
      rcases h with ⟨_, h⟩ | ⟨h, _⟩
      · exact h
      · exact absurd hA h
    have HA : Veil ALL := ⟨hA⟩
    have HIU : Veil (∀ wv bv, (Tryd.prog.info? 30).map (·.size) = some (FR wv bv).cells.length ∧ Z.length = (FR wv bv).cells.length) := ⟨fun wv bv => by rw [HFL.out wv bv HA.out]; exact ⟨sizeFrame, HZL.out⟩⟩
    clear hrW hA
    go_wp2_with (first
      | (go_at_call 10; refine h1.mono ?_; rintro e w1 ⟨G, y, m, d, rfl, hC1, hO1, hb1⟩; obtain ⟨hiU, hlU⟩ := HIU.out (.slice (some ⟨G, 0, none⟩) N N) (.slice y m d); have h1U := HU1.out (some ⟨G, 0, none⟩) N N y m d; obtain ⟨U, hU⟩ : ∃ q, (FR (.slice (some ⟨G, 0, none⟩) N N) (.slice y m d)).cells = q := ⟨_, rfl⟩; rw [hU] at hiU hlU h1U ⊢; have hl0 := hG0.lt; have hG1 : CellsAt w1 w.heap.size 30 Z := (by unfold CellsAt at hG0 ⊢; rw [hb1.block _ hl0]; exact hG0))
      | (refine wpList_stv rfl 30 _ _ rfl _ rfl rfl hG1 hiU hlU h1U ?_))
    refine bodyPost_ret (results_frt Tryd.results4 _ rfl rfl (hG1.setRow U) hiU) rfl (.inl ⟨HA.out, G, y, m, d, by rw [hU]; rfl, hC1.setRowOther2 _ (fun e => ?_), (hO1.lessG hB0.size).keepF hG1 (by decide) (fun g hg => setRow_other w1 w.heap.size g _ hg), ?_⟩)
    · have := hG1.typ hC1 e
      revert this; decide
    · exact below_setRow (hB0.trans (hb1.mono hB0.size)) (Nat.le_refl _) _
  · have h1 : Calls Tryd.prog 10 #[.slice x n c, .func (.func 11) #[] #[]] W fun e w' => e = .returned (.tuple #[.agg ZF.toArray, .int .i64 3]) ∧ Below W.heap.size W w' := hrW.mono fun e w' h => by
      rcases h with ⟨h, _⟩ | ⟨_, h⟩
      · exact absurd h hA
      · exact h
    have HA : Veil (¬ ALL) := ⟨hA⟩
    have hlU : Z.length = ZF.length := by rw [HFZ.out]
    have hiU : (Tryd.prog.info? 30).map (·.size) = some ZF.length := by rw [HFZ.out, HZL.out]; exact sizeFrame
    have h1U := HZ1.out
    clear hrW hA
    go_wp2_with (first
      | (go_at_call 10; refine h1.mono ?_; rintro e w1 ⟨rfl, hb1⟩; have hl0 := hG0.lt; have hG1 : CellsAt w1 w.heap.size 30 Z := (by unfold CellsAt at hG0 ⊢; rw [hb1.block _ hl0]; exact hG0))
      | (refine wpList_stv rfl 30 _ _ rfl _ rfl rfl hG1 hiU hlU h1U ?_))
    refine bodyPost_ret (results_frt Tryd.results4 _ rfl rfl (hG1.setRow ZF) hiU) rfl (.inr ⟨HA.out, rfl, ?_⟩)
    exact below_setRow (hB0.trans (hb1.mono hB0.size)) (Nat.le_refl _) _
end Go.Proofs.YtdfjfafhpjoilaaDoor
