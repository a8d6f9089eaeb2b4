/- The readers of wire: a frame. (Written by mkrfr.py.) -/
import Derived.Test.YtdfjfafhpjoilaaDoorRy
import Derived.Test.YtdfjfafhpjoilaaDoorWl
import Derived.Test.YtdfjfafhpjoilaaDoorWf
namespace Go.Proofs.YtdfjfafhpjoilaaDoor
open Go.RowKit
set_option maxRecDepth 20000
set_option linter.unusedSimpArgs false

/-- What bytes say as a frame. -/
def fN (z : List Int) : Nat := (at1 z 44).toNat
def fQ (z : List Int) : Nat := 45 + 54 * fN z
def fM (z : List Int) : Nat := told2 z (fQ z)
def fO (z : List Int) : Nat := fQ z + 2 + fM z
def frOf (z : List Int) (wv bv : Value) : Fr := ⟨at1 z 2, at4 z 3, at1 z 7, at4 z 8, (z.drop 12).take 32, wv, bv, (z.drop (fO z)).take 32⟩
def wsOf (z : List Int) : List Wp := wpsN z 45 (fN z)
def boOf (z : List Int) : List Int := (z.drop (fQ z + 2)).take (fM z)
def frameOk (z : List Int) : Prop := at1 z 0 = 69 ∧ at1 z 1 = 83 ∧ wpsCond z 44 ∧ bodyCond z (fQ z) ∧ fO z + 32 ≤ z.length
theorem frC_dot (a n e s : Int) (p : List Int) (v b : Value) (m : List Int) (e' s' : Int) : ((⟨a, n, e, s, p, v, b, m⟩ : Fr).cells).take 2 ++ dotC e' s' ++ ((⟨a, n, e, s, p, v, b, m⟩ : Fr).cells).drop (2 + (dotC e' s').length) = (⟨a, n, e', s', p, v, b, m⟩ : Fr).cells := rfl
theorem frC_prev (a n e s : Int) (p : List Int) (v b : Value) (m q : List Int) (h : p.length = q.length) : ((⟨a, n, e, s, p, v, b, m⟩ : Fr).cells).take 4 ++ byC q ++ ((⟨a, n, e, s, p, v, b, m⟩ : Fr).cells).drop (4 + (byC q).length) = (⟨a, n, e, s, q, v, b, m⟩ : Fr).cells := by
  have e1 : ((⟨a, n, e, s, p, v, b, m⟩ : Fr).cells).drop (4 + (byC q).length) = [v, b] ++ m.map (Value.int .u8) := by
    have : (⟨a, n, e, s, p, v, b, m⟩ : Fr).cells = ([.int .u8 a, .int .u32 n] ++ dotC e s ++ p.map (Value.int .u8)) ++ ([v, b] ++ m.map (Value.int .u8)) := by unfold Fr.cells; simp only [List.append_assoc]
    rw [this, List.drop_left' (by simp [dotC, byC_length, h]; omega)]
  rw [e1]
  unfold Fr.cells byC
  simp [dotC]
theorem frC_mac (a n e s : Int) (p : List Int) (v b : Value) (m q : List Int) (hp : p.length = 32) (h : m.length = q.length) : ((⟨a, n, e, s, p, v, b, m⟩ : Fr).cells).take 38 ++ byC q ++ ((⟨a, n, e, s, p, v, b, m⟩ : Fr).cells).drop (38 + (byC q).length) = (⟨a, n, e, s, p, v, b, q⟩ : Fr).cells := by
  have e0 : (⟨a, n, e, s, p, v, b, m⟩ : Fr).cells = ([.int .u8 a, .int .u32 n] ++ dotC e s ++ p.map (Value.int .u8) ++ [v, b]) ++ m.map (Value.int .u8) := rfl
  have e1 : ((⟨a, n, e, s, p, v, b, m⟩ : Fr).cells).drop (38 + (byC q).length) = [] := by
    apply List.drop_of_length_le
    rw [e0]; simp [dotC, byC_length, h, hp]; omega
  have e2 : ((⟨a, n, e, s, p, v, b, m⟩ : Fr).cells).take 38 = [.int .u8 a, .int .u32 n] ++ dotC e s ++ p.map (Value.int .u8) ++ [v, b] := by
    rw [e0, List.take_left' (by simp [dotC, hp])]
  rw [e1, e2, List.append_nil]; rfl
theorem OwnB.keepF {w w' : World} {base g0 : Nat} {v : Value} {z : List Int} {t : TypeId} {cs : List Value} (h : OwnB w base v z) (hc : CellsAt w g0 t cs) (ht : t ≠ 5) (hk : ∀ g, g ≠ g0 → w'.heap[g]? = w.heap[g]?) : OwnB w' base v z := h.keepT hc ht hk
theorem OwnB.tookF {w w' : World} {base base' R : Nat} {v u : Value} {z : List Int} (h : OwnB w base v z) (hb : Box w R 71 u) (ht : Took w w' R base') : OwnB w' base v z := by
  refine ⟨h.1, ?_⟩
  rcases h.2 with h' | ⟨g, cap, cur, h1, h2, h3, h4⟩
  · exact .inl h'
  · refine .inr ⟨g, cap, cur, h1, h2, ?_, h4⟩
    rw [ht.kept g (Array.getElem?_eq_some_iff.1 h3).1 (fun e => by
      subst e
      unfold Box at hb
      rw [hb] at h3
      have := Option.some.inj h3
      injection this with _ e2 _
      revert e2; decide)]
    exact h3
theorem CellsAt.typ {w : World} {g g' : Nat} {t t' : TypeId} {cs cs' : List Value} (h : CellsAt w g t cs) (h' : CellsAt w g' t' cs') (e : g' = g) : t = t' := by
  subst e
  unfold CellsAt at h h'
  rw [h] at h'
  have := Option.some.inj h'
  injection this
theorem fr_len (f : Fr) (hp : f.prev.length = 32) (hm : f.mac.length = 32) : f.cells.length = 70 := (fr_parts f hp hm).1
def frZ : Fr := ⟨0, 0, 0, 0, keyZ, .slice none 0 0, .slice none 0 0, keyZ⟩
theorem zeroFrL : ∃ Z : List Value, (∀ wx : World, (zeroValue 30).run Tryd.prog wx = .ok (.agg Z.toArray) wx) ∧ ¬ Z.toArray = #[] ∧ Z = frZ.cells :=
  ⟨fr00.cells, zeroFrame, by intro h; have := congrArg Array.size h; revert this; decide, rfl⟩

set_option maxHeartbeats 8000000 in
theorem rframe_any (R base : Nat) (z : List Int) (w : World) (hR : Rd w R base z) (hz : ∀ v ∈ z, b8 v) :
    Calls Tryd.prog 11 #[.pointer (some ⟨R, 0, none⟩)] w fun e w' =>
      (frameOk z ∧ ∃ G x m c, e = .returned (.agg (frOf z (.slice (some ⟨G, 0, none⟩) (fN z) (fN z)) (.slice x m c)).cells.toArray) ∧ w.heap.size ≤ G ∧ CellsAt w' G 52 (wpsC (wsOf z)) ∧ OwnB w' w.heap.size (.slice x m c) (boOf z) ∧ Rd w' R base (z.drop (fO z + 32)) ∧ Took w w' R base) ∨ (¬ frameOk z ∧ e = .panicked [wrongP] ∧ Took w w' R base) := by
  have hlt := hR.lt
  have hsz := hR.size
  have o0 := fun wx (h : Rd wx R base (z.drop 0)) => rone_at R base z 0 wx h
  have o1 := fun wx (h : Rd wx R base (z.drop 1)) => rone_at R base z 1 wx h
  have o2 := fun wx (h : Rd wx R base (z.drop 2)) => rone_at R base z 2 wx h
  have f3 := fun wx (h : Rd wx R base (z.drop 3)) => rfour_at R base z 3 wx h hz
  have d7 := fun wx (h : Rd wx R base (z.drop 7)) => rdot_at R base z 7 wx h hz
  have k12 := fun wx (h : Rd wx R base (z.drop 12)) => rkey_at R base z 12 wx h
  have w44 := fun wx (h : Rd wx R base (z.drop 44)) => rwraps_at R base z 44 wx h hz
  have bQ := fun wx (h : Rd wx R base (z.drop (fQ z))) => rbody_at R base z (fQ z) wx h hz
  have kO := fun wx (h : Rd wx R base (z.drop (fO z))) => rkey_at R base z (fO z) wx h
  replace w44 : ∀ wx, Rd wx R base (z.drop 44) → Calls Tryd.prog 26 #[.pointer (some ⟨R, 0, none⟩)] wx fun e w' =>
      (wpsCond z 44 ∧ ∃ G, e = .returned (.slice (some ⟨G, 0, none⟩) (fN z) (fN z)) ∧ wx.heap.size ≤ G ∧ CellsAt w' G 52 (wpsC (wsOf z)) ∧ Rd w' R base (z.drop (fQ z)) ∧ Took wx w' R base) ∨ (¬ wpsCond z 44 ∧ e = .panicked [wrongP] ∧ Took wx w' R base) := w44
  replace bQ : ∀ wx, Rd wx R base (z.drop (fQ z)) → Calls Tryd.prog 27 #[.pointer (some ⟨R, 0, none⟩)] wx fun e w' =>
      (bodyCond z (fQ z) ∧ ∃ v, e = .returned v ∧ OwnB w' wx.heap.size v (boOf z) ∧ Rd w' R base (z.drop (fO z)) ∧ Took wx w' R base) ∨ (¬ bodyCond z (fQ z) ∧ e = .panicked [wrongP] ∧ Took wx w' R base) := bQ
  have HOK : Veil (frameOk z ↔ (at1 z 0 = 69 ∧ at1 z 1 = 83 ∧ wpsCond z 44 ∧ bodyCond z (fQ z) ∧ fO z + 32 ≤ z.length)) := ⟨Iff.rfl⟩
  have HW : Veil (wpsCond z 44 → 45 ≤ z.length) := ⟨fun h => h.1⟩
  have HF : Veil (∀ wv bv, frOf z wv bv = ⟨at1 z 2, at4 z 3, at1 z 7, at4 z 8, (z.drop 12).take 32, wv, bv, (z.drop (fO z)).take 32⟩) := ⟨fun _ _ => rfl⟩
  have HLP : Veil (44 ≤ z.length → ((z.drop 12).take 32).length = 32) := ⟨fun h => by rw [List.length_take, List.length_drop]; omega⟩
  have HLM : Veil (fO z + 32 ≤ z.length → ((z.drop (fO z)).take 32).length = 32) := ⟨fun h => by rw [List.length_take, List.length_drop]; omega⟩
  obtain ⟨OK, hOK⟩ : ∃ q, frameOk z = q := ⟨_, rfl⟩
  obtain ⟨WC, hWC⟩ : ∃ q, wpsCond z 44 = q := ⟨_, rfl⟩
  obtain ⟨BC, hBC⟩ : ∃ q, bodyCond z (fQ z) = q := ⟨_, rfl⟩
  rw [hOK, hWC, hBC] at HOK
  rw [hOK]
  rw [hWC] at w44 HW
  rw [hBC] at bQ
  obtain ⟨N, hN⟩ : ∃ q, fN z = q := ⟨_, rfl⟩
  obtain ⟨Q, hQ⟩ : ∃ q, fQ z = q := ⟨_, rfl⟩
  obtain ⟨O, hO⟩ : ∃ q, fO z = q := ⟨_, rfl⟩
  obtain ⟨WS, hWS⟩ : ∃ q, wpsC (wsOf z) = q := ⟨_, rfl⟩
  obtain ⟨BO, hBO⟩ : ∃ q, boOf z = q := ⟨_, rfl⟩
  rw [hN, hWS, hQ] at w44
  rw [hQ, hBO, hO] at bQ
  rw [hO] at kO HOK HF HLM
  rw [hN, hWS, hBO, hO]
  obtain ⟨m0, hm0⟩ : ∃ q, at1 z 0 = q := ⟨_, rfl⟩
  obtain ⟨m1, hm1⟩ : ∃ q, at1 z 1 = q := ⟨_, rfl⟩
  obtain ⟨A, hA⟩ : ∃ q, at1 z 2 = q := ⟨_, rfl⟩
  obtain ⟨NU, hNU⟩ : ∃ q, at4 z 3 = q := ⟨_, rfl⟩
  obtain ⟨EA, hEA⟩ : ∃ q, at1 z 7 = q := ⟨_, rfl⟩
  obtain ⟨ES, hES⟩ : ∃ q, at4 z 8 = q := ⟨_, rfl⟩
  obtain ⟨PV, hPV⟩ : ∃ q, (z.drop 12).take 32 = q := ⟨_, rfl⟩
  obtain ⟨MC, hMC⟩ : ∃ q, (z.drop O).take 32 = q := ⟨_, rfl⟩
  have e71 : at4 z (7 + 1) = ES := hES
  rw [hm0] at o0 HOK
  rw [hm1] at o1 HOK
  rw [hA] at o2 HF
  rw [hNU] at f3 HF
  rw [hEA, e71] at d7
  rw [hEA, hES] at HF
  rw [hPV] at k12 HF HLP
  rw [hMC] at kO HF HLM
  obtain ⟨Z, hzv, hz1, hZ⟩ := zeroFrL
  have HZ : Veil (Z = frZ.cells) := ⟨hZ⟩
  have hG0 := CellsAt.new w 30 Z
  have hR0 : Rd (w.alloc (.cells Z.toArray 30)) R base (z.drop 0) := hR.alloc (.cells Z.toArray 30)
  have hT0 : Took w (w.alloc (.cells Z.toArray 30)) R base := Took.alloc hsz _
  have r3 : R ≠ w.heap.size := by omega
  clear hR hz hOK hWC hBC hN hQ hO hWS hBO hm0 hm1 hA hNU hEA hES hPV hMC e71 hZ
  go_enter Tryd.func11, Tryd.ntmps11
  go_upto_region 1 with fail
  refine forget (p := fun y => Code.wp _ _ _ _ y) (fun W => Rd W R base (z.drop 0) ∧ Took w W R base ∧ CellsAt W w.heap.size 30 Z) ⟨hR0, hT0, hG0⟩ ?_
  clear hR0 hT0 hG0
  rintro W ⟨hR0, hT0, hG0⟩
  have h1W := o0 W hR0
  clear o0
  by_cases kk0 : 0 + 1 ≤ z.length
  rotate_left
  · go_upto_region 2 with (go_at_call 22; refine h1W.mono ?_; rintro e wB (⟨hx, _⟩ | ⟨_, rfl, htB⟩); (exfalso; omega))
    exact bodyPost_gone (.inr ⟨fun h => by have := HW.out (HOK.out.1 h).2.2.1; omega, rfl, hT0.trans htB⟩)
  by_cases km0 : m0 = 69
  rotate_left
  · have hmb : (m0 == 69) = false := by simp [km0]
    have hnd := fun wx => need_bad wx
    have HKM : Veil (¬ m0 = 69) := ⟨km0⟩
    clear km0
    go_upto_region 2 with (first
      | (go_at_call 22; refine h1W.mono ?_; rintro e w1 (⟨_, rfl, hR1, ht1⟩ | ⟨hx, _⟩); rotate_left; (exfalso; omega))
      | (go_at_call 21; refine (hnd _).mono ?_; rintro e w2 ⟨rfl, rfl⟩))
    exact bodyPost_gone (.inr ⟨fun h => HKM.out (HOK.out.1 h).1, rfl, hT0.trans ht1⟩)
  have HM0 : Veil (m0 = 69) := ⟨km0⟩
  rw [km0] at h1W
  clear km0
  have hnd := fun wx => need_ok wx
  go_upto_region 2 with (first
    | (go_at_call 22; refine h1W.mono ?_; rintro e w1 (⟨_, rfl, hR1, ht1⟩ | ⟨hx, _⟩); rotate_left; (exfalso; omega))
    | (go_at_call 21; refine (hnd _).mono ?_; rintro e w2 ⟨⟨r2, rfl⟩, rfl⟩))
  have hH0 := hG0.took ht1 (by omega)
  refine forget (p := fun y => Code.wp _ _ _ _ y) (fun W => Rd W R base (z.drop (0 + 1)) ∧ Took w W R base ∧ CellsAt W w.heap.size 30 Z) ⟨hR1, hT0.trans ht1, hH0⟩ ?_
  clear h1W hnd hR0 hT0 hG0 hR1 ht1 hH0 W
  rintro W ⟨hR0, hT0, hG0⟩
  have h1W := o1 W hR0
  clear o1
  by_cases kk1 : 1 + 1 ≤ z.length
  rotate_left
  · go_upto_region 3 with (go_at_call 22; refine h1W.mono ?_; rintro e wB (⟨hx, _⟩ | ⟨_, rfl, htB⟩); (exfalso; omega))
    exact bodyPost_gone (.inr ⟨fun h => by have := HW.out (HOK.out.1 h).2.2.1; omega, rfl, hT0.trans htB⟩)
  by_cases km1 : m1 = 83
  rotate_left
  · have hmb : (m1 == 83) = false := by simp [km1]
    have hnd := fun wx => need_bad wx
    have HKM : Veil (¬ m1 = 83) := ⟨km1⟩
    clear km1
    go_upto_region 3 with (first
      | (go_at_call 22; refine h1W.mono ?_; rintro e w1 (⟨_, rfl, hR1, ht1⟩ | ⟨hx, _⟩); rotate_left; (exfalso; omega))
      | (go_at_call 21; refine (hnd _).mono ?_; rintro e w2 ⟨rfl, rfl⟩))
    exact bodyPost_gone (.inr ⟨fun h => HKM.out (HOK.out.1 h).2.1, rfl, hT0.trans ht1⟩)
  have HM1 : Veil (m1 = 83) := ⟨km1⟩
  rw [km1] at h1W
  clear km1
  have hnd := fun wx => need_ok wx
  go_upto_region 3 with (first
    | (go_at_call 22; refine h1W.mono ?_; rintro e w1 (⟨_, rfl, hR1, ht1⟩ | ⟨hx, _⟩); rotate_left; (exfalso; omega))
    | (go_at_call 21; refine (hnd _).mono ?_; rintro e w2 ⟨⟨r2, rfl⟩, rfl⟩))
  have hH0 := hG0.took ht1 (by omega)
  refine forget (p := fun y => Code.wp _ _ _ _ y) (fun W => Rd W R base (z.drop (1 + 1)) ∧ Took w W R base ∧ CellsAt W w.heap.size 30 Z) ⟨hR1, hT0.trans ht1, hH0⟩ ?_
  clear h1W hnd hR0 hT0 hG0 hR1 ht1 hH0 W
  rintro W ⟨hR0, hT0, hG0⟩
  have hG1 := CellsAt.new W 30 Z
  have hltW := hG0.lt
  have hRW := hR0.lt
  have hbW := hR0.size
  rw [HZ.out] at hG1
  go_upto_region 4 with fail
  refine forget (p := fun y => Code.wp _ _ _ _ y) (fun U => Rd U R base (z.drop 2) ∧ Took w U R base ∧ CellsAt U w.heap.size 30 Z ∧ CellsAt U W.heap.size 30 frZ.cells) ⟨hR0.alloc _, hT0.trans (Took.alloc hbW _), hG0.alloc _, by rw [HZ.out]; exact hG1⟩ ?_
  obtain ⟨L, hL⟩ : ∃ q, W.heap.size = q := ⟨_, rfl⟩
  have hgeL : w.heap.size < L := by rw [← hL]; exact hltW
  have hbL : base ≤ L := by rw [← hL]; exact hbW
  have hRL : R ≠ L := by omega
  rw [hL]
  clear hR0 hT0 hG0 hG1 hL hltW hRW hbW W
  rintro W ⟨hR0, hT0, hG0, hG1⟩
  have h1W := o2 W hR0
  clear o2
  by_cases kc2 : 2 + 1 ≤ z.length
  rotate_left
  · go_upto_region 5 with (go_at_call 22; refine h1W.mono ?_; rintro e wB (⟨hx, _⟩ | ⟨_, rfl, htB⟩); (exfalso; omega))
    exact bodyPost_gone (.inr ⟨fun h => by have := HW.out (HOK.out.1 h).2.2.1; omega, rfl, hT0.trans htB⟩)
  go_upto_region 5 with (go_at_call 22; refine h1W.mono ?_; rintro e w1 (⟨_, rfl, hR1, ht1⟩ | ⟨hx, _⟩); rotate_left; (exfalso; omega); have hH1 := hG1.took ht1 (by omega); have cj := hH1.cell 0; have fj := hH1.frozen2 0)
  have hH0 := hG0.took ht1 (by omega)
  have hH2 := hH1.set2 0 (.int .u8 A)
  refine forget (p := fun y => Code.wp _ _ _ _ y) (fun W => Rd W R base (z.drop (2 + 1)) ∧ Took w W R base ∧ CellsAt W w.heap.size 30 Z ∧ CellsAt W L 30 (⟨A, 0, 0, 0, keyZ, .slice none 0 0, .slice none 0 0, keyZ⟩ : Fr).cells) ⟨hR1.setCellO _ _ hbL hRL, (hT0.trans ht1).setCellO _ _ (by show w.heap.size ≤ L; omega) hbL, hH0.setOther2 _ _ (by show w.heap.size ≠ L; omega), hH2⟩ ?_
  clear h1W hR0 hT0 hG0 hG1 hH1 hH0 hH2 hR1 ht1 cj fj W
  rintro W ⟨hR0, hT0, hG0, hG1⟩
  have h1W := f3 W hR0
  clear f3
  by_cases kc3 : 3 + 4 ≤ z.length
  rotate_left
  · go_upto_region 6 with (go_at_call 23; refine h1W.mono ?_; rintro e wB (⟨hx, _⟩ | ⟨_, rfl, htB⟩); (exfalso; omega))
    exact bodyPost_gone (.inr ⟨fun h => by have := HW.out (HOK.out.1 h).2.2.1; omega, rfl, hT0.trans htB⟩)
  go_upto_region 6 with (go_at_call 23; refine h1W.mono ?_; rintro e w1 (⟨_, rfl, hR1, ht1⟩ | ⟨hx, _⟩); rotate_left; (exfalso; omega); have hH1 := hG1.took ht1 (by omega); have cj := hH1.cell 1; have fj := hH1.frozen2 1)
  have hH0 := hG0.took ht1 (by omega)
  have hH2 := hH1.set2 1 (.int .u32 NU)
  refine forget (p := fun y => Code.wp _ _ _ _ y) (fun W => Rd W R base (z.drop (3 + 4)) ∧ Took w W R base ∧ CellsAt W w.heap.size 30 Z ∧ CellsAt W L 30 (⟨A, NU, 0, 0, keyZ, .slice none 0 0, .slice none 0 0, keyZ⟩ : Fr).cells) ⟨hR1.setCellO _ _ hbL hRL, (hT0.trans ht1).setCellO _ _ (by show w.heap.size ≤ L; omega) hbL, hH0.setOther2 _ _ (by show w.heap.size ≠ L; omega), hH2⟩ ?_
  clear h1W hR0 hT0 hG0 hG1 hH1 hH0 hH2 hR1 ht1 cj fj W
  rintro W ⟨hR0, hT0, hG0, hG1⟩
  have h1W := d7 W hR0
  clear d7
  by_cases kc7 : 7 + 5 ≤ z.length
  rotate_left
  · go_upto_region 7 with (go_at_call 24; refine h1W.mono ?_; rintro e wB (⟨hx, _⟩ | ⟨_, rfl, htB⟩); (exfalso; omega))
    exact bodyPost_gone (.inr ⟨fun h => by have := HW.out (HOK.out.1 h).2.2.1; omega, rfl, hT0.trans htB⟩)
  have hfit7 : 2 + (dotC EA ES).length ≤ (⟨A, NU, 0, 0, keyZ, .slice none 0 0, .slice none 0 0, keyZ⟩ : Fr).cells.length := by rw [fr_len _ rfl rfl]; show 2 + 2 ≤ 70; omega
  go_upto_region 7 with (first
    | (go_at_call 24; refine h1W.mono ?_; rintro e w1 (⟨_, rfl, hR1, ht1⟩ | ⟨hx, _⟩); rotate_left; (exfalso; omega); have hH1 := hG1.took ht1 (by omega))
    | (refine wpList_stm rfl 25 _ _ rfl _ 2 rfl rfl hH1 sizeDot hfit7 (dot_one EA ES) ?_))
  have hH0 := hG0.took ht1 (by omega)
  have hH2 := hH1.setRow ((⟨A, NU, 0, 0, keyZ, .slice none 0 0, .slice none 0 0, keyZ⟩ : Fr).cells.take 2 ++ dotC EA ES ++ (⟨A, NU, 0, 0, keyZ, .slice none 0 0, .slice none 0 0, keyZ⟩ : Fr).cells.drop (2 + (dotC EA ES).length))
  have HN := frC_dot A NU 0 0 keyZ (.slice none 0 0) (.slice none 0 0) keyZ EA ES
  refine forget (p := fun y => Code.wp _ _ _ _ y) (fun W => Rd W R base (z.drop (7 + 5)) ∧ Took w W R base ∧ CellsAt W w.heap.size 30 Z ∧ CellsAt W L 30 (⟨A, NU, EA, ES, keyZ, .slice none 0 0, .slice none 0 0, keyZ⟩ : Fr).cells) ⟨hR1.setRowO _ hbL hRL, (hT0.trans ht1).setRowO _ (by omega) hbL, hH0.setRowOther2 _ (by omega), by rw [← HN]; first | exact hH2 | simpa only [List.append_assoc] using hH2⟩ ?_
  clear h1W hR0 hT0 hG0 hG1 hH1 hH0 hH2 hR1 ht1 HN W
  rintro W ⟨hR0, hT0, hG0, hG1⟩
  have h1W := k12 W hR0
  clear k12
  by_cases kc12 : 12 + 32 ≤ z.length
  rotate_left
  · go_upto_region 8 with (go_at_call 25; refine h1W.mono ?_; rintro e wB (⟨hx, _⟩ | ⟨_, rfl, htB⟩); (exfalso; omega))
    exact bodyPost_gone (.inr ⟨fun h => by have := HW.out (HOK.out.1 h).2.2.1; omega, rfl, hT0.trans htB⟩)
  have hPL := HLP.out kc12
  have HLP1 : Veil (PV.length = 32) := ⟨hPL⟩
  have iP : (Tryd.prog.info? 27).map (·.size) = some (byC PV).length := by rw [byC_length, hPL]; exact sizeKey32
  have hfit12 : 4 + (byC PV).length ≤ (⟨A, NU, EA, ES, keyZ, .slice none 0 0, .slice none 0 0, keyZ⟩ : Fr).cells.length := by rw [fr_len _ rfl rfl, byC_length, hPL]; decide
  clear hPL
  go_upto_region 8 with (first
    | (go_at_call 25; refine h1W.mono ?_; rintro e w1 (⟨_, rfl, hR1, ht1⟩ | ⟨hx, _⟩); rotate_left; (exfalso; omega); have hH1 := hG1.took ht1 (by omega))
    | (refine wpList_stm rfl 27 _ _ rfl _ 4 rfl rfl hH1 iP hfit12 (byC_one PV) ?_))
  have hH0 := hG0.took ht1 (by omega)
  have hH2 := hH1.setRow ((⟨A, NU, EA, ES, keyZ, .slice none 0 0, .slice none 0 0, keyZ⟩ : Fr).cells.take 4 ++ byC PV ++ (⟨A, NU, EA, ES, keyZ, .slice none 0 0, .slice none 0 0, keyZ⟩ : Fr).cells.drop (4 + (byC PV).length))
  have HN := frC_prev A NU EA ES keyZ (.slice none 0 0) (.slice none 0 0) keyZ PV (by rw [HLP1.out]; rfl)
  refine forget (p := fun y => Code.wp _ _ _ _ y) (fun W => Rd W R base (z.drop (12 + 32)) ∧ Took w W R base ∧ CellsAt W w.heap.size 30 Z ∧ CellsAt W L 30 (⟨A, NU, EA, ES, PV, .slice none 0 0, .slice none 0 0, keyZ⟩ : Fr).cells) ⟨hR1.setRowO _ hbL hRL, (hT0.trans ht1).setRowO _ (by omega) hbL, hH0.setRowOther2 _ (by omega), by rw [← HN]; first | exact hH2 | simpa only [List.append_assoc] using hH2⟩ ?_
  clear h1W hR0 hT0 hG0 hG1 hH1 hH0 hH2 hR1 ht1 HN W
  rintro W ⟨hR0, hT0, hG0, hG1⟩
  have h1W := w44 W hR0
  clear w44
  by_cases kw : WC
  rotate_left
  · go_upto_region 9 with (go_at_call 26; refine h1W.mono ?_; rintro e wB (⟨hx, _⟩ | ⟨_, rfl, htB⟩); (exact absurd hx kw))
    exact bodyPost_gone (.inr ⟨fun h => kw (HOK.out.1 h).2.2.1, rfl, hT0.trans htB⟩)
  have HKW : Veil WC := ⟨kw⟩
  have h2W : Calls Tryd.prog 26 #[.pointer (some ⟨R, 0, none⟩)] W fun e w' => ∃ G, e = .returned (.slice (some ⟨G, 0, none⟩) N N) ∧ W.heap.size ≤ G ∧ CellsAt w' G 52 WS ∧ Rd w' R base (z.drop Q) ∧ Took W w' R base := h1W.mono fun e w' h => by
    rcases h with ⟨_, h⟩ | ⟨h, _⟩
    · exact h
    · exact absurd HKW.out h
  clear h1W kw
  have hmore := hT0.more
  have hLW := hG1.lt
  have hfr := fr_parts (⟨A, NU, EA, ES, PV, .slice none 0 0, .slice none 0 0, keyZ⟩ : Fr) HLP1.out rfl
  have c36 : (⟨A, NU, EA, ES, PV, .slice none 0 0, .slice none 0 0, keyZ⟩ : Fr).cells[36]? = some (.slice none 0 0) := hfr.2.2.2.2.2.1
  have HC36 := Veil.mk c36
  clear c36 hfr
  go_upto_region 9 with (go_at_call 26; refine h2W.mono ?_; rintro e w1 ⟨GW, rfl, hGW, hCW, hR1, ht1⟩; have hH1 := hG1.took ht1 (by omega); have cj := hH1.cell 36; rw [HC36.out] at cj; have fj := hH1.frozen2 36)
  have hH0 := hG0.took ht1 (by omega)
  have hH2 := hH1.set2 36 (.slice (some ⟨GW, 0, none⟩) N N)
  rw [fr_setW _ _ HLP1.out] at hH2
  refine forget (p := fun y => Code.wp _ _ _ _ y) (fun W => Rd W R base (z.drop Q) ∧ Took w W R base ∧ CellsAt W w.heap.size 30 Z ∧ CellsAt W L 30 (⟨A, NU, EA, ES, PV, .slice (some ⟨GW, 0, none⟩) N N, .slice none 0 0, keyZ⟩ : Fr).cells ∧ CellsAt W GW 52 WS) ⟨hR1.setCellO _ _ hbL hRL, (hT0.trans ht1).setCellO _ _ (by show w.heap.size ≤ L; omega) hbL, hH0.setOther2 _ _ (by show w.heap.size ≠ L; omega), hH2, hCW.setOther2 _ _ (by show GW ≠ L; omega)⟩ ?_
  have hgeG : w.heap.size ≤ GW := by omega
  have hGL : GW ≠ L := by omega
  have hGR : GW ≠ R := by omega
  clear h2W hR0 hT0 hG0 hG1 hH1 hH0 hH2 hR1 ht1 cj fj hCW hGW hmore hLW W
  rintro W ⟨hR0, hT0, hG0, hG1, hW1⟩
  have h1W := bQ W hR0
  clear bQ
  by_cases kb : BC
  rotate_left
  · go_upto_region 10 with (go_at_call 27; refine h1W.mono ?_; rintro e wB (⟨hx, _⟩ | ⟨_, rfl, htB⟩); (exact absurd hx kb))
    exact bodyPost_gone (.inr ⟨fun h => kb (HOK.out.1 h).2.2.2.1, rfl, hT0.trans htB⟩)
  have HKB : Veil BC := ⟨kb⟩
  have h2W : Calls Tryd.prog 27 #[.pointer (some ⟨R, 0, none⟩)] W fun e w' => ∃ x m c, e = .returned (.slice x m c) ∧ OwnB w' W.heap.size (.slice x m c) BO ∧ Rd w' R base (z.drop O) ∧ Took W w' R base := h1W.mono fun e w' h => by
    rcases h with ⟨_, v, h1, h2, h3⟩ | ⟨h, _⟩
    · obtain ⟨x, m, c, rfl, _⟩ := h2.isSlice
      exact ⟨x, m, c, h1, h2, h3⟩
    · exact absurd HKB.out h
  clear h1W kb
  have hmore := hT0.more
  have hLW := hG1.lt
  have hGWl := hW1.lt
  have hfr := fr_parts (⟨A, NU, EA, ES, PV, .slice (some ⟨GW, 0, none⟩) N N, .slice none 0 0, keyZ⟩ : Fr) HLP1.out rfl
  have c37 : (⟨A, NU, EA, ES, PV, .slice (some ⟨GW, 0, none⟩) N N, .slice none 0 0, keyZ⟩ : Fr).cells[37]? = some (.slice none 0 0) := hfr.2.2.2.2.2.2.1
  have HC37 := Veil.mk c37
  clear c37 hfr
  go_upto_region 10 with (go_at_call 27; refine h2W.mono ?_; rintro e w1 ⟨xb, mb, cb, rfl, hOB, hR1, ht1⟩; have hH1 := hG1.took ht1 (by omega); have cj := hH1.cell 37; rw [HC37.out] at cj; have fj := hH1.frozen2 37)
  have hH0 := hG0.took ht1 (by omega)
  have hJ1 := hW1.took ht1 (by omega)
  have hH2 := hH1.set2 37 (.slice xb mb cb)
  rw [fr_setB _ _ HLP1.out] at hH2
  have hOB2 : OwnB (w1.setCell ⟨L, 37, none⟩ (.slice xb mb cb)) w.heap.size (.slice xb mb cb) BO := (hOB.lessG hmore).keepF hH1 (by decide) (fun g hg => heap_setCell_other w1 ⟨L, 37, none⟩ g _ hg)
  refine forget (p := fun y => Code.wp _ _ _ _ y) (fun W => Rd W R base (z.drop O) ∧ Took w W R base ∧ CellsAt W w.heap.size 30 Z ∧ CellsAt W L 30 (⟨A, NU, EA, ES, PV, .slice (some ⟨GW, 0, none⟩) N N, .slice xb mb cb, keyZ⟩ : Fr).cells ∧ CellsAt W GW 52 WS ∧ OwnB W w.heap.size (.slice xb mb cb) BO) ⟨hR1.setCellO _ _ hbL hRL, (hT0.trans ht1).setCellO _ _ (by show w.heap.size ≤ L; omega) hbL, hH0.setOther2 _ _ (by show w.heap.size ≠ L; omega), hH2, hJ1.setOther2 _ _ hGL, hOB2⟩ ?_
  clear h2W hR0 hT0 hG0 hG1 hH1 hH0 hH2 hR1 ht1 cj fj hOB hOB2 hJ1 hW1 hmore hLW hGWl W
  rintro W ⟨hR0, hT0, hG0, hG1, hW1, hO1⟩
  have h1W := kO W hR0
  clear kO
  by_cases kc38 : O + 32 ≤ z.length
  rotate_left
  · go_upto_region 11 with (go_at_call 25; refine h1W.mono ?_; rintro e wB (⟨hx, _⟩ | ⟨_, rfl, htB⟩); (exfalso; omega))
    exact bodyPost_gone (.inr ⟨fun h => kc38 (HOK.out.1 h).2.2.2.2, rfl, hT0.trans htB⟩)
  have hML := HLM.out kc38
  have HLM1 : Veil (MC.length = 32) := ⟨hML⟩
  have iM : (Tryd.prog.info? 27).map (·.size) = some (byC MC).length := by rw [byC_length, hML]; exact sizeKey32
  have hfit38 : 38 + (byC MC).length ≤ (⟨A, NU, EA, ES, PV, .slice (some ⟨GW, 0, none⟩) N N, .slice xb mb cb, keyZ⟩ : Fr).cells.length := by rw [fr_len _ HLP1.out rfl, byC_length, hML]; decide
  clear hML
  have hbx := hR0.has
  go_upto_region 11 with (first
    | (go_at_call 25; refine h1W.mono ?_; rintro e w1 (⟨_, rfl, hR1, ht1⟩ | ⟨hx, _⟩); rotate_left; (exfalso; omega); have hH1 := hG1.took ht1 (by omega))
    | (refine wpList_stm rfl 27 _ _ rfl _ 38 rfl rfl hH1 iM hfit38 (byC_one MC) ?_))
  have hH0 := hG0.took ht1 (by omega)
  have hJ1 := hW1.took ht1 hGR
  have hH2 := hH1.setRow ((⟨A, NU, EA, ES, PV, .slice (some ⟨GW, 0, none⟩) N N, .slice xb mb cb, keyZ⟩ : Fr).cells.take 38 ++ byC MC ++ (⟨A, NU, EA, ES, PV, .slice (some ⟨GW, 0, none⟩) N N, .slice xb mb cb, keyZ⟩ : Fr).cells.drop (38 + (byC MC).length))
  have HNM := frC_mac A NU EA ES PV (.slice (some ⟨GW, 0, none⟩) N N) (.slice xb mb cb) keyZ MC HLP1.out (by rw [HLM1.out]; rfl)
  obtain ⟨xr, nr, cr, hbr, hyr⟩ := hbx
  have hO2 := hO1.tookF hbr ht1
  have hO3 : OwnB (w1.setRow L ((⟨A, NU, EA, ES, PV, .slice (some ⟨GW, 0, none⟩) N N, .slice xb mb cb, keyZ⟩ : Fr).cells.take 38 ++ byC MC ++ (⟨A, NU, EA, ES, PV, .slice (some ⟨GW, 0, none⟩) N N, .slice xb mb cb, keyZ⟩ : Fr).cells.drop (38 + (byC MC).length)).toArray) w.heap.size (.slice xb mb cb) BO := hO2.keepF hH1 (by decide) (fun g hg => setRow_other w1 L g _ hg)
  obtain ⟨F6, hF6⟩ : ∃ q, (⟨A, NU, EA, ES, PV, .slice (some ⟨GW, 0, none⟩) N N, .slice xb mb cb, MC⟩ : Fr) = q := ⟨_, rfl⟩
  rw [hF6] at HNM
  have HF6 : Veil (F6.prev.length = 32 ∧ F6.mac.length = 32 ∧ F6 = frOf z (.slice (some ⟨GW, 0, none⟩) N N) (.slice xb mb cb)) := ⟨by rw [← hF6]; exact HLP1.out, by rw [← hF6]; exact HLM1.out, by rw [HF.out, hF6]⟩
  have h1F : ∀ v ∈ F6.cells, v.oneCell' = true := by rw [← hF6]; exact fr_one _ (some ⟨GW, 0, none⟩) xb N N mb cb rfl rfl
  have HNM2 := Veil.mk HNM
  clear HNM
  refine forget (p := fun y => Code.wp _ _ _ _ y) (fun W => Rd W R base (z.drop (O + 32)) ∧ Took w W R base ∧ CellsAt W w.heap.size 30 Z ∧ CellsAt W L 30 F6.cells ∧ CellsAt W GW 52 WS ∧ OwnB W w.heap.size (.slice xb mb cb) BO) ⟨hR1.setRowO _ hbL hRL, (hT0.trans ht1).setRowO _ (by omega) hbL, hH0.setRowOther2 _ (by omega), by rw [← HNM2.out]; first | exact hH2 | simpa only [List.append_assoc] using hH2, hJ1.setRowOther2 _ hGL, by first | exact hO3 | simpa only [List.append_assoc] using hO3⟩ ?_
  clear h1W hR0 hT0 hG0 hG1 hH1 hH0 hH2 hR1 ht1 hJ1 hW1 hO1 hO2 hO3 hbr hyr HNM2 hF6 W
  rintro W ⟨hR0, hT0, hG0, hG1, hW1, hO1⟩
  have rE := hG1.whole2
  have iF : (Tryd.prog.info? 30).map (·.size) = some F6.cells.length := by rw [fr_len F6 HF6.out.1 HF6.out.2.1]; exact sizeFrame
  have hlF : Z.length = F6.cells.length := by rw [fr_len F6 HF6.out.1 HF6.out.2.1, HZ.out]; rfl
  go_wp2_with (first
    | (refine wpList_ldv rfl 30 _ rfl _ _ rfl F6.cells rE Tryd.underlying30 rfl iF ?_)
    | (refine wpList_stv rfl 30 _ _ rfl _ rfl rfl hG0 iF hlF h1F ?_))
  refine bodyPost_ret (results_cell_row (Tryd.results11) _ _ _ _ _ (0, 0) _ rfl (hG0.setRow F6.cells) Tryd.underlying30 rfl (by rw [iF]; simp)) rfl ?_
  have hO2 : OwnB (W.setRow w.heap.size F6.cells.toArray) w.heap.size (.slice xb mb cb) BO := hO1.keepF hG0 (by decide) (fun g hg => setRow_other W w.heap.size g _ hg)
  refine .inl ⟨HOK.out.2 ⟨HM0.out, HM1.out, HKW.out, HKB.out, kc38⟩, GW, xb, mb, cb, ?_, hgeG, hW1.setRowOther2 _ (fun e => ?_), hO2, hR0.setRowO _ hsz r3, hT0.setRowO _ (Nat.le_refl _) hsz⟩
  · rw [HF6.out.2.2]
  · have := hG0.typ hW1 e
    revert this; decide
end Go.Proofs.YtdfjfafhpjoilaaDoor
