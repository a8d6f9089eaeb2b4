/- Re3 -/
import Derived.Test.YtfainlfiphdaeaaGreatDoorT02
import Derived.Test.YtfainlfiphdaeaaGreatDoorT05
import Derived.Test.YtfainlfiphdaeaaGreatDoorT04
namespace Go.Proofs.YtfainlfiphdaeaaGreatDoor
open Go.RowKit
set_option maxRecDepth 20000
set_option linter.unusedSimpArgs false
def pastZ (z : List Int) : List Int := (List.range 8).map fun j => at4 z (5 + 4 * j)
def evOf (z : List Int) : Ev := ⟨at1 z 0, at4 z 1, pastZ z, at1 z 37, at1 z 38, at4 z 39, at1 z 43 == 1, at1 z 44, at1 z 45, at1 z 46⟩
def evOk (z : List Int) : Prop := 58 ≤ z.length ∧ at1 z 43 ≤ 1 ∧ ∀ j, j < 11 → at1 z (47 + j) = 0
theorem pastZ_length (z : List Int) : (pastZ z).length = 8 := by simp [pastZ]
theorem pastZ_get (z : List Int) (j : Nat) (hj : j < 8) : (pastZ z)[j]?.getD 0 = at4 z (5 + 4 * j) := by
  unfold pastZ
  rw [List.getElem?_map, List.getElem?_range hj]; rfl
theorem past_set (P : List Int) (hP : P.length = 8) (j : Nat) (hj : j < 8) : (P.take j ++ List.replicate (8 - j) 0).set j (P[j]?.getD 0) = P.take (j + 1) ++ List.replicate (8 - (j + 1)) 0 := by
  have hl : (P.take j).length = j := by rw [List.length_take]; omega
  obtain ⟨m, hm⟩ : ∃ m, 8 - j = m + 1 := ⟨8 - j - 1, by omega⟩
  have hm2 : 8 - (j + 1) = m := by omega
  rw [hm, hm2]
  have := set_next (P.take j) m (P[j]?.getD 0)
  rw [hl] at this
  rw [this, take_next P j (by omega)]
def evZ : Ev := ⟨0, 0, List.replicate 8 0, 0, 0, 0, false, 0, 0, 0⟩
theorem ev_split (e : Ev) : e.cells = (dotC e.da e.ds ++ e.past.map (Value.int .u32)) ++ ([.int .u8 e.kind] ++ dotC e.pa e.ps ++ [.bool e.right, .int .u8 e.char, .int .u8 e.who, .int .u8 e.role]) := rfl
theorem ev_pre (e : Ev) (h : e.past.length = 8) : (dotC e.da e.ds ++ e.past.map (Value.int .u32)).length = 10 := by simp [dotC, h]
theorem ev_len (e : Ev) (h : e.past.length = 8) : e.cells.length = 17 := by rw [ev_split, List.length_append, ev_pre e h]; simp [dotC]
theorem ev_get (e : Ev) (h : e.past.length = 8) (j : Nat) (hj : 10 ≤ j) : e.cells[j]? = ([.int .u8 e.kind] ++ dotC e.pa e.ps ++ [.bool e.right, .int .u8 e.char, .int .u8 e.who, .int .u8 e.role] : List Value)[j - 10]? := by rw [ev_split, List.getElem?_append_right (by rw [ev_pre e h]; exact hj), ev_pre e h]
theorem ev_set (e : Ev) (h : e.past.length = 8) (j : Nat) (hj : 10 ≤ j) (v : Value) : e.cells.set j v = (dotC e.da e.ds ++ e.past.map (Value.int .u32)) ++ ([.int .u8 e.kind] ++ dotC e.pa e.ps ++ [.bool e.right, .int .u8 e.char, .int .u8 e.who, .int .u8 e.role] : List Value).set (j - 10) v := by rw [ev_split, List.set_append_right _ _ (by rw [ev_pre e h]; exact hj), ev_pre e h]
theorem ev_setPast (e : Ev) (h : e.past.length = 8) (j : Nat) (hj : j < 8) (v : Int) : e.cells.set (2 + j) (.int .u32 v) = ({ e with past := e.past.set j v } : Ev).cells := by
  rw [ev_split, ev_split, List.set_append_left _ _ (by rw [ev_pre e h]; omega), List.set_append_right _ _ (by simp [dotC])]
  congr 2
  rw [List.map_set]
  congr 1
  simp [dotC]
theorem ev_setPar (e : Ev) (h : e.past.length = 8) (a s : Int) : e.cells.take 11 ++ dotC a s ++ e.cells.drop (11 + (dotC a s).length) = ({ e with pa := a, ps := s } : Ev).cells := by
  have hp := ev_pre e h
  have e1 : e.cells.take 11 = (dotC e.da e.ds ++ e.past.map (Value.int .u32)) ++ [.int .u8 e.kind] := by
    rw [ev_split, show 11 = 10 + 1 from rfl, List.take_add, List.take_left' hp, List.drop_left' hp]; rfl
  have e2 : e.cells.drop (11 + (dotC a s).length) = [.bool e.right, .int .u8 e.char, .int .u8 e.who, .int .u8 e.role] := by
    rw [show 11 + (dotC a s).length = 10 + 3 from rfl, ← List.drop_drop, ev_split, List.drop_left' hp]; rfl
  rw [e1, e2, ev_split]
  simp only [List.append_assoc]
theorem ev_cell2 (e : Ev) (h : e.past.length = 8) (j : Nat) (hj : j < 8) : e.cells[2 + j]? = some (.int .u32 (e.past[j]?.getD 0)) := by
  rw [ev_split, List.getElem?_append_left (by rw [ev_pre e h]; omega), List.getElem?_append_right (by simp [dotC])]
  have e1 : 2 + j - (dotC e.da e.ds).length = j := by simp [dotC]
  rw [e1, List.getElem?_map, List.getElem?_eq_getElem (by omega)]; rfl
theorem ev_one (e : Ev) : ∀ v ∈ e.cells, v.oneCell' = true := by
  intro v hv
  rw [ev_split] at hv
  simp only [dotC, List.mem_append, List.mem_cons, List.not_mem_nil, or_false, List.mem_map] at hv
  rcases hv with ((rfl | rfl) | ⟨_, _, rfl⟩) | ((rfl | (rfl | rfl)) | (rfl | rfl | rfl | rfl)) <;> rfl
theorem sizeEv17 : (Tryz.prog.info? 33).map (·.size) = some 17 := by kernel_rfl
set_option maxHeartbeats 8000000 in
theorem revent_any (R base : Nat) (z : List Int) (w : World) (hR : Rd w R base z) (hz : ∀ v ∈ z, b8 v) :
    Calls Tryz.prog 125 #[.pointer (some ⟨R, 0, none⟩)] w fun e w' =>
      (evOk z ∧ e = .returned (.agg (evOf z).cells.toArray) ∧ Rd w' R base (z.drop 58) ∧ Took w w' R base) ∨ (¬ evOk z ∧ e = .panicked [wrongP] ∧ Took w w' R base) := by
  have hlt := hR.lt
  have hsz := hR.size
  have hd0 := fun wx (h : Rd wx R base (z.drop 0)) => rdot_at R base z 0 wx h hz
  have hf := fun (j : Nat) wx (h : Rd wx R base (z.drop (5 + 4 * j))) => rfour_at R base z (5 + 4 * j) wx h hz
  have ho37 := fun wx (h : Rd wx R base (z.drop 37)) => rone_at R base z 37 wx h
  have hd38 := fun wx (h : Rd wx R base (z.drop 38)) => rdot_at R base z 38 wx h hz
  have ht43 := fun wx (h : Rd wx R base (z.drop 43)) => rtruth_at R base z 43 wx h
  have ho44 := fun wx (h : Rd wx R base (z.drop 44)) => rone_at R base z 44 wx h
  have ho45 := fun wx (h : Rd wx R base (z.drop 45)) => rone_at R base z 45 wx h
  have ho46 := fun wx (h : Rd wx R base (z.drop 46)) => rone_at R base z 46 wx h
  have hzr := fun wx (h : Rd wx R base (z.drop 47)) => rzeros_any R base (z.drop 47) 11 wx h (by omega)
  have HEV : Veil (evOf z = ⟨at1 z 0, at4 z 1, pastZ z, at1 z 37, at1 z 38, at4 z 39, at1 z 43 == 1, at1 z 44, at1 z 45, at1 z 46⟩) := ⟨rfl⟩
  have HOK : Veil (evOk z ↔ (58 ≤ z.length ∧ at1 z 43 ≤ 1 ∧ ∀ j, j < 11 → at1 z (47 + j) = 0)) := ⟨Iff.rfl⟩
  have HPG : Veil (∀ j, j < 8 → (pastZ z)[j]?.getD 0 = at4 z (5 + 4 * j)) := ⟨pastZ_get z⟩
  have hPL := pastZ_length z
  obtain ⟨EV, hEV⟩ : ∃ q, evOf z = q := ⟨_, rfl⟩
  obtain ⟨OK, hOK⟩ : ∃ q, evOk z = q := ⟨_, rfl⟩
  rw [hEV] at HEV ⊢
  rw [hOK] at HOK ⊢
  obtain ⟨P, hP⟩ : ∃ q, pastZ z = q := ⟨_, rfl⟩
  rw [hP] at HEV HPG hPL
  have HPS : Veil (∀ j, j < 8 → (P.take j ++ List.replicate (8 - j) 0).set j (P[j]?.getD 0) = P.take (j + 1) ++ List.replicate (8 - (j + 1)) 0) := ⟨fun j hj => past_set P hPL j hj⟩
  have HPL : Veil (∀ j, j ≤ 8 → (P.take j ++ List.replicate (8 - j) 0).length = 8) := ⟨fun j hj => by rw [List.length_append, List.length_take, List.length_replicate]; omega⟩
  have HPL8 : Veil (P.length = 8) := ⟨hPL⟩
  obtain ⟨a0, ha0⟩ : ∃ q, at1 z 0 = q := ⟨_, rfl⟩
  obtain ⟨s0, hs0⟩ : ∃ q, at4 z 1 = q := ⟨_, rfl⟩
  obtain ⟨a1, ha1⟩ : ∃ q, at1 z 37 = q := ⟨_, rfl⟩
  obtain ⟨a2, ha2⟩ : ∃ q, at1 z 38 = q := ⟨_, rfl⟩
  obtain ⟨s2, hs2⟩ : ∃ q, at4 z 39 = q := ⟨_, rfl⟩
  obtain ⟨a3, ha3⟩ : ∃ q, at1 z 43 = q := ⟨_, rfl⟩
  obtain ⟨a4, ha4⟩ : ∃ q, at1 z 44 = q := ⟨_, rfl⟩
  obtain ⟨a5, ha5⟩ : ∃ q, at1 z 45 = q := ⟨_, rfl⟩
  obtain ⟨a6, ha6⟩ : ∃ q, at1 z 46 = q := ⟨_, rfl⟩
  have ed0 : at4 z (0 + 1) = s0 := hs0
  have ed38 : at4 z (38 + 1) = s2 := hs2
  rw [ha0, ed0] at hd0
  rw [ha2, ed38] at hd38
  rw [ha1] at ho37
  rw [ha3] at ht43
  rw [ha4] at ho44
  rw [ha5] at ho45
  rw [ha6] at ho46
  rw [ha0, hs0, ha1, ha2, hs2, ha3, ha4, ha5, ha6] at HEV
  rw [ha3] at HOK
  have hG0 := (CellsAt.new w 33 evZ.cells).alloc (.cells evZ.cells.toArray 33)
  have hG1 : CellsAt ((w.alloc (.cells evZ.cells.toArray 33)).alloc (.cells evZ.cells.toArray 33)) (w.heap.size + 1) 33 evZ.cells := by
    have := CellsAt.new (w.alloc (.cells evZ.cells.toArray 33)) 33 evZ.cells
    rw [World.size_alloc] at this
    exact this
  have hR0 := (hR.alloc (.cells evZ.cells.toArray 33)).alloc (.cells evZ.cells.toArray 33)
  have hT0 : Took w ((w.alloc (.cells evZ.cells.toArray 33)).alloc (.cells evZ.cells.toArray 33)) R base := (Took.alloc hsz _).trans (Took.alloc (by simp; omega) _)
  have r1 : base ≤ w.heap.size + 1 := by omega
  have r2 : R ≠ w.heap.size + 1 := by omega
  have r3 : R ≠ w.heap.size := by omega
  clear ha0 hs0 ha1 ha2 hs2 ha3 ha4 ha5 ha6 ed0 ed38 hR hz hEV hOK hP
  go_enter Tryz.func125, Tryz.ntmps125
  go_upto_region 2 with fail
  refine forget (p := fun y => Code.wp _ _ _ _ y) (fun W => Rd W R base (z.drop 0) ∧ Took w W R base ∧ CellsAt W w.heap.size 33 evZ.cells ∧ CellsAt W (w.heap.size + 1) 33 evZ.cells) ⟨hR0, hT0, hG0, hG1⟩ ?_
  clear hR0 hT0 hG0 hG1
  rintro W ⟨hR0, hT0, hG0, hG1⟩
  have h1W := hd0 W hR0
  clear hd0
  by_cases k0 : 5 ≤ z.length
  rotate_left
  · go_upto_region 3 with (go_at_call 165; refine h1W.mono ?_; rintro e wB (⟨hx, _⟩ | ⟨_, rfl, htB⟩); (exfalso; omega))
    exact bodyPost_gone (.inr ⟨fun h => by have := HOK.out.1 h; omega, rfl, hT0.trans htB⟩)
  go_upto_region 3 with (first
    | (go_at_call 165; refine h1W.mono ?_; rintro e w1 (⟨_, rfl, hR1, ht1⟩ | ⟨hx, _⟩); rotate_left; (exfalso; omega); have hH1 := hG1.took ht1 (by omega))
    | (refine wpList_stm rfl 26 _ _ rfl _ 0 rfl rfl hH1 sizeDot (by show 0 + 2 ≤ 17; omega) (dot_one a0 s0) ?_))
  have hH0 := hG0.took ht1 (by omega)
  refine forget (p := fun y => Code.wp _ _ _ _ y) (fun W => Rd W R base (z.drop (5 + 4 * 0)) ∧ Took w W R base ∧ CellsAt W w.heap.size 33 evZ.cells ∧ CellsAt W (w.heap.size + 1) 33 (⟨a0, s0, List.replicate 8 0, 0, 0, 0, false, 0, 0, 0⟩ : Ev).cells) ⟨hR1.setRowO _ r1 r2, (hT0.trans ht1).setRowO _ (by omega) r1, hH0.setRowOther2 _ (by omega), hH1.setRow _⟩ ?_
  clear h1W hR0 hT0 hG0 hG1 hH1 hH0 hR1 ht1 W
  rintro W ⟨hR0, hT0, hG0, hG1⟩
  go_wp2_with fail
  go_loopw [8] (fun q wr => ∃ j : Nat, j ≤ 8 ∧ q = .int .i64 j ∧ 5 + 4 * j ≤ z.length ∧ Rd wr R base (z.drop (5 + 4 * j)) ∧ Took w wr R base ∧ CellsAt wr w.heap.size 33 evZ.cells ∧ CellsAt wr (w.heap.size + 1) 33 (⟨a0, s0, P.take j ++ List.replicate (8 - j) 0, 0, 0, 0, false, 0, 0, 0⟩ : Ev).cells) (fun q _ => 8 - (intOf q).toNat)
  case atStart => exact ⟨0, by omega, rfl, by omega, hR0, hT0, hG0, hG1⟩
  case round =>
    clear hR0 hT0 hG0 hG1 W
    obtain ⟨j, hj, rfl, hzl, hR0, hT0, hG0, hG1⟩ := hrel
    by_cases hlt8 : j < 8
    · have h1W := hf j wr hR0
      have hst := HPS.out j hlt8
      have hlen := HPL.out j (by omega)
      rw [HPG.out j hlt8] at hst
      obtain ⟨V, hV⟩ : ∃ q, at4 z (5 + 4 * j) = q := ⟨_, rfl⟩
      rw [hV] at h1W hst
      have hj0 : (0 : Int) ≤ (j : Int) := by omega
      have hj8 : (j : Int) < 8 := by omega
      obtain ⟨Q, hQ⟩ : ∃ q, P.take j ++ List.replicate (8 - j) 0 = q := ⟨_, rfl⟩
      rw [hQ] at hst hlen hG1
      have HST : Veil (Q.set j V = P.take (j + 1) ++ List.replicate (8 - (j + 1)) 0) := ⟨hst⟩
      have HQL : Veil (Q.length = 8) := ⟨hlen⟩
      clear hV hst hQ hlen
      by_cases k1 : 5 + 4 * (j + 1) ≤ z.length
      · go_wp2_with (go_at_call 166; refine h1W.mono ?_; rintro e w1 (⟨_, rfl, hR1, ht1⟩ | ⟨hx, _⟩); rotate_left; (exfalso; omega); have hH1 := hG1.took ht1 (by omega); have cj := hH1.cell (2 + j); rw [ev_cell2 _ HQL.out j hlt8] at cj; have fj := hH1.frozen2 (2 + j))
        have hH0 := hG0.took ht1 (by omega)
        have hH2 := hH1.set2 (2 + j) (.int .u32 V)
        rw [ev_setPast _ HQL.out j hlt8 V] at hH2
        have e5 : 5 + 4 * j + 4 = 5 + 4 * (j + 1) := by omega
        rw [e5] at hR1
        clear e5
        go_roundw
        case rel => exact ⟨j + 1, by omega, by go_num, k1, hR1.setCellO _ _ r1 r2, (hT0.trans ht1).setCellO _ _ (by show w.heap.size ≤ w.heap.size + 1; omega) r1, hH0.setOther2 _ _ (by show w.heap.size ≠ w.heap.size + 1; omega), by rw [← HST.out]; exact hH2⟩
        case measure => simp [intOf]; omega
      · go_wp2_with (go_at_call 166; refine h1W.mono ?_; rintro e wB (⟨hx, _⟩ | ⟨_, rfl, htB⟩); (exfalso; omega))
        exact bodyPost_gone (.inr ⟨fun h => by have := (HOK.out.1 h).1; omega, rfl, hT0.trans htB⟩)
    · obtain rfl : j = 8 := by omega
      have hP8 : P.take 8 ++ List.replicate (8 - 8) 0 = P := by rw [Nat.sub_self, List.replicate_zero, List.append_nil, List.take_of_length_le (by have := HPL8.out; omega)]
      rw [hP8] at hG1
      clear hP8 HPS HPL HPG hf
      obtain ⟨W, hWW⟩ : ∃ q, wr = q := ⟨_, rfl⟩
      rw [hWW] at hR0 hT0 hG0 hG1 ⊢
      clear hWW
      have h1W := ho37 W hR0
      by_cases k9 : 38 ≤ z.length
      rotate_left
      · go_upto_region 9 with (go_at_call 167; refine h1W.mono ?_; rintro e wB (⟨hx, _⟩ | ⟨_, rfl, htB⟩); (exfalso; omega))
        exact bodyPost_gone (.inr ⟨fun h => by have := (HOK.out.1 h).1; omega, rfl, hT0.trans htB⟩)
      go_upto_region 9 with (go_at_call 167; refine h1W.mono ?_; rintro e w1 (⟨_, rfl, hR1, ht1⟩ | ⟨hx, _⟩); rotate_left; (exfalso; omega); have hH1 := hG1.took ht1 (by omega); have cj := hH1.cell 10; rw [ev_get _ HPL8.out 10 (by decide)] at cj; have fj := hH1.frozen2 10)
      have hH0 := hG0.took ht1 (by omega)
      have hH2 := hH1.set2 10 (.int .u8 a1)
      rw [ev_set _ HPL8.out 10 (by decide)] at hH2
      refine forget (p := fun y => Code.wp _ _ _ _ y) (fun W => Rd W R base (z.drop 38) ∧ Took w W R base ∧ CellsAt W w.heap.size 33 evZ.cells ∧ CellsAt W (w.heap.size + 1) 33 (⟨a0, s0, P, a1, 0, 0, false, 0, 0, 0⟩ : Ev).cells) ⟨hR1.setCellO _ _ r1 r2, (hT0.trans ht1).setCellO _ _ (by show w.heap.size ≤ w.heap.size + 1; omega) r1, hH0.setOther2 _ _ (by show w.heap.size ≠ w.heap.size + 1; omega), hH2⟩ ?_
      clear h1W ho37 hR0 hT0 hG0 hG1 hH1 hH0 hH2 hR1 ht1 cj fj W
      rintro W ⟨hR0, hT0, hG0, hG1⟩
      have h1W := hd38 W hR0
      by_cases k10 : 43 ≤ z.length
      rotate_left
      · go_upto_region 10 with (go_at_call 165; refine h1W.mono ?_; rintro e wB (⟨hx, _⟩ | ⟨_, rfl, htB⟩); (exfalso; omega))
        exact bodyPost_gone (.inr ⟨fun h => by have := (HOK.out.1 h).1; omega, rfl, hT0.trans htB⟩)
      go_upto_region 10 with (first
        | (go_at_call 165; refine h1W.mono ?_; rintro e w1 (⟨_, rfl, hR1, ht1⟩ | ⟨hx, _⟩); rotate_left; (exfalso; omega); have hH1 := hG1.took ht1 (by omega))
        | (refine wpList_stm rfl 26 _ _ rfl _ 11 rfl rfl hH1 sizeDot (by rw [ev_len _ HPL8.out]; show 11 + 2 ≤ 17; omega) (dot_one a2 s2) ?_))
      have hH0 := hG0.took ht1 (by omega)
      have hH2 := hH1.setRow ((⟨a0, s0, P, a1, 0, 0, false, 0, 0, 0⟩ : Ev).cells.take 11 ++ dotC a2 s2 ++ (⟨a0, s0, P, a1, 0, 0, false, 0, 0, 0⟩ : Ev).cells.drop (11 + (dotC a2 s2).length))
      have hH3 := hH2
      rw [ev_setPar _ HPL8.out a2 s2] at hH3
      refine forget (p := fun y => Code.wp _ _ _ _ y) (fun W => Rd W R base (z.drop 43) ∧ Took w W R base ∧ CellsAt W w.heap.size 33 evZ.cells ∧ CellsAt W (w.heap.size + 1) 33 (⟨a0, s0, P, a1, a2, s2, false, 0, 0, 0⟩ : Ev).cells) ⟨hR1.setRowO _ r1 r2, (hT0.trans ht1).setRowO _ (by omega) r1, hH0.setRowOther2 _ (by omega), by first | exact hH3 | (rw [ev_setPar _ HPL8.out a2 s2]; exact hH3)⟩ ?_
      clear h1W hd38 hR0 hT0 hG0 hG1 hH1 hH0 hH2 hH3 hR1 ht1 W
      rintro W ⟨hR0, hT0, hG0, hG1⟩
      have h1W := ht43 W hR0
      by_cases k11 : 44 ≤ z.length ∧ a3 ≤ 1
      rotate_left
      · go_upto_region 11 with (go_at_call 168; refine h1W.mono ?_; rintro e wB (⟨hx, _⟩ | ⟨_, rfl, htB⟩); (exact absurd hx k11))
        exact bodyPost_gone (.inr ⟨fun h => k11 ⟨by have := (HOK.out.1 h).1; omega, (HOK.out.1 h).2.1⟩, rfl, hT0.trans htB⟩)
      go_upto_region 11 with (go_at_call 168; refine h1W.mono ?_; rintro e w1 (⟨_, rfl, hR1, ht1⟩ | ⟨hx, _⟩); rotate_left; (exact absurd k11 hx); have hH1 := hG1.took ht1 (by omega); have cj := hH1.cell 13; rw [ev_get _ HPL8.out 13 (by decide)] at cj; have fj := hH1.frozen2 13)
      have hH0 := hG0.took ht1 (by omega)
      have hH2 := hH1.set2 13 (.bool (a3 == 1))
      rw [ev_set _ HPL8.out 13 (by decide)] at hH2
      refine forget (p := fun y => Code.wp _ _ _ _ y) (fun W => Rd W R base (z.drop 44) ∧ Took w W R base ∧ CellsAt W w.heap.size 33 evZ.cells ∧ CellsAt W (w.heap.size + 1) 33 (⟨a0, s0, P, a1, a2, s2, a3 == 1, 0, 0, 0⟩ : Ev).cells) ⟨hR1.setCellO _ _ r1 r2, (hT0.trans ht1).setCellO _ _ (by show w.heap.size ≤ w.heap.size + 1; omega) r1, hH0.setOther2 _ _ (by show w.heap.size ≠ w.heap.size + 1; omega), hH2⟩ ?_
      clear h1W ht43 hR0 hT0 hG0 hG1 hH1 hH0 hH2 hR1 ht1 cj fj W
      rintro W ⟨hR0, hT0, hG0, hG1⟩
      have h1W := ho44 W hR0
      by_cases k12 : 45 ≤ z.length
      rotate_left
      · go_upto_region 12 with (go_at_call 167; refine h1W.mono ?_; rintro e wB (⟨hx, _⟩ | ⟨_, rfl, htB⟩); (exfalso; omega))
        exact bodyPost_gone (.inr ⟨fun h => by have := (HOK.out.1 h).1; omega, rfl, hT0.trans htB⟩)
      go_upto_region 12 with (go_at_call 167; refine h1W.mono ?_; rintro e w1 (⟨_, rfl, hR1, ht1⟩ | ⟨hx, _⟩); rotate_left; (exfalso; omega); have hH1 := hG1.took ht1 (by omega); have cj := hH1.cell 14; rw [ev_get _ HPL8.out 14 (by decide)] at cj; have fj := hH1.frozen2 14)
      have hH0 := hG0.took ht1 (by omega)
      have hH2 := hH1.set2 14 (.int .u8 a4)
      rw [ev_set _ HPL8.out 14 (by decide)] at hH2
      refine forget (p := fun y => Code.wp _ _ _ _ y) (fun W => Rd W R base (z.drop 45) ∧ Took w W R base ∧ CellsAt W w.heap.size 33 evZ.cells ∧ CellsAt W (w.heap.size + 1) 33 (⟨a0, s0, P, a1, a2, s2, a3 == 1, a4, 0, 0⟩ : Ev).cells) ⟨hR1.setCellO _ _ r1 r2, (hT0.trans ht1).setCellO _ _ (by show w.heap.size ≤ w.heap.size + 1; omega) r1, hH0.setOther2 _ _ (by show w.heap.size ≠ w.heap.size + 1; omega), hH2⟩ ?_
      clear h1W ho44 hR0 hT0 hG0 hG1 hH1 hH0 hH2 hR1 ht1 cj fj W
      rintro W ⟨hR0, hT0, hG0, hG1⟩
      have h1W := ho45 W hR0
      by_cases k13 : 46 ≤ z.length
      rotate_left
      · go_upto_region 13 with (go_at_call 167; refine h1W.mono ?_; rintro e wB (⟨hx, _⟩ | ⟨_, rfl, htB⟩); (exfalso; omega))
        exact bodyPost_gone (.inr ⟨fun h => by have := (HOK.out.1 h).1; omega, rfl, hT0.trans htB⟩)
      go_upto_region 13 with (go_at_call 167; refine h1W.mono ?_; rintro e w1 (⟨_, rfl, hR1, ht1⟩ | ⟨hx, _⟩); rotate_left; (exfalso; omega); have hH1 := hG1.took ht1 (by omega); have cj := hH1.cell 15; rw [ev_get _ HPL8.out 15 (by decide)] at cj; have fj := hH1.frozen2 15)
      have hH0 := hG0.took ht1 (by omega)
      have hH2 := hH1.set2 15 (.int .u8 a5)
      rw [ev_set _ HPL8.out 15 (by decide)] at hH2
      refine forget (p := fun y => Code.wp _ _ _ _ y) (fun W => Rd W R base (z.drop 46) ∧ Took w W R base ∧ CellsAt W w.heap.size 33 evZ.cells ∧ CellsAt W (w.heap.size + 1) 33 (⟨a0, s0, P, a1, a2, s2, a3 == 1, a4, a5, 0⟩ : Ev).cells) ⟨hR1.setCellO _ _ r1 r2, (hT0.trans ht1).setCellO _ _ (by show w.heap.size ≤ w.heap.size + 1; omega) r1, hH0.setOther2 _ _ (by show w.heap.size ≠ w.heap.size + 1; omega), hH2⟩ ?_
      clear h1W ho45 hR0 hT0 hG0 hG1 hH1 hH0 hH2 hR1 ht1 cj fj W
      rintro W ⟨hR0, hT0, hG0, hG1⟩
      have h1W := ho46 W hR0
      by_cases k14 : 47 ≤ z.length
      rotate_left
      · go_upto_region 14 with (go_at_call 167; refine h1W.mono ?_; rintro e wB (⟨hx, _⟩ | ⟨_, rfl, htB⟩); (exfalso; omega))
        exact bodyPost_gone (.inr ⟨fun h => by have := (HOK.out.1 h).1; omega, rfl, hT0.trans htB⟩)
      go_upto_region 14 with (go_at_call 167; refine h1W.mono ?_; rintro e w1 (⟨_, rfl, hR1, ht1⟩ | ⟨hx, _⟩); rotate_left; (exfalso; omega); have hH1 := hG1.took ht1 (by omega); have cj := hH1.cell 16; rw [ev_get _ HPL8.out 16 (by decide)] at cj; have fj := hH1.frozen2 16)
      have hH0 := hG0.took ht1 (by omega)
      have hH2 := hH1.set2 16 (.int .u8 a6)
      rw [ev_set _ HPL8.out 16 (by decide)] at hH2
      refine forget (p := fun y => Code.wp _ _ _ _ y) (fun W => Rd W R base (z.drop 47) ∧ Took w W R base ∧ CellsAt W w.heap.size 33 evZ.cells ∧ CellsAt W (w.heap.size + 1) 33 (⟨a0, s0, P, a1, a2, s2, a3 == 1, a4, a5, a6⟩ : Ev).cells) ⟨hR1.setCellO _ _ r1 r2, (hT0.trans ht1).setCellO _ _ (by show w.heap.size ≤ w.heap.size + 1; omega) r1, hH0.setOther2 _ _ (by show w.heap.size ≠ w.heap.size + 1; omega), hH2⟩ ?_
      clear h1W ho46 hR0 hT0 hG0 hG1 hH1 hH0 hH2 hR1 ht1 cj fj W
      rintro W ⟨hR0, hT0, hG0, hG1⟩
      have h1W := hzr W hR0
      by_cases kz : 58 ≤ z.length ∧ ∀ j, j < 11 → at1 z (47 + j) = 0
      · have hzc : 11 ≤ (z.drop 47).length ∧ ∀ j, j < 11 → (z.drop 47)[j]?.getD 0 = 0 := ⟨by rw [List.length_drop]; omega, fun j hj => by rw [drop_at]; exact kz.2 j hj⟩
        have HZ : Veil (11 ≤ (z.drop 47).length ∧ ∀ j, j < 11 → (z.drop 47)[j]?.getD 0 = 0) := ⟨hzc⟩
        have HKZ : Veil (58 ≤ z.length ∧ ∀ j, j < 11 → at1 z (47 + j) = 0) := ⟨kz⟩
        clear hzc kz
        go_upto_region 15 with (go_at_call 169; refine h1W.mono ?_; rintro e w1 (⟨_, ⟨r1', rfl⟩, hR1, ht1⟩ | ⟨hx, _⟩); rotate_left; (exact absurd HZ.out hx))
        have hH1 := hG1.took ht1 (by omega)
        have hH0 := hG0.took ht1 (by omega)
        rw [← HEV.out] at hH1
        have hT1 := hT0.trans ht1
        have hel : EV.cells.length = 17 := by rw [HEV.out]; exact ev_len _ HPL8.out
        have hiE : (Tryz.prog.info? 33).map (·.size) = some EV.cells.length := by rw [hel]; exact sizeEv17
        have hlE : evZ.cells.length = EV.cells.length := by rw [hel]; rfl
        have h1E := ev_one EV
        rw [List.drop_drop] at hR1
        have rE := hH1.whole2
        clear h1W hzr hR0 hT0 hG0 hG1 ht1 hel
        go_wp2_with (first
          | (refine wpList_ldv rfl 33 _ rfl _ _ rfl EV.cells rE Tryz.underlying33 rfl hiE ?_)
          | (refine wpList_stv rfl 33 _ _ rfl _ rfl rfl hH0 hiE hlE h1E ?_))
        refine bodyPost_ret (results_cell_row (Tryz.results125) _ _ _ _ _ (0, 0) _ rfl (hH0.setRow EV.cells) Tryz.underlying33 rfl (by rw [hiE]; simp)) rfl ?_
        exact .inl ⟨HOK.out.2 ⟨HKZ.out.1, k11.2, HKZ.out.2⟩, rfl, hR1.setRowO _ hsz r3, hT1.setRowO _ (Nat.le_refl _) hsz⟩
      · have hzc : ¬ (11 ≤ (z.drop 47).length ∧ ∀ j, j < 11 → (z.drop 47)[j]?.getD 0 = 0) := fun h => kz ⟨by have := h.1; rw [List.length_drop] at this; omega, fun j hj => by have := h.2 j hj; rw [drop_at] at this; exact this⟩
        have HZ : Veil (¬ (11 ≤ (z.drop 47).length ∧ ∀ j, j < 11 → (z.drop 47)[j]?.getD 0 = 0)) := ⟨hzc⟩
        have HKZ : Veil (¬ (58 ≤ z.length ∧ ∀ j, j < 11 → at1 z (47 + j) = 0)) := ⟨kz⟩
        clear hzc kz
        go_upto_region 15 with (go_at_call 169; refine h1W.mono ?_; rintro e wB (⟨hx, _⟩ | ⟨_, rfl, htB⟩); (exact absurd hx HZ.out))
        exact bodyPost_gone (.inr ⟨fun h => HKZ.out ⟨(HOK.out.1 h).1, (HOK.out.1 h).2.2⟩, rfl, hT0.trans htB⟩)
end Go.Proofs.YtfainlfiphdaeaaGreatDoor
