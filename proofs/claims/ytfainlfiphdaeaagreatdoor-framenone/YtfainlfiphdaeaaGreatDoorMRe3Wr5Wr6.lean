/- The readers of wire: an event. (Written by mkre3.py.) 'openly' of the writer of wire. 'Frame', 'Open' of wire. -/
import Derived.Test.YtfainlfiphdaeaaGreatDoorMGate2EvmGb
import Derived.Test.YtfainlfiphdaeaaGreatDoorMWr4Re1Re2
import Derived.Test.YtfainlfiphdaeaaGreatDoorMRd3Wr2Wr3
namespace Go.Proofs.YtfainlfiphdaeaaGreatDoor
open Go.RowKit
set_option maxRecDepth 20000
set_option linter.unusedSimpArgs false

/-- What bytes say as an event. -/
def pastZ (z : List Int) : List Int := (List.range 8).map fun j => at4 z (5 + 4 * j)
def evOf (z : List Int) : Ev := ⟨at1 z 0, at4 z 1, pastZ z, at1 z 37, at1 z 38, at4 z 39, at1 z 43 == 1, at1 z 44, at1 z 45, at1 z 46⟩
def evOk (z : List Int) : Prop := 58 ≤ z.length ∧ at1 z 43 ≤ 1 ∧ ∀ j, j < 11 → at1 z (47 + j) = 0
theorem pastZ_length (z : List Int) : (pastZ z).length = 8 := by simp [pastZ]
theorem pastZ_get (z : List Int) (j : Nat) (hj : j < 8) : (pastZ z)[j]?.getD 0 = at4 z (5 + 4 * j) := by
  unfold pastZ
  rw [List.getElem?_map, List.getElem?_range hj]; rfl
theorem past_set (P : List Int) (hP : P.length = 8) (j : Nat) (hj : j < 8) : (P.take j ++ List.replicate (8 - j) 0).set j (P[j]?.getD 0) = P.take (j + 1) ++ List.replicate (8 - (j + 1)) 0 := by
  have hl : (P.take j).length = j := by rw [List.length_take]; omega
  obtain ⟨m, hm⟩ : ∃ m, 8 - j = m + 1 := ⟨8 - j - 1, by omega⟩
  have hm2 : 8 - (j + 1) = m := by omega
  rw [hm, hm2]
  have := set_next (P.take j) m (P[j]?.getD 0)
  rw [hl] at this
  rw [this, take_next P j (by omega)]
def evZ : Ev := ⟨0, 0, List.replicate 8 0, 0, 0, 0, false, 0, 0, 0⟩
theorem ev_split (e : Ev) : e.cells = (dotC e.da e.ds ++ e.past.map (Value.int .u32)) ++ ([.int .u8 e.kind] ++ dotC e.pa e.ps ++ [.bool e.right, .int .u8 e.char, .int .u8 e.who, .int .u8 e.role]) := rfl
theorem ev_pre (e : Ev) (h : e.past.length = 8) : (dotC e.da e.ds ++ e.past.map (Value.int .u32)).length = 10 := by simp [dotC, h]
theorem ev_len (e : Ev) (h : e.past.length = 8) : e.cells.length = 17 := by rw [ev_split, List.length_append, ev_pre e h]; simp [dotC]
theorem ev_get (e : Ev) (h : e.past.length = 8) (j : Nat) (hj : 10 ≤ j) : e.cells[j]? = ([.int .u8 e.kind] ++ dotC e.pa e.ps ++ [.bool e.right, .int .u8 e.char, .int .u8 e.who, .int .u8 e.role] : List Value)[j - 10]? := by rw [ev_split, List.getElem?_append_right (by rw [ev_pre e h]; exact hj), ev_pre e h]
theorem ev_set (e : Ev) (h : e.past.length = 8) (j : Nat) (hj : 10 ≤ j) (v : Value) : e.cells.set j v = (dotC e.da e.ds ++ e.past.map (Value.int .u32)) ++ ([.int .u8 e.kind] ++ dotC e.pa e.ps ++ [.bool e.right, .int .u8 e.char, .int .u8 e.who, .int .u8 e.role] : List Value).set (j - 10) v := by rw [ev_split, List.set_append_right _ _ (by rw [ev_pre e h]; exact hj), ev_pre e h]
theorem ev_setPast (e : Ev) (h : e.past.length = 8) (j : Nat) (hj : j < 8) (v : Int) : e.cells.set (2 + j) (.int .u32 v) = ({ e with past := e.past.set j v } : Ev).cells := by
  rw [ev_split, ev_split, List.set_append_left _ _ (by rw [ev_pre e h]; omega), List.set_append_right _ _ (by simp [dotC])]
  congr 2
  rw [List.map_set]
  congr 1
  simp [dotC]
theorem ev_setDot (e : Ev) (a s : Int) : e.cells.take 0 ++ dotC a s ++ e.cells.drop (0 + (dotC a s).length) = ({ e with da := a, ds := s } : Ev).cells := rfl
theorem ev_setPar (e : Ev) (h : e.past.length = 8) (a s : Int) : e.cells.take 11 ++ dotC a s ++ e.cells.drop (11 + (dotC a s).length) = ({ e with pa := a, ps := s } : Ev).cells := by
  have hp := ev_pre e h
  have e1 : e.cells.take 11 = (dotC e.da e.ds ++ e.past.map (Value.int .u32)) ++ [.int .u8 e.kind] := by
    rw [ev_split, show 11 = 10 + 1 from rfl, List.take_add, List.take_left' hp, List.drop_left' hp]; rfl
  have e2 : e.cells.drop (11 + (dotC a s).length) = [.bool e.right, .int .u8 e.char, .int .u8 e.who, .int .u8 e.role] := by
    rw [show 11 + (dotC a s).length = 10 + 3 from rfl, ← List.drop_drop, ev_split, List.drop_left' hp]; rfl
  rw [e1, e2, ev_split]
  simp only [List.append_assoc]
theorem ev_cell2 (e : Ev) (h : e.past.length = 8) (j : Nat) (hj : j < 8) : e.cells[2 + j]? = some (.int .u32 (e.past[j]?.getD 0)) := by
  rw [ev_split, List.getElem?_append_left (by rw [ev_pre e h]; omega), List.getElem?_append_right (by simp [dotC])]
  have e1 : 2 + j - (dotC e.da e.ds).length = j := by simp [dotC]
  rw [e1, List.getElem?_map, List.getElem?_eq_getElem (by omega)]; rfl
theorem ev_one (e : Ev) : ∀ v ∈ e.cells, v.oneCell' = true := by
  intro v hv
  rw [ev_split] at hv
  simp only [dotC, List.mem_append, List.mem_cons, List.not_mem_nil, or_false, List.mem_map] at hv
  rcases hv with ((rfl | rfl) | ⟨_, _, rfl⟩) | ((rfl | (rfl | rfl)) | (rfl | rfl | rfl | rfl)) <;> rfl
theorem sizeEv17 : (Tryz.prog.info? 33).map (·.size) = some 17 := by kernel_rfl

set_option maxHeartbeats 8000000 in
theorem revent_any (R base : Nat) (z : List Int) (w : World) (hR : Rd w R base z) (hz : ∀ v ∈ z, b8 v) :
    Calls Tryz.prog 125 #[.pointer (some ⟨R, 0, none⟩)] w fun e w' =>
      (evOk z ∧ e = .returned (.agg (evOf z).cells.toArray) ∧ Rd w' R base (z.drop 58) ∧ Took w w' R base) ∨ (¬ evOk z ∧ e = .panicked [wrongP] ∧ Took w w' R base) := by
  have hlt := hR.lt
  have hsz := hR.size
  have hd0 := fun wx (h : Rd wx R base (z.drop 0)) => rdot_at R base z 0 wx h hz
  have hf := fun (j : Nat) wx (h : Rd wx R base (z.drop (5 + 4 * j))) => rfour_at R base z (5 + 4 * j) wx h hz
  have ho37 := fun wx (h : Rd wx R base (z.drop 37)) => rone_at R base z 37 wx h
  have hd38 := fun wx (h : Rd wx R base (z.drop 38)) => rdot_at R base z 38 wx h hz
  have ht43 := fun wx (h : Rd wx R base (z.drop 43)) => rtruth_at R base z 43 wx h
  have ho44 := fun wx (h : Rd wx R base (z.drop 44)) => rone_at R base z 44 wx h
  have ho45 := fun wx (h : Rd wx R base (z.drop 45)) => rone_at R base z 45 wx h
  have ho46 := fun wx (h : Rd wx R base (z.drop 46)) => rone_at R base z 46 wx h
  have hzr := fun wx (h : Rd wx R base (z.drop 47)) => rzeros_any R base (z.drop 47) 11 wx h (by omega)
  have HEV : Veil (evOf z = ⟨at1 z 0, at4 z 1, pastZ z, at1 z 37, at1 z 38, at4 z 39, at1 z 43 == 1, at1 z 44, at1 z 45, at1 z 46⟩) := ⟨rfl⟩
  have HOK : Veil (evOk z ↔ (58 ≤ z.length ∧ at1 z 43 ≤ 1 ∧ ∀ j, j < 11 → at1 z (47 + j) = 0)) := ⟨Iff.rfl⟩
  have HPG : Veil (∀ j, j < 8 → (pastZ z)[j]?.getD 0 = at4 z (5 + 4 * j)) := ⟨pastZ_get z⟩
  have hPL := pastZ_length z
  obtain ⟨EV, hEV⟩ : ∃ q, evOf z = q := ⟨_, rfl⟩
  obtain ⟨OK, hOK⟩ : ∃ q, evOk z = q := ⟨_, rfl⟩
  rw [hEV] at HEV ⊢
  rw [hOK] at HOK ⊢
  obtain ⟨P, hP⟩ : ∃ q, pastZ z = q := ⟨_, rfl⟩
  rw [hP] at HEV HPG hPL
  have HPS : Veil (∀ j, j < 8 → (P.take j ++ List.replicate (8 - j) 0).set j (P[j]?.getD 0) = P.take (j + 1) ++ List.replicate (8 - (j + 1)) 0) := ⟨fun j hj => past_set P hPL j hj⟩
  have HPL : Veil (∀ j, j ≤ 8 → (P.take j ++ List.replicate (8 - j) 0).length = 8) := ⟨fun j hj => by rw [List.length_append, List.length_take, List.length_replicate]; omega⟩
  have HPL8 : Veil (P.length = 8) := ⟨hPL⟩

  obtain ⟨a0, ha0⟩ : ∃ q, at1 z 0 = q := ⟨_, rfl⟩
  obtain ⟨s0, hs0⟩ : ∃ q, at4 z 1 = q := ⟨_, rfl⟩
  obtain ⟨a1, ha1⟩ : ∃ q, at1 z 37 = q := ⟨_, rfl⟩
  obtain ⟨a2, ha2⟩ : ∃ q, at1 z 38 = q := ⟨_, rfl⟩
  obtain ⟨s2, hs2⟩ : ∃ q, at4 z 39 = q := ⟨_, rfl⟩
  obtain ⟨a3, ha3⟩ : ∃ q, at1 z 43 = q := ⟨_, rfl⟩
  obtain ⟨a4, ha4⟩ : ∃ q, at1 z 44 = q := ⟨_, rfl⟩
  obtain ⟨a5, ha5⟩ : ∃ q, at1 z 45 = q := ⟨_, rfl⟩
  obtain ⟨a6, ha6⟩ : ∃ q, at1 z 46 = q := ⟨_, rfl⟩
  have ed0 : at4 z (0 + 1) = s0 := hs0
  have ed38 : at4 z (38 + 1) = s2 := hs2
  rw [ha0, ed0] at hd0
  rw [ha2, ed38] at hd38
  rw [ha1] at ho37
  rw [ha3] at ht43
  rw [ha4] at ho44
  rw [ha5] at ho45
  rw [ha6] at ho46
  rw [ha0, hs0, ha1, ha2, hs2, ha3, ha4, ha5, ha6] at HEV
  rw [ha3] at HOK
  have hG0 := (CellsAt.new w 33 evZ.cells).alloc (.cells evZ.cells.toArray 33)
  have hG1 : CellsAt ((w.alloc (.cells evZ.cells.toArray 33)).alloc (.cells evZ.cells.toArray 33)) (w.heap.size + 1) 33 evZ.cells := by
    have := CellsAt.new (w.alloc (.cells evZ.cells.toArray 33)) 33 evZ.cells
    rw [World.size_alloc] at this
    exact this
  have hR0 := (hR.alloc (.cells evZ.cells.toArray 33)).alloc (.cells evZ.cells.toArray 33)
  have hT0 : Took w ((w.alloc (.cells evZ.cells.toArray 33)).alloc (.cells evZ.cells.toArray 33)) R base := (Took.alloc hsz _).trans (Took.alloc (by simp; omega) _)
  have r1 : base ≤ w.heap.size + 1 := by omega
  have r2 : R ≠ w.heap.size + 1 := by omega
  have r3 : R ≠ w.heap.size := by omega
  clear ha0 hs0 ha1 ha2 hs2 ha3 ha4 ha5 ha6 ed0 ed38 hR hz hEV hOK hP
  go_enter Tryz.func125, Tryz.ntmps125
  go_upto_region 2 with fail
  refine forget (p := fun y => Code.wp _ _ _ _ y) (fun W => Rd W R base (z.drop 0) ∧ Took w W R base ∧ CellsAt W w.heap.size 33 evZ.cells ∧ CellsAt W (w.heap.size + 1) 33 evZ.cells) ⟨hR0, hT0, hG0, hG1⟩ ?_
  clear hR0 hT0 hG0 hG1
  rintro W ⟨hR0, hT0, hG0, hG1⟩
  have h1W := hd0 W hR0
  clear hd0
  by_cases k0 : 5 ≤ z.length
  rotate_left
  · go_upto_region 3 with (go_at_call 165; refine h1W.mono ?_; rintro e wB (⟨hx, _⟩ | ⟨_, rfl, htB⟩); (exfalso; omega))
    exact bodyPost_gone (.inr ⟨fun h => by have := HOK.out.1 h; omega, rfl, hT0.trans htB⟩)
  go_upto_region 3 with (first
    | (go_at_call 165; refine h1W.mono ?_; rintro e w1 (⟨_, rfl, hR1, ht1⟩ | ⟨hx, _⟩); rotate_left; (exfalso; omega); have hH1 := hG1.took ht1 (by omega))
    | (refine wpList_stm rfl 26 _ _ rfl _ 0 rfl rfl hH1 sizeDot (by show 0 + 2 ≤ 17; omega) (dot_one a0 s0) ?_))
  have hH0 := hG0.took ht1 (by omega)
  refine forget (p := fun y => Code.wp _ _ _ _ y) (fun W => Rd W R base (z.drop (5 + 4 * 0)) ∧ Took w W R base ∧ CellsAt W w.heap.size 33 evZ.cells ∧ CellsAt W (w.heap.size + 1) 33 (⟨a0, s0, List.replicate 8 0, 0, 0, 0, false, 0, 0, 0⟩ : Ev).cells) ⟨hR1.setRowO _ r1 r2, (hT0.trans ht1).setRowO _ (by omega) r1, hH0.setRowOther2 _ (by omega), hH1.setRow _⟩ ?_
  clear h1W hR0 hT0 hG0 hG1 hH1 hH0 hR1 ht1 W
  rintro W ⟨hR0, hT0, hG0, hG1⟩
  go_wp2_with fail
  go_loopw [8] (fun q wr => ∃ j : Nat, j ≤ 8 ∧ q = .int .i64 j ∧ 5 + 4 * j ≤ z.length ∧ Rd wr R base (z.drop (5 + 4 * j)) ∧ Took w wr R base ∧ CellsAt wr w.heap.size 33 evZ.cells ∧ CellsAt wr (w.heap.size + 1) 33 (⟨a0, s0, P.take j ++ List.replicate (8 - j) 0, 0, 0, 0, false, 0, 0, 0⟩ : Ev).cells) (fun q _ => 8 - (intOf q).toNat)
  case atStart => exact ⟨0, by omega, rfl, by omega, hR0, hT0, hG0, hG1⟩
  case round =>
    clear hR0 hT0 hG0 hG1 W
    obtain ⟨j, hj, rfl, hzl, hR0, hT0, hG0, hG1⟩ := hrel
    by_cases hlt8 : j < 8
    · have h1W := hf j wr hR0
      have hst := HPS.out j hlt8
      have hlen := HPL.out j (by omega)
      rw [HPG.out j hlt8] at hst
      obtain ⟨V, hV⟩ : ∃ q, at4 z (5 + 4 * j) = q := ⟨_, rfl⟩
      rw [hV] at h1W hst
      have hj0 : (0 : Int) ≤ (j : Int) := by omega
      have hj8 : (j : Int) < 8 := by omega
      obtain ⟨Q, hQ⟩ : ∃ q, P.take j ++ List.replicate (8 - j) 0 = q := ⟨_, rfl⟩
      rw [hQ] at hst hlen hG1
      have HST : Veil (Q.set j V = P.take (j + 1) ++ List.replicate (8 - (j + 1)) 0) := ⟨hst⟩
      have HQL : Veil (Q.length = 8) := ⟨hlen⟩
      clear hV hst hQ hlen
      by_cases k1 : 5 + 4 * (j + 1) ≤ z.length
      · go_wp2_with (go_at_call 166; refine h1W.mono ?_; rintro e w1 (⟨_, rfl, hR1, ht1⟩ | ⟨hx, _⟩); rotate_left; (exfalso; omega); have hH1 := hG1.took ht1 (by omega); have cj := hH1.cell (2 + j); rw [ev_cell2 _ HQL.out j hlt8] at cj; have fj := hH1.frozen2 (2 + j))
        have hH0 := hG0.took ht1 (by omega)
        have hH2 := hH1.set2 (2 + j) (.int .u32 V)
        rw [ev_setPast _ HQL.out j hlt8 V] at hH2
        have e5 : 5 + 4 * j + 4 = 5 + 4 * (j + 1) := by omega
        rw [e5] at hR1
        clear e5
        go_roundw
        case rel => exact ⟨j + 1, by omega, by go_num, k1, hR1.setCellO _ _ r1 r2, (hT0.trans ht1).setCellO _ _ (by show w.heap.size ≤ w.heap.size + 1; omega) r1, hH0.setOther2 _ _ (by show w.heap.size ≠ w.heap.size + 1; omega), by rw [← HST.out]; exact hH2⟩
        case measure => simp [intOf]; omega
      · go_wp2_with (go_at_call 166; refine h1W.mono ?_; rintro e wB (⟨hx, _⟩ | ⟨_, rfl, htB⟩); (exfalso; omega))
        exact bodyPost_gone (.inr ⟨fun h => by have := (HOK.out.1 h).1; omega, rfl, hT0.trans htB⟩)
    · obtain rfl : j = 8 := by omega
      have hP8 : P.take 8 ++ List.replicate (8 - 8) 0 = P := by rw [Nat.sub_self, List.replicate_zero, List.append_nil, List.take_of_length_le (by have := HPL8.out; omega)]
      rw [hP8] at hG1
      clear hP8 HPS HPL HPG hf
      obtain ⟨W, hWW⟩ : ∃ q, wr = q := ⟨_, rfl⟩
      rw [hWW] at hR0 hT0 hG0 hG1 ⊢
      clear hWW
      have h1W := ho37 W hR0
      by_cases k9 : 38 ≤ z.length
      rotate_left
      · go_upto_region 9 with (go_at_call 167; refine h1W.mono ?_; rintro e wB (⟨hx, _⟩ | ⟨_, rfl, htB⟩); (exfalso; omega))
        exact bodyPost_gone (.inr ⟨fun h => by have := (HOK.out.1 h).1; omega, rfl, hT0.trans htB⟩)
      go_upto_region 9 with (go_at_call 167; refine h1W.mono ?_; rintro e w1 (⟨_, rfl, hR1, ht1⟩ | ⟨hx, _⟩); rotate_left; (exfalso; omega); have hH1 := hG1.took ht1 (by omega); have cj := hH1.cell 10; rw [ev_get _ HPL8.out 10 (by decide)] at cj; have fj := hH1.frozen2 10)
      have hH0 := hG0.took ht1 (by omega)
      have hH2 := hH1.set2 10 (.int .u8 a1)
      rw [ev_set _ HPL8.out 10 (by decide)] at hH2
      refine forget (p := fun y => Code.wp _ _ _ _ y) (fun W => Rd W R base (z.drop 38) ∧ Took w W R base ∧ CellsAt W w.heap.size 33 evZ.cells ∧ CellsAt W (w.heap.size + 1) 33 (⟨a0, s0, P, a1, 0, 0, false, 0, 0, 0⟩ : Ev).cells) ⟨hR1.setCellO _ _ r1 r2, (hT0.trans ht1).setCellO _ _ (by show w.heap.size ≤ w.heap.size + 1; omega) r1, hH0.setOther2 _ _ (by show w.heap.size ≠ w.heap.size + 1; omega), hH2⟩ ?_
      clear h1W ho37 hR0 hT0 hG0 hG1 hH1 hH0 hH2 hR1 ht1 cj fj W
      rintro W ⟨hR0, hT0, hG0, hG1⟩
      have h1W := hd38 W hR0
      by_cases k10 : 43 ≤ z.length
      rotate_left
      · go_upto_region 10 with (go_at_call 165; refine h1W.mono ?_; rintro e wB (⟨hx, _⟩ | ⟨_, rfl, htB⟩); (exfalso; omega))
        exact bodyPost_gone (.inr ⟨fun h => by have := (HOK.out.1 h).1; omega, rfl, hT0.trans htB⟩)
      go_upto_region 10 with (first
        | (go_at_call 165; refine h1W.mono ?_; rintro e w1 (⟨_, rfl, hR1, ht1⟩ | ⟨hx, _⟩); rotate_left; (exfalso; omega); have hH1 := hG1.took ht1 (by omega))
        | (refine wpList_stm rfl 26 _ _ rfl _ 11 rfl rfl hH1 sizeDot (by rw [ev_len _ HPL8.out]; show 11 + 2 ≤ 17; omega) (dot_one a2 s2) ?_))
      have hH0 := hG0.took ht1 (by omega)
      have hH2 := hH1.setRow ((⟨a0, s0, P, a1, 0, 0, false, 0, 0, 0⟩ : Ev).cells.take 11 ++ dotC a2 s2 ++ (⟨a0, s0, P, a1, 0, 0, false, 0, 0, 0⟩ : Ev).cells.drop (11 + (dotC a2 s2).length))
      have hH3 := hH2
      rw [ev_setPar _ HPL8.out a2 s2] at hH3
      refine forget (p := fun y => Code.wp _ _ _ _ y) (fun W => Rd W R base (z.drop 43) ∧ Took w W R base ∧ CellsAt W w.heap.size 33 evZ.cells ∧ CellsAt W (w.heap.size + 1) 33 (⟨a0, s0, P, a1, a2, s2, false, 0, 0, 0⟩ : Ev).cells) ⟨hR1.setRowO _ r1 r2, (hT0.trans ht1).setRowO _ (by omega) r1, hH0.setRowOther2 _ (by omega), by first | exact hH3 | (rw [ev_setPar _ HPL8.out a2 s2]; exact hH3)⟩ ?_
      clear h1W hd38 hR0 hT0 hG0 hG1 hH1 hH0 hH2 hH3 hR1 ht1 W
      rintro W ⟨hR0, hT0, hG0, hG1⟩
      have h1W := ht43 W hR0
      by_cases k11 : 44 ≤ z.length ∧ a3 ≤ 1
      rotate_left
      · go_upto_region 11 with (go_at_call 168; refine h1W.mono ?_; rintro e wB (⟨hx, _⟩ | ⟨_, rfl, htB⟩); (exact absurd hx k11))
        exact bodyPost_gone (.inr ⟨fun h => k11 ⟨by have := (HOK.out.1 h).1; omega, (HOK.out.1 h).2.1⟩, rfl, hT0.trans htB⟩)
      go_upto_region 11 with (go_at_call 168; refine h1W.mono ?_; rintro e w1 (⟨_, rfl, hR1, ht1⟩ | ⟨hx, _⟩); rotate_left; (exact absurd k11 hx); have hH1 := hG1.took ht1 (by omega); have cj := hH1.cell 13; rw [ev_get _ HPL8.out 13 (by decide)] at cj; have fj := hH1.frozen2 13)
      have hH0 := hG0.took ht1 (by omega)
      have hH2 := hH1.set2 13 (.bool (a3 == 1))
      rw [ev_set _ HPL8.out 13 (by decide)] at hH2
      refine forget (p := fun y => Code.wp _ _ _ _ y) (fun W => Rd W R base (z.drop 44) ∧ Took w W R base ∧ CellsAt W w.heap.size 33 evZ.cells ∧ CellsAt W (w.heap.size + 1) 33 (⟨a0, s0, P, a1, a2, s2, a3 == 1, 0, 0, 0⟩ : Ev).cells) ⟨hR1.setCellO _ _ r1 r2, (hT0.trans ht1).setCellO _ _ (by show w.heap.size ≤ w.heap.size + 1; omega) r1, hH0.setOther2 _ _ (by show w.heap.size ≠ w.heap.size + 1; omega), hH2⟩ ?_
      clear h1W ht43 hR0 hT0 hG0 hG1 hH1 hH0 hH2 hR1 ht1 cj fj W
      rintro W ⟨hR0, hT0, hG0, hG1⟩
      have h1W := ho44 W hR0
      by_cases k12 : 45 ≤ z.length
      rotate_left
      · go_upto_region 12 with (go_at_call 167; refine h1W.mono ?_; rintro e wB (⟨hx, _⟩ | ⟨_, rfl, htB⟩); (exfalso; omega))
        exact bodyPost_gone (.inr ⟨fun h => by have := (HOK.out.1 h).1; omega, rfl, hT0.trans htB⟩)
      go_upto_region 12 with (go_at_call 167; refine h1W.mono ?_; rintro e w1 (⟨_, rfl, hR1, ht1⟩ | ⟨hx, _⟩); rotate_left; (exfalso; omega); have hH1 := hG1.took ht1 (by omega); have cj := hH1.cell 14; rw [ev_get _ HPL8.out 14 (by decide)] at cj; have fj := hH1.frozen2 14)
      have hH0 := hG0.took ht1 (by omega)
      have hH2 := hH1.set2 14 (.int .u8 a4)
      rw [ev_set _ HPL8.out 14 (by decide)] at hH2
      refine forget (p := fun y => Code.wp _ _ _ _ y) (fun W => Rd W R base (z.drop 45) ∧ Took w W R base ∧ CellsAt W w.heap.size 33 evZ.cells ∧ CellsAt W (w.heap.size + 1) 33 (⟨a0, s0, P, a1, a2, s2, a3 == 1, a4, 0, 0⟩ : Ev).cells) ⟨hR1.setCellO _ _ r1 r2, (hT0.trans ht1).setCellO _ _ (by show w.heap.size ≤ w.heap.size + 1; omega) r1, hH0.setOther2 _ _ (by show w.heap.size ≠ w.heap.size + 1; omega), hH2⟩ ?_
      clear h1W ho44 hR0 hT0 hG0 hG1 hH1 hH0 hH2 hR1 ht1 cj fj W
      rintro W ⟨hR0, hT0, hG0, hG1⟩
      have h1W := ho45 W hR0
      by_cases k13 : 46 ≤ z.length
      rotate_left
      · go_upto_region 13 with (go_at_call 167; refine h1W.mono ?_; rintro e wB (⟨hx, _⟩ | ⟨_, rfl, htB⟩); (exfalso; omega))
        exact bodyPost_gone (.inr ⟨fun h => by have := (HOK.out.1 h).1; omega, rfl, hT0.trans htB⟩)
      go_upto_region 13 with (go_at_call 167; refine h1W.mono ?_; rintro e w1 (⟨_, rfl, hR1, ht1⟩ | ⟨hx, _⟩); rotate_left; (exfalso; omega); have hH1 := hG1.took ht1 (by omega); have cj := hH1.cell 15; rw [ev_get _ HPL8.out 15 (by decide)] at cj; have fj := hH1.frozen2 15)
      have hH0 := hG0.took ht1 (by omega)
      have hH2 := hH1.set2 15 (.int .u8 a5)
      rw [ev_set _ HPL8.out 15 (by decide)] at hH2
      refine forget (p := fun y => Code.wp _ _ _ _ y) (fun W => Rd W R base (z.drop 46) ∧ Took w W R base ∧ CellsAt W w.heap.size 33 evZ.cells ∧ CellsAt W (w.heap.size + 1) 33 (⟨a0, s0, P, a1, a2, s2, a3 == 1, a4, a5, 0⟩ : Ev).cells) ⟨hR1.setCellO _ _ r1 r2, (hT0.trans ht1).setCellO _ _ (by show w.heap.size ≤ w.heap.size + 1; omega) r1, hH0.setOther2 _ _ (by show w.heap.size ≠ w.heap.size + 1; omega), hH2⟩ ?_
      clear h1W ho45 hR0 hT0 hG0 hG1 hH1 hH0 hH2 hR1 ht1 cj fj W
      rintro W ⟨hR0, hT0, hG0, hG1⟩
      have h1W := ho46 W hR0
      by_cases k14 : 47 ≤ z.length
      rotate_left
      · go_upto_region 14 with (go_at_call 167; refine h1W.mono ?_; rintro e wB (⟨hx, _⟩ | ⟨_, rfl, htB⟩); (exfalso; omega))
        exact bodyPost_gone (.inr ⟨fun h => by have := (HOK.out.1 h).1; omega, rfl, hT0.trans htB⟩)
      go_upto_region 14 with (go_at_call 167; refine h1W.mono ?_; rintro e w1 (⟨_, rfl, hR1, ht1⟩ | ⟨hx, _⟩); rotate_left; (exfalso; omega); have hH1 := hG1.took ht1 (by omega); have cj := hH1.cell 16; rw [ev_get _ HPL8.out 16 (by decide)] at cj; have fj := hH1.frozen2 16)
      have hH0 := hG0.took ht1 (by omega)
      have hH2 := hH1.set2 16 (.int .u8 a6)
      rw [ev_set _ HPL8.out 16 (by decide)] at hH2
      refine forget (p := fun y => Code.wp _ _ _ _ y) (fun W => Rd W R base (z.drop 47) ∧ Took w W R base ∧ CellsAt W w.heap.size 33 evZ.cells ∧ CellsAt W (w.heap.size + 1) 33 (⟨a0, s0, P, a1, a2, s2, a3 == 1, a4, a5, a6⟩ : Ev).cells) ⟨hR1.setCellO _ _ r1 r2, (hT0.trans ht1).setCellO _ _ (by show w.heap.size ≤ w.heap.size + 1; omega) r1, hH0.setOther2 _ _ (by show w.heap.size ≠ w.heap.size + 1; omega), hH2⟩ ?_
      clear h1W ho46 hR0 hT0 hG0 hG1 hH1 hH0 hH2 hR1 ht1 cj fj W
      rintro W ⟨hR0, hT0, hG0, hG1⟩
      have h1W := hzr W hR0
      by_cases kz : 58 ≤ z.length ∧ ∀ j, j < 11 → at1 z (47 + j) = 0
      · have hzc : 11 ≤ (z.drop 47).length ∧ ∀ j, j < 11 → (z.drop 47)[j]?.getD 0 = 0 := ⟨by rw [List.length_drop]; omega, fun j hj => by rw [drop_at]; exact kz.2 j hj⟩
        have HZ : Veil (11 ≤ (z.drop 47).length ∧ ∀ j, j < 11 → (z.drop 47)[j]?.getD 0 = 0) := ⟨hzc⟩
        have HKZ : Veil (58 ≤ z.length ∧ ∀ j, j < 11 → at1 z (47 + j) = 0) := ⟨kz⟩
        clear hzc kz
        go_upto_region 15 with (go_at_call 169; refine h1W.mono ?_; rintro e w1 (⟨_, ⟨r1', rfl⟩, hR1, ht1⟩ | ⟨hx, _⟩); rotate_left; (exact absurd HZ.out hx))
        have hH1 := hG1.took ht1 (by omega)
        have hH0 := hG0.took ht1 (by omega)
        rw [← HEV.out] at hH1
        have hT1 := hT0.trans ht1
        have hel : EV.cells.length = 17 := by rw [HEV.out]; exact ev_len _ HPL8.out
        have hiE : (Tryz.prog.info? 33).map (·.size) = some EV.cells.length := by rw [hel]; exact sizeEv17
        have hlE : evZ.cells.length = EV.cells.length := by rw [hel]; rfl
        have h1E := ev_one EV
        rw [List.drop_drop] at hR1
        have rE := hH1.whole2
        clear h1W hzr hR0 hT0 hG0 hG1 ht1 hel
        go_wp2_with (first
          | (refine wpList_ldv rfl 33 _ rfl _ _ rfl EV.cells rE Tryz.underlying33 rfl hiE ?_)
          | (refine wpList_stv rfl 33 _ _ rfl _ rfl rfl hH0 hiE hlE h1E ?_))
        refine bodyPost_ret (results_cell_row (Tryz.results125) _ _ _ _ _ (0, 0) _ rfl (hH0.setRow EV.cells) Tryz.underlying33 rfl (by rw [hiE]; simp)) rfl ?_
        exact .inl ⟨HOK.out.2 ⟨HKZ.out.1, k11.2, HKZ.out.2⟩, rfl, hR1.setRowO _ hsz r3, hT1.setRowO _ (Nat.le_refl _) hsz⟩
      · have hzc : ¬ (11 ≤ (z.drop 47).length ∧ ∀ j, j < 11 → (z.drop 47)[j]?.getD 0 = 0) := fun h => kz ⟨by have := h.1; rw [List.length_drop] at this; omega, fun j hj => by have := h.2 j hj; rw [drop_at] at this; exact this⟩
        have HZ : Veil (¬ (11 ≤ (z.drop 47).length ∧ ∀ j, j < 11 → (z.drop 47)[j]?.getD 0 = 0)) := ⟨hzc⟩
        have HKZ : Veil (¬ (58 ≤ z.length ∧ ∀ j, j < 11 → at1 z (47 + j) = 0)) := ⟨kz⟩
        clear hzc kz
        go_upto_region 15 with (go_at_call 169; refine h1W.mono ?_; rintro e wB (⟨hx, _⟩ | ⟨_, rfl, htB⟩); (exact absurd hx HZ.out))
        exact bodyPost_gone (.inr ⟨fun h => HKZ.out ⟨(HOK.out.1 h).1, (HOK.out.1 h).2.2⟩, rfl, hT0.trans htB⟩)
end Go.Proofs.YtfainlfiphdaeaaGreatDoor

namespace Go.Proofs.YtfainlfiphdaeaaGreatDoor
open Go.RowKit
set_option maxRecDepth 20000
set_option linter.unusedSimpArgs false

theorem rangeBytes {w : World} {g o : Nat} {l : List Int} {n : Nat} (h : w.rangeAt g o (l.map (Value.int .u8))) (hn : n = l.length) (hl : l.length ≤ 4000000) : Bytes w (some ⟨g, o, none⟩) n n l := by
  subst hn
  exact ⟨rfl, Nat.le_refl _, by omega, (fun h => by cases h), .inr ⟨g, o, rfl, fun j hj => h j _ (by rw [List.getElem?_map, List.getElem?_eq_getElem hj]; rfl)⟩⟩
theorem Wr.setRow {w : World} {H base g : Nat} {L : List Int} {t : TypeId} {old : List Value} (h : Wr w H base L) (hc : CellsAt w g t old) (ht : t ≠ 5) (hne : H ≠ g) (cs : Array Value) : Wr (w.setRow g cs) H base L := by
  obtain ⟨v, hb, ho⟩ := h.has
  refine ⟨h.ge, v, ?_, ho.1, ?_⟩
  · unfold Box at hb ⊢
    rw [setRow_other w g H cs hne]; exact hb
  · rcases ho.2 with h' | ⟨g', cap, cur, h1, h2, h3, h4⟩
    · exact .inl h'
    · refine .inr ⟨g', cap, cur, h1, h2, ?_, h4⟩
      rw [setRow_other w g g' cs (fun e => by
        subst e
        unfold CellsAt at hc
        rw [h3] at hc
        simp at hc
        exact ht hc.2.symm)]
      exact h3
def zeroWp : List Value := [.int .u8 0] ++ dotC 0 0 ++ (List.replicate 48 0).map (Value.int .u8)

set_option maxHeartbeats 8000000 in
theorem openly_any (H base : Nat) (L : List Int) (F : Fr) (xw : Option Addr) (lw cw : Nat) (ws : List Wp) (w : World) (hW : Wr w H base L) (hp : F.prev.length = 32) (hm : F.mac.length = 32) (hfw : F.wraps = .slice xw lw cw) (hws : ∀ wx, Below base w wx → WrapsAt wx xw lw cw ws) (hl : lw ≤ 255) (hln : L.length ≤ 1000000) :
    Calls Tryz.prog 111 #[.pointer (some ⟨H, 0, none⟩), .agg F.cells.toArray] w fun e w' => (∃ r, e = .returned r) ∧ Wr w' H base (L ++ openL F ws) ∧ Went w w' H base := by
  have hsz := hW.size
  have hlt : H < w.heap.size := by obtain ⟨v, h1, _⟩ := hW.has; exact h1.lt
  have hD0 := CellsAt.new w 43 F.cells
  have hgo := Went.alloc (H := H) hsz (.cells F.cells.toArray 43)
  have hW0 := hW.alloc (.cells F.cells.toArray 43)
  have HP : Veil (F.cells.length = 70 ∧ F.cells[0]? = some (.int .u8 F.author) ∧ F.cells[1]? = some (.int .u32 F.number) ∧ (F.cells.drop 2).take 2 = dotC F.ea F.es ∧ (F.cells.drop 4).take 32 = F.prev.map (Value.int .u8) ∧ F.cells[36]? = some F.wraps ∧ F.cells[37]? = some F.body ∧ (F.cells.drop 38).take 32 = F.mac.map (Value.int .u8)) := ⟨fr_parts F hp hm⟩
  have HPL : Veil (F.prev.length = 32) := ⟨hp⟩
  have HWS : Veil (∀ wx, Below base w wx → WrapsAt wx xw lw cw ws) := ⟨hws⟩
  have HFW : Veil (F.wraps = .slice xw lw cw) := ⟨hfw⟩
  have hw0 := hws w (Below.refl _ _)
  have HLW : Veil (lw = ws.length) := ⟨hw0.len_eq⟩
  have HOK : Veil (∀ e ∈ ws, e.data.length = 48) := ⟨hw0.ok⟩
  have hcw := hw0.le
  have htw := hw0.top
  clear hW hp hm hfw hws hw0
  go_enter Tryz.func111, Tryz.ntmps111
  go_upto_region 1 with fail
  refine forget (p := fun y => Code.wp _ _ _ _ y) (fun W0 => Went w W0 H base ∧ Wr W0 H base L ∧ CellsAt W0 w.heap.size 43 F.cells) ⟨hgo, hW0, hD0⟩ ?_
  clear hgo hW0 hD0
  rintro W0 ⟨hg0, hW0, hD0⟩
  have hs0 := hW0.size
  have c0 : W0.cell? ⟨w.heap.size, 0, none⟩ = some (.int .u8 F.author) := by rw [hD0.cell]; exact HP.out.2.1
  have hp0 := put_any H base L (some ⟨W0.heap.size, 0, none⟩) 3 3 [69, 83, F.author] (W0.alloc (.cells (row .u8 [69, 83, F.author]) 5)) (hW0.alloc _) (new_bytes W0 [69, 83, F.author] (by simp)) (by omega)
  have hgo := Went.alloc (H := H) hs0 (.cells (row .u8 [69, 83, F.author]) 5)
  go_upto_region 2 with (go_at_call 103; refine hp0.mono ?_; rintro e w1 ⟨⟨r1, rfl⟩, hW1, hg1⟩)
  have hD1 := (hD0.went hgo (by omega) (by decide)).went hg1 (by omega) (by decide)
  have hg01 := hg0.trans (hgo.trans hg1)
  have hl1 : (L ++ [69, 83, F.author]).length ≤ 1000003 := by rw [List.length_append]; simp; omega
  obtain ⟨L1, hL1⟩ : ∃ q, L ++ [69, 83, F.author] = q := ⟨_, rfl⟩
  have HL1 : Veil (L ++ [69, 83, F.author] = L1) := ⟨hL1⟩
  rw [hL1] at hW1 hl1
  have c1 : w1.cell? ⟨w.heap.size, 1, none⟩ = some (.int .u32 F.number) := by rw [hD1.cell]; exact HP.out.2.2.1
  have hf1 := four_any H base L1 F.number w1 hW1 (by omega)
  clear hp0 c0 hgo hg0 hg1 hD0 hW0 hL1
  go_upto_region 3 with (go_at_call 150; refine hf1.mono ?_; rintro e w2 ⟨⟨r2, rfl⟩, hW2, hg2⟩)
  have hD2 := hD1.went hg2 (by omega) (by decide)
  have hg02 := hg01.trans hg2
  have hl2 : (L1 ++ be4 F.number).length ≤ 1000007 := by rw [List.length_append, be4_length]; omega
  obtain ⟨L2, hL2⟩ : ∃ q, L1 ++ be4 F.number = q := ⟨_, rfl⟩
  have HL2 : Veil (L1 ++ be4 F.number = L2) := ⟨hL2⟩
  rw [hL2] at hW2 hl2
  have hdt := dot_any H base L2 F.ea F.es w2 hW2 (by omega)
  have rD : w2.rangeAt w.heap.size 2 (dotC F.ea F.es) := by
    have := hD2.range 2 2
    rw [HP.out.2.2.2.1] at this
    exact this
  clear hf1 c1 hg01 hg2 hD1 hW1 hL2
  go_upto_region 4 with (first
    | (refine wpList_ldv rfl 26 _ rfl _ _ rfl (dotC F.ea F.es) rD Tryz.underlying26 rfl sizeDot ?_)
    | (go_at_call 149; refine hdt.mono ?_; rintro e w3 ⟨⟨r3, rfl⟩, hW3, hg3⟩))
  have hD3 := hD2.went hg3 (by omega) (by decide)
  have hg03 := hg02.trans hg3
  have hl3 : (L2 ++ dotL F.ea F.es).length ≤ 1000020 := by rw [List.length_append, dotL_length]; omega
  obtain ⟨L3, hL3⟩ : ∃ q, L2 ++ dotL F.ea F.es = q := ⟨_, rfl⟩
  have HL3 : Veil (L2 ++ dotL F.ea F.es = L3) := ⟨hL3⟩
  rw [hL3] at hW3 hl3
  have rP : w3.rangeAt w.heap.size 4 (F.prev.map (Value.int .u8)) := by
    have := hD3.range 4 32
    rw [HP.out.2.2.2.2.1] at this
    exact this
  have hpP := put_any H base L3 (some ⟨w.heap.size, 4, none⟩) 32 32 F.prev w3 hW3 (rangeBytes rP HPL.out.symm (by rw [HPL.out]; omega)) (by omega)
  clear hdt rD hg02 hg3 hD2 hW2 hL3
  go_upto_region 5 with (go_at_call 103; refine hpP.mono ?_; rintro e w4 ⟨⟨r4, rfl⟩, hW4, hg4⟩)
  have hD4 := hD3.went hg4 (by omega) (by decide)
  have hg04 := hg03.trans hg4
  have hl4 : (L3 ++ F.prev).length ≤ 1000100 := by rw [List.length_append, HPL.out]; omega
  obtain ⟨L4, hL4⟩ : ∃ q, L3 ++ F.prev = q := ⟨_, rfl⟩
  have HL4 : Veil (L3 ++ F.prev = L4) := ⟨hL4⟩
  rw [hL4] at hW4 hl4
  have c36 : w4.cell? ⟨w.heap.size, 36, none⟩ = some (.slice xw lw cw) := by rw [hD4.cell, ← HFW.out]; exact HP.out.2.2.2.2.2.1
  have hs4 := hW4.size
  have hwr : IntKind.u8.wrap (lw : Int) = (lw : Int) := by rw [IntKind.wrap_u8]; omega
  have hp5 := put_any H base L4 (some ⟨w4.heap.size, 0, none⟩) 1 1 [(lw : Int)] (w4.alloc (.cells (row .u8 [(lw : Int)]) 5)) (hW4.alloc _) (new_bytes w4 [(lw : Int)] (by simp)) (by omega)
  have hgo := Went.alloc (H := H) hs4 (.cells (row .u8 [(lw : Int)]) 5)
  clear hpP rP hg03 hg4 hD3 hW3 hL4
  go_upto_region 6 with (go_at_call 103; refine hp5.mono ?_; rintro e w5 ⟨⟨r5, rfl⟩, hW5, hg5⟩)
  have hD5 := (hD4.went hgo (by omega) (by decide)).went hg5 (by omega) (by decide)
  have hg05 := hg04.trans (hgo.trans hg5)
  have hl5 : (L4 ++ [(lw : Int)]).length ≤ 1000101 := by rw [List.length_append]; simp; omega
  obtain ⟨L5, hL5⟩ : ∃ q, L4 ++ [(lw : Int)] = q := ⟨_, rfl⟩
  have HL5 : Veil (L4 ++ [(lw : Int)] = L5) := ⟨hL5⟩
  rw [hL5] at hW5 hl5
  have c36 : w5.cell? ⟨w.heap.size, 36, none⟩ = some (.slice xw lw cw) := by rw [hD5.cell, ← HFW.out]; exact HP.out.2.2.2.2.2.1
  clear hp5 hgo hg04 hg5 hD4 hW4 hL5 hwr
  go_wp2_with fail
  go_loopw [33] (fun q wr => ∃ j : Nat, j ≤ lw ∧ q = .int .i64 j ∧ Wr wr H base (L5 ++ wrapsL (ws.take j)) ∧ Went w wr H base) (fun q _ => lw - (intOf q).toNat)
  case atStart => exact ⟨0, by omega, rfl, by simpa [wrapsL] using hW5, hg05⟩
  case round =>
    clear hW5 hg05 hD5 c36
    obtain ⟨j, hj, rfl, hW1, hg1⟩ := hrel
    have hlen : (wrapsL (ws.take j)).length ≤ 54 * 255 := by
      rw [wrapsL_le _ (fun e he => HOK.out e (List.mem_of_mem_take he)), List.length_take]; omega
    by_cases hlt : j < lw
    · have hjw : j < ws.length := by have := HLW.out; omega
      obtain ⟨b, off, hx, hrg⟩ : ∃ b off, xw = some ⟨b, off, none⟩ ∧ ∀ j (hj : j < ws.length), wr.rangeAt b (off + j * 51) (ws[j]).cells := by
        rcases (HWS.out wr hg1.below).at_ with h0 | h
        · omega
        · exact h
      subst hx
      have hr := hrg j hjw
      have hts := wrapsL_take ws j hjw
      have hok := HOK.out ws[j] (List.getElem_mem hjw)
      obtain ⟨E, hE⟩ : ∃ q, ws[j] = q := ⟨_, rfl⟩
      rw [hE] at hr hts hok
      have HTS : Veil (L5 ++ wrapsL (ws.take j) ++ wrapL E = L5 ++ wrapsL (ws.take (j + 1))) := ⟨by rw [hts, List.append_assoc]⟩
      obtain ⟨q1, q2, q3, q4, q5⟩ := wp_parts E hok
      have HQ : Veil (E.cells[0]? = some (.int .u8 E.too) ∧ (E.cells.drop 1).take 2 = dotC E.ea E.es ∧ (E.cells.drop 3).take 48 = E.data.map (Value.int .u8)) := ⟨q2, q3, q4⟩
      have HOKE : Veil (E.data.length = 48) := ⟨hok⟩
      have hsW := hg1.below.size
      have hsz1 := hW1.size
      have hl6 : (L5 ++ wrapsL (ws.take j)).length ≤ 1100000 := by rw [List.length_append]; omega
      obtain ⟨A, hA⟩ : ∃ q, L5 ++ wrapsL (ws.take j) = q := ⟨_, rfl⟩
      rw [hA] at hW1 HTS hl6
      have hltw : H < wr.heap.size := by obtain ⟨v, h1, _⟩ := hW1.has; exact h1.lt
      have hZ0 : CellsAt (wr.alloc (.cells zeroWp.toArray 73)) wr.heap.size 73 zeroWp := CellsAt.new wr 73 zeroWp
      have hWZ := hW1.alloc (.cells zeroWp.toArray 73)
      have hgZ := hg1.trans (Went.alloc (H := H) hsz1 (.cells zeroWp.toArray 73))
      have hj0 : (0 : Int) ≤ (j : Int) := by omega
      have hjl : (j : Int) < (lw : Int) := by omega
      have hiW : (Tryz.prog.info? 73).map (·.size) = some E.cells.length := by rw [q1]; exact sizeWrap
      have hzl : zeroWp.length = E.cells.length := by rw [q1]; rfl
      clear hrg hts hE hA q1 q2 q3 q4 hlen hjw hok
      go_upto_region 9 with (first
        | (refine wpList_ldv rfl 73 _ rfl _ _ rfl E.cells hr Tryz.underlying73 rfl hiW ?_)
        | (refine wpList_stv rfl 73 _ _ rfl _ rfl rfl hZ0 hiW hzl q5 ?_))
      refine forget (p := fun y => Code.wp _ _ _ _ y) (fun W1 => Went w W1 H base ∧ Wr W1 H base A ∧ CellsAt W1 wr.heap.size 73 E.cells) ⟨Went.setRow (by omega) w (by omega) hgZ _, hWZ.setRow hZ0 (by decide) (by omega) _, hZ0.setRow _⟩ ?_
      obtain ⟨G, hG⟩ : ∃ q, wr.heap.size = q := ⟨_, rfl⟩
      rw [hG] at hltw hsW ⊢
      clear hZ0 hWZ hgZ hr hiW hzl q5 hG hW1 hg1 hsz1
      rintro W1 ⟨hg1, hW1, hD1⟩
      have hs1 := hW1.size
      have c0 : W1.cell? ⟨G, 0, none⟩ = some (.int .u8 E.too) := by rw [hD1.cell]; exact HQ.out.1
      have hp1 := put_any H base A (some ⟨W1.heap.size, 0, none⟩) 1 1 [E.too] (W1.alloc (.cells (row .u8 [E.too]) 5)) (hW1.alloc _) (new_bytes W1 [E.too] (by simp)) (by omega)
      have hgo := Went.alloc (H := H) hs1 (.cells (row .u8 [E.too]) 5)
      go_upto_region 10 with (go_at_call 103; refine hp1.mono ?_; rintro e w2 ⟨⟨r2, rfl⟩, hW2, hg2⟩)
      have hD2 := (hD1.went hgo (by omega) (by decide)).went hg2 (by omega) (by decide)
      have hg02 := hg1.trans (hgo.trans hg2)
      have hdt := dot_any H base (A ++ [E.too]) E.ea E.es w2 hW2 (by rw [List.length_append]; simp; omega)
      have rD : w2.rangeAt G 1 (dotC E.ea E.es) := by
        have := hD2.range 1 2
        rw [HQ.out.2.1] at this
        exact this
      clear hp1 c0 hgo hg1 hg2 hD1 hW1
      go_upto_region 11 with (first
        | (refine wpList_ldv rfl 26 _ rfl _ _ rfl (dotC E.ea E.es) rD Tryz.underlying26 rfl sizeDot ?_)
        | (go_at_call 149; refine hdt.mono ?_; rintro e w3 ⟨⟨r3, rfl⟩, hW3, hg3⟩))
      have hD3 := hD2.went hg3 (by omega) (by decide)
      have hg03 := hg02.trans hg3
      have rP : w3.rangeAt G 3 (E.data.map (Value.int .u8)) := by
        have := hD3.range 3 48
        rw [HQ.out.2.2] at this
        exact this
      have hpP := put_any H base (A ++ [E.too] ++ dotL E.ea E.es) (some ⟨G, 3, none⟩) 48 48 E.data w3 hW3 (rangeBytes rP HOKE.out.symm (by rw [HOKE.out]; omega)) (by rw [List.length_append, List.length_append, dotL_length]; simp; omega)
      clear hdt rD hg02 hg3 hD2 hW2
      go_wp2_with (go_at_call 103; refine hpP.mono ?_; rintro e w4 ⟨⟨r4, rfl⟩, hW4, hg4⟩)
      have hW4' : Wr w4 H base (L5 ++ wrapsL (ws.take (j + 1))) := by
        rw [← HTS.out]
        unfold wrapL
        simp only [List.append_assoc] at hW4 ⊢
        exact hW4
      clear hW4
      go_roundw
      case rel => exact ⟨j + 1, by omega, by go_num, hW4', hg03.trans hg4⟩
      case measure => simp [intOf]; omega
    · obtain rfl : j = lw := by omega
      have HA : Veil (ws.take j = ws) := ⟨List.take_of_length_le (by have := HLW.out; omega)⟩
      rw [HA.out] at hW1
      go_wp2
      go_end0
      refine ⟨⟨_, rfl⟩, ?_, hg1⟩
      rw [← HL5.out, ← HL4.out, ← HL3.out, ← HL2.out, ← HL1.out, HLW.out] at hW1
      unfold openL
      simp only [List.append_assoc] at hW1 ⊢
      exact hW1
end Go.Proofs.YtfainlfiphdaeaaGreatDoor

namespace Go.Proofs.YtfainlfiphdaeaaGreatDoor
open Go.RowKit
set_option maxRecDepth 20000
set_option linter.unusedSimpArgs false

/-- A frame's bytes. -/
def frameL (f : Fr) (ws : List Wp) (body : List Int) : List Int := openL f ws ++ be2 body.length ++ body ++ f.mac
theorem openL_length (f : Fr) (ws : List Wp) (hp : f.prev.length = 32) (h : ∀ e ∈ ws, e.data.length = 48) : (openL f ws).length = 45 + 54 * ws.length := by
  unfold openL
  simp only [List.length_append, be4_length, dotL_length, hp, wrapsL_le ws h, List.length_cons, List.length_nil]
theorem sizeFrame : (Tryz.prog.info? 43).map (·.size) = some 70 := by kernel_rfl

set_option maxHeartbeats 4000000 in
theorem Frame_long (F : Fr) (xw : Option Addr) (lw cw : Nat) (xb : Option Addr) (lb cb : Nat) (w : World) (hp : F.prev.length = 32) (hm : F.mac.length = 32) (hfw : F.wraps = .slice xw lw cw) (hfb : F.body = .slice xb lb cb) (hl : 64 < lw ∨ 4112 < lb) :
    Calls Tryz.prog 76 #[.agg F.cells.toArray] w fun e w' => e = .returned (.tuple #[.slice none 0 0, .int .i64 2]) ∧ Below w.heap.size w w' := by
  obtain ⟨_, _, _, _, _, q6, q7, _⟩ := fr_parts F hp hm
  have hD0 := CellsAt.new w 43 F.cells
  have hB0 : Below w.heap.size w (w.alloc (.cells F.cells.toArray 43)) := (Below.refl _ _).alloc (Nat.le_refl _) _
  have c36 := hD0.cell 36
  have c37 := hD0.cell 37
  rw [q6, hfw] at c36
  rw [q7, hfb] at c37
  clear q6 q7 hfw hfb hp hm hD0
  by_cases h1 : 64 < lw
  · have h1' : (lw : Int) > 64 := by omega
    clear hl
    go_enter Tryz.func76, Tryz.ntmps76
    go_wp2
    go_ret2
    exact ⟨rfl, hB0⟩
  · have h1' : ¬ (lw : Int) > 64 := by omega
    have h2' : (lb : Int) > 4112 := by omega
    clear hl
    go_enter Tryz.func76, Tryz.ntmps76
    go_wp2
    go_ret2
    exact ⟨rfl, hB0⟩

set_option maxHeartbeats 4000000 in
theorem Frame_any (F : Fr) (xw : Option Addr) (lw cw : Nat) (ws : List Wp) (xb : Option Addr) (lb cb : Nat) (body : List Int) (w : World) (hp : F.prev.length = 32) (hm : F.mac.length = 32) (hfw : F.wraps = .slice xw lw cw) (hws : WrapsAt w xw lw cw ws) (hfb : F.body = .slice xb lb cb) (hbo : Bytes w xb lb cb body) (h1 : lw ≤ 64) (h2 : lb ≤ 4112) :
    Calls Tryz.prog 76 #[.agg F.cells.toArray] w fun e w' => ∃ v, e = .returned (.tuple #[v, .int .i64 0]) ∧ OwnB w' w.heap.size v (frameL F ws body) ∧ Below w.heap.size w w' := by
  obtain ⟨q0, _, _, _, _, q6, q7, q8⟩ := fr_parts F hp hm
  have HQ : Veil (F.cells[36]? = some (.slice xw lw cw) ∧ F.cells[37]? = some (.slice xb lb cb) ∧ (F.cells.drop 38).take 32 = F.mac.map (Value.int .u8)) := ⟨by rw [← hfw]; exact q6, by rw [← hfb]; exact q7, q8⟩
  have hiF : (Tryz.prog.info? 43).map (·.size) = some F.cells.length := by rw [q0]; exact sizeFrame
  have hol := openL_length F ws hp hws.ok
  rw [← hws.len_eq] at hol
  have HBL : Veil (body.length = lb) := ⟨hbo.len_eq.symm⟩
  have HML : Veil (F.mac.length = 32) := ⟨hm⟩
  have hbody := fun wx (h : Below w.heap.size w wx) => hbo.below h
  have hop := fun wx (h0 : Below w.heap.size w wx) (h : Wr wx (w.heap.size + 1) w.heap.size []) => openly_any (w.heap.size + 1) w.heap.size [] F xw lw cw ws wx h hp hm hfw (fun wy hy => hws.below (h0.trans hy)) (by omega) (by simp)
  have hD0 := CellsAt.new w 43 F.cells
  have hB0 : Below w.heap.size w (w.alloc (.cells F.cells.toArray 43)) := (Below.refl _ _).alloc (Nat.le_refl _) _
  have h1' : ¬ (lw : Int) > 64 := by omega
  have h2' : ¬ (lb : Int) > 4112 := by omega
  have c36 := hD0.cell 36
  have c37 := hD0.cell 37
  rw [HQ.out.1] at c36
  rw [HQ.out.2.1] at c37
  have hcw := hws.le
  have htw := hws.top
  have hcb := hbo.le
  have htb := hbo.top
  clear q0 q6 q7 q8 hfw hfb hp hm hws hbo
  go_enter Tryz.func76, Tryz.ntmps76
  go_upto_region 3 with fail
  refine forget (p := fun y => Code.wp _ _ _ _ y) (fun W0 => Below w.heap.size w W0 ∧ W0.heap.size = w.heap.size + 1 ∧ CellsAt W0 w.heap.size 43 F.cells) ⟨hB0, by simp, hD0⟩ ?_
  clear hB0 hD0 c36 c37
  rintro W0 ⟨hB0, hsz0, hD0⟩
  have hbx : Box (W0.alloc (.cells #[.slice none 0 0] 143)) (w.heap.size + 1) 143 (.slice none 0 0) := by
    have : Box (W0.alloc (.cells #[.slice none 0 0] 143)) W0.heap.size 143 (.slice none 0 0) := heap_alloc_new _ _
    rw [hsz0] at this
    exact this
  have hW1 : Wr (W0.alloc (.cells #[.slice none 0 0] 143)) (w.heap.size + 1) w.heap.size [] := ⟨by omega, _, hbx, OwnB.nil _ _⟩
  have hD1 := hD0.alloc (.cells #[.slice none 0 0] 143)
  have hB1 := hB0.alloc hB0.size (.cells #[.slice none 0 0] 143)
  go_upto_region 4 with fail
  refine forget (p := fun y => Code.wp _ _ _ _ y) (fun W1 => Below w.heap.size w W1 ∧ Wr W1 (w.heap.size + 1) w.heap.size [] ∧ CellsAt W1 w.heap.size 43 F.cells) ⟨hB1, hW1, hD1⟩ ?_
  clear hB1 hW1 hD1 hbx hB0 hD0 hsz0
  rintro W1 ⟨hB1, hW1, hD1⟩
  have rE : W1.rangeAt w.heap.size 0 F.cells := fun j v hv => by rw [Nat.zero_add, hD1.cell]; exact hv
  have hop1 := hop W1 hB1 hW1
  rw [List.nil_append] at hop1
  go_upto_region 5 with (first
    | (refine wpList_ldv rfl 43 _ rfl _ _ rfl F.cells rE Tryz.underlying43 rfl hiF ?_)
    | (go_at_call 111; refine hop1.mono ?_; rintro e w2 ⟨⟨r2, rfl⟩, hW2, hg2⟩))
  have hD2 := hD1.went hg2 (by omega) (by decide)
  have hB2 : Below w.heap.size w w2 := hB1.trans hg2.below
  obtain ⟨L1, hL1⟩ : ∃ q, openL F ws = q := ⟨_, rfl⟩
  have HL1 : Veil (openL F ws = L1) := ⟨hL1⟩
  rw [hL1] at hW2 hol
  have hl1 : L1.length ≤ 10000 := by omega
  have c37 : w2.cell? ⟨w.heap.size, 37, none⟩ = some (.slice xb lb cb) := by rw [hD2.cell]; exact HQ.out.2.1
  have htw2 := two_any (w.heap.size + 1) w.heap.size L1 lb w2 hW2 (by omega)
  clear hop hop1 rE hD1 hW1 hB1 hg2 hL1 hol
  go_upto_region 6 with (go_at_call 102; refine htw2.mono ?_; rintro e w3 ⟨⟨r3, rfl⟩, hW3, hg3⟩)
  have hD3 := hD2.went hg3 (by omega) (by decide)
  have hB3 : Below w.heap.size w w3 := hB2.trans hg3.below
  have hl2 : (L1 ++ be2 lb).length ≤ 10002 := by rw [List.length_append]; simp [be2]; omega
  have hp3 := put_any (w.heap.size + 1) w.heap.size (L1 ++ be2 lb) xb lb cb body w3 hW3 (hbody w3 hB3) (by omega)
  have c37 : w3.cell? ⟨w.heap.size, 37, none⟩ = some (.slice xb lb cb) := by rw [hD3.cell]; exact HQ.out.2.1
  clear htw2 hD2 hW2 hB2 hg3
  go_upto_region 7 with (go_at_call 103; refine hp3.mono ?_; rintro e w4 ⟨⟨r4, rfl⟩, hW4, hg4⟩)
  have hD4 := hD3.went hg4 (by omega) (by decide)
  have hB4 : Below w.heap.size w w4 := hB3.trans hg4.below
  have rM : w4.rangeAt w.heap.size 38 (F.mac.map (Value.int .u8)) := by
    have := hD4.range 38 32
    rw [HQ.out.2.2] at this
    exact this
  have hp4 := put_any (w.heap.size + 1) w.heap.size (L1 ++ be2 lb ++ body) (some ⟨w.heap.size, 38, none⟩) 32 32 F.mac w4 hW4 (rangeBytes rM HML.out.symm (by rw [HML.out]; omega)) (by rw [List.length_append, HBL.out]; omega)
  clear hp3 c37 hD3 hW3 hB3 hg4
  go_upto_region 8 with (go_at_call 103; refine hp4.mono ?_; rintro e w5 ⟨⟨r5, rfl⟩, hW5, hg5⟩)
  obtain ⟨v, hb5, ho5⟩ := hW5.has
  have c0 := hb5.cell
  have hB5 : Below w.heap.size w w5 := hB4.trans hg5.below
  obtain ⟨x5, n5, c5, rfl, hn5⟩ := ho5.isSlice
  clear hn5 hp4 rM hW5 hb5 hg5 hD4 hW4 hB4
  go_wp2
  go_ret2
  refine ⟨_, rfl, ?_, hB5⟩
  unfold frameL
  rw [HBL.out, HL1.out]
  exact ho5
end Go.Proofs.YtfainlfiphdaeaaGreatDoor
