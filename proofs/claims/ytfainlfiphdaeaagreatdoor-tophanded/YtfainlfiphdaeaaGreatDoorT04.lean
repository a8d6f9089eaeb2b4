/- Wr2 Wr3 Wr4 -/
import Derived.Test.YtfainlfiphdaeaaGreatDoorT02
import Derived.Test.YtfainlfiphdaeaaGreatDoorT01
import Derived.Deep.MidRow
namespace Go.Proofs.YtfainlfiphdaeaaGreatDoor
open Go.RowKit
set_option maxRecDepth 20000
set_option linter.unusedSimpArgs false
theorem CellsAt.went {w w' : World} {g H base : Nat} {t : TypeId} {cs : List Value} (h : CellsAt w g t cs) (hg : Went w w' H base) (hne : g ≠ H) (ht : t ≠ 5) : CellsAt w' g t cs := hg.kept g _ t _ hne ht h
def truthB (b : Bool) : Int := if b then 1 else 0
set_option maxHeartbeats 1000000 in
theorem truth_any (H base : Nat) (L : List Int) (b : Bool) (w : World) (hW : Wr w H base L) (hln : L.length ≤ 3000000) :
    Calls Tryz.prog 151 #[.pointer (some ⟨H, 0, none⟩), .bool b] w fun e w' => (∃ r, e = .returned r) ∧ Wr w' H base (L ++ [truthB b]) ∧ Went w w' H base := by
  have hsz := hW.size
  cases b with
  | true =>
    have hp := put_any H base L (some ⟨w.heap.size, 0, none⟩) 1 1 [1] (w.alloc (.cells (row .u8 [1]) 5)) (hW.alloc _) (new_bytes w [1] (by simp)) (by omega)
    have hgo := Went.alloc (H := H) hsz (.cells (row .u8 [1]) 5)
    clear hW
    go_enter Tryz.func151, Tryz.ntmps151
    go_wp2_with (go_at_call 103; refine hp.mono ?_; rintro e w1 ⟨⟨r, rfl⟩, hW1, hg1⟩)
    go_end0
    exact ⟨⟨_, rfl⟩, hW1, hgo.trans hg1⟩
  | false =>
    have hp := put_any H base L (some ⟨w.heap.size, 0, none⟩) 1 1 [0] (w.alloc (.cells (row .u8 [0]) 5)) (hW.alloc _) (new_bytes w [0] (by simp)) (by omega)
    have hgo := Went.alloc (H := H) hsz (.cells (row .u8 [0]) 5)
    clear hW
    go_enter Tryz.func151, Tryz.ntmps151
    go_wp2_with (go_at_call 103; refine hp.mono ?_; rintro e w1 ⟨⟨r, rfl⟩, hW1, hg1⟩)
    go_end0
    exact ⟨⟨_, rfl⟩, hW1, hgo.trans hg1⟩
set_option maxHeartbeats 1000000 in
theorem wzeros_any (H base : Nat) (L : List Int) (n : Nat) (w : World) (hW : Wr w H base L) (hn : n ≤ 100000) (hln : L.length ≤ 3000000) :
    Calls Tryz.prog 104 #[.pointer (some ⟨H, 0, none⟩), .int .i64 n] w fun e w' => (∃ r, e = .returned r) ∧ Wr w' H base (L ++ List.replicate n 0) ∧ Went w w' H base := by
  have hsz := hW.size
  have hmk : ∀ wx : World, (Instr.makeSlice 41 (.int .i64 (n : Int)) (.int .i64 (n : Int))).run Tryz.prog wx = .ok (.slice (some ⟨wx.heap.size, 0, none⟩) n n) (wx.alloc (.cells (row .u8 (List.replicate n 0)) 5)) := fun wx => by
    have := run_make_row' (P := Tryz.prog) 41 5 (.int .u8 0) 1 Tryz.underlying41 infoU8 rfl .i64 .i64 n (by omega) (by omega) wx
    rw [made_row] at this
    exact this
  have hp := put_any H base L (some ⟨w.heap.size, 0, none⟩) n n (List.replicate n 0) (w.alloc (.cells (row .u8 (List.replicate n 0)) 5)) (hW.alloc _) (by
    have := new_bytes w (List.replicate n 0) (by simp; omega)
    rw [List.length_replicate] at this
    exact this) (by omega)
  have hgo := Went.alloc (H := H) hsz (.cells (row .u8 (List.replicate n 0)) 5)
  clear hW
  go_enter Tryz.func104, Tryz.ntmps104
  go_wp2_with (go_at_call 103; refine hp.mono ?_; rintro e w1 ⟨⟨r, rfl⟩, hW1, hg1⟩)
  go_end0
  exact ⟨⟨_, rfl⟩, hW1, hgo.trans hg1⟩
def dotL (a s : Int) : List Int := a :: be4 s
set_option maxHeartbeats 1000000 in
theorem dot_any (H base : Nat) (L : List Int) (a s : Int) (w : World) (hW : Wr w H base L) (hln : L.length ≤ 2000000) :
    Calls Tryz.prog 149 #[.pointer (some ⟨H, 0, none⟩), .agg (dotC a s).toArray] w fun e w' => (∃ r, e = .returned r) ∧ Wr w' H base (L ++ dotL a s) ∧ Went w w' H base := by
  have hsz := hW.size
  have hlt : H < w.heap.size := by obtain ⟨v, h1, _⟩ := hW.has; exact h1.lt
  have hD0 := CellsAt.new w 26 (dotC a s)
  have hgo := Went.alloc (H := H) hsz (.cells (dotC a s).toArray 26)
  have hW0 := hW.alloc (.cells (dotC a s).toArray 26)
  clear hW
  go_enter Tryz.func149, Tryz.ntmps149
  go_upto_region 1 with fail
  refine forget (p := fun y => Code.wp _ _ _ _ y) (fun W0 => Went w W0 H base ∧ Wr W0 H base L ∧ CellsAt W0 w.heap.size 26 (dotC a s)) ⟨hgo, hW0, hD0⟩ ?_
  clear hgo hW0 hD0
  rintro W0 ⟨hg0, hW0, hD0⟩
  have hs0 := hW0.size
  have c0 : W0.cell? ⟨w.heap.size, 0, none⟩ = some (.int .u8 a) := hD0.cell 0
  have hp := put_any H base L (some ⟨W0.heap.size, 0, none⟩) 1 1 [a] (W0.alloc (.cells (row .u8 [a]) 5)) (hW0.alloc _) (new_bytes W0 [a] (by simp)) (by omega)
  have hgo := Went.alloc (H := H) hs0 (.cells (row .u8 [a]) 5)
  go_upto_region 2 with (go_at_call 103; refine hp.mono ?_; rintro e w1 ⟨⟨r, rfl⟩, hW1, hg1⟩)
  have hD1 := (hD0.went hgo (by omega) (by decide)).went hg1 (by omega) (by decide)
  have c1 : w1.cell? ⟨w.heap.size, 1, none⟩ = some (.int .u32 s) := hD1.cell 1
  have hf := four_any H base (L ++ [a]) s w1 hW1 (by rw [List.length_append]; simp; omega)
  have hg01 := hg0.trans (hgo.trans hg1)
  clear hp hD0 hD1 hW0 hW1 hgo hg1 hg0 c0
  go_wp2_with (go_at_call 150; refine hf.mono ?_; rintro e w2 ⟨⟨r2, rfl⟩, hW2, hg2⟩)
  go_end0
  refine ⟨⟨_, rfl⟩, ?_, hg01.trans hg2⟩
  rw [List.append_assoc] at hW2
  exact hW2
end Go.Proofs.YtfainlfiphdaeaaGreatDoor
namespace Go.Proofs.YtfainlfiphdaeaaGreatDoor
open Go.RowKit
set_option maxRecDepth 20000
set_option linter.unusedSimpArgs false
def pastL (l : List Int) : List Int := (l.map be4).flatten
def eventL (e : Ev) : List Int := dotL e.da e.ds ++ pastL e.past ++ [e.kind] ++ dotL e.pa e.ps ++ [truthB e.right] ++ [e.char, e.who, e.role] ++ List.replicate 11 0
theorem be4_length (n : Int) : (be4 n).length = 4 := rfl
theorem dotL_length (a s : Int) : (dotL a s).length = 5 := rfl
theorem pastL_length : ∀ l : List Int, (pastL l).length = 4 * l.length
  | [] => rfl
  | a :: l => by
    have := pastL_length l
    unfold pastL at this ⊢
    rw [List.map_cons, List.flatten_cons, List.length_append, be4_length, this, List.length_cons]; omega
theorem pastL_take (l : List Int) (j : Nat) (hj : j < l.length) : pastL (l.take (j + 1)) = pastL (l.take j) ++ be4 (l[j]?.getD 0) := by
  rw [take_next l j hj]
  simp [pastL]
theorem eventL_length (e : Ev) (hp : e.past.length = 8) : (eventL e).length = 58 := by
  unfold eventL
  simp only [List.length_append, dotL_length, pastL_length, hp, List.length_cons, List.length_nil, List.length_replicate]
set_option maxHeartbeats 4000000 in
theorem event_any (H base : Nat) (L : List Int) (E : Ev) (w : World) (hW : Wr w H base L) (hp : E.past.length = 8) (hln : L.length ≤ 1000000) :
    Calls Tryz.prog 105 #[.pointer (some ⟨H, 0, none⟩), .agg E.cells.toArray] w fun e w' => (∃ r, e = .returned r) ∧ Wr w' H base (L ++ eventL E) ∧ Went w w' H base := by
  have hsz := hW.size
  have hlt : H < w.heap.size := by obtain ⟨v, h1, _⟩ := hW.has; exact h1.lt
  have hD0 := CellsAt.new w 33 E.cells
  have hgo := Went.alloc (H := H) hsz (.cells E.cells.toArray 33)
  have hW0 := hW.alloc (.cells E.cells.toArray 33)
  obtain ⟨p1, p2, p3, p4, p5, p6, p7, p8⟩ := ev_parts E hp
  have HP : Veil ((E.cells.drop 0).take 2 = dotC E.da E.ds ∧ (E.cells.drop 2).take 8 = E.past.map (Value.int .u32) ∧ E.cells[10]? = some (.int .u8 E.kind) ∧ (E.cells.drop 11).take 2 = dotC E.pa E.ps ∧ E.cells[13]? = some (.bool E.right) ∧ E.cells[14]? = some (.int .u8 E.char) ∧ E.cells[15]? = some (.int .u8 E.who) ∧ E.cells[16]? = some (.int .u8 E.role)) := ⟨p1, p2, p3, p4, p5, p6, p7, p8⟩
  have HL : Veil (∀ n, (pastL (E.past.take n)).length ≤ 32) := ⟨fun n => by rw [pastL_length, List.length_take]; omega⟩
  have HT : Veil (∀ j, j < 8 → pastL (E.past.take (j + 1)) = pastL (E.past.take j) ++ be4 (E.past[j]?.getD 0)) := ⟨fun j hj => pastL_take _ j (by omega)⟩
  have HX : Veil (∀ j wx, j < 8 → (Instr.index 29 (.agg (List.map (Value.int .u32) E.past).toArray) (.int .i64 (j : Nat))).run Tryz.prog wx = .ok (.int .u32 (E.past[j]?.getD 0)) wx) := ⟨fun j wx hj => run_index_row wx 29 24 8 .u32 E.past j Tryz.underlying29 Tryz.underlying24 sizeU32v hp hj⟩
  have HA : Veil (E.past.take 8 = E.past) := ⟨List.take_of_length_le (by omega)⟩
  have HPL : Veil (E.past.length = 8) := ⟨hp⟩
  clear hW p1 p2 p3 p4 p5 p6 p7 p8 hp
  go_enter Tryz.func105, Tryz.ntmps105
  go_upto_region 1 with fail
  refine forget (p := fun y => Code.wp _ _ _ _ y) (fun W0 => Went w W0 H base ∧ Wr W0 H base L ∧ CellsAt W0 w.heap.size 33 E.cells) ⟨hgo, hW0, hD0⟩ ?_
  clear hgo hW0 hD0
  rintro W0 ⟨hg0, hW0, hD0⟩
  have hdt := dot_any H base L E.da E.ds W0 hW0 (by omega)
  have rD : W0.rangeAt w.heap.size 0 (dotC E.da E.ds) := by
    have := hD0.range 0 2
    rw [HP.out.1] at this
    exact this
  go_upto_region 2 with (first
    | (refine wpList_ldv rfl 26 _ rfl _ _ rfl (dotC E.da E.ds) rD Tryz.underlying26 rfl sizeDot ?_)
    | (go_at_call 149; refine hdt.mono ?_; rintro e w1 ⟨⟨r, rfl⟩, hW1, hg1⟩))
  have hD1 := hD0.went hg1 (by omega) (by decide)
  have hg01 := hg0.trans hg1
  clear hdt rD hW0 hD0 hg0 hg1
  have rV : w1.rangeAt w.heap.size 2 (E.past.map (Value.int .u32)) := by
    have := hD1.range 2 8
    rw [HP.out.2.1] at this
    exact this
  have hLd : (L ++ dotL E.da E.ds).length ≤ 1000005 := by rw [List.length_append, dotL_length]; omega
  obtain ⟨L1, hL1⟩ : ∃ q, L ++ dotL E.da E.ds = q := ⟨_, rfl⟩
  have HL1 : Veil (L ++ dotL E.da E.ds = L1) := ⟨hL1⟩
  rw [hL1] at hW1 hLd
  clear hL1
  go_wp2_with (refine wpList_ldv rfl 29 _ rfl _ _ rfl (E.past.map (Value.int .u32)) rV Tryz.underlying29 rfl (by rw [List.length_map, HPL.out]; exact sizeVec) ?_)
  go_loopw [12] (fun q wr => ∃ j : Nat, j ≤ 8 ∧ q = .int .i64 j ∧ Wr wr H base (L1 ++ pastL (E.past.take j)) ∧ CellsAt wr w.heap.size 33 E.cells ∧ Went w wr H base) (fun q _ => 8 - (intOf q).toNat)
  case atStart => exact ⟨0, by omega, rfl, by simpa [pastL] using hW1, hD1, hg01⟩
  case round =>
    clear hW1 hD1 hg01 rV
    obtain ⟨j, hj, rfl, hW1, hD1, hg01⟩ := hrel
    have hll := HL.out j
    by_cases hlt : j < 8
    · have hx := fun wx => HX.out j wx hlt
      have hts := HT.out j hlt
      obtain ⟨u, hu⟩ : ∃ q, E.past[j]?.getD 0 = q := ⟨_, rfl⟩
      rw [hu] at hx hts
      have hfo := four_any H base (L1 ++ pastL (E.past.take j)) u wr hW1 (by rw [List.length_append]; omega)
      have HTS : Veil (L1 ++ pastL (E.past.take j) ++ be4 u = L1 ++ pastL (E.past.take (j + 1))) := ⟨by rw [hts, List.append_assoc]⟩
      have hj8 : (j : Int) < 8 := by omega
      clear hts hu hW1
      go_wp2_with (go_at_call 150; refine hfo.mono ?_; rintro e w2 ⟨⟨r2, rfl⟩, hW2, hg2⟩)
      have hD2 := hD1.went hg2 (by omega) (by decide)
      rw [HTS.out] at hW2
      go_roundw
      case rel => exact ⟨j + 1, by omega, by go_num, hW2, hD2, hg01.trans hg2⟩
      case measure => simp [intOf]; omega
    · obtain rfl : j = 8 := by omega
      rw [HA.out] at hW1 hll
      rw [show ((8 : Nat) : Int) = 8 from rfl]
      obtain ⟨L2, hL2⟩ : ∃ q, L1 ++ pastL E.past = q := ⟨_, rfl⟩
      have HL2 : Veil (L1 ++ pastL E.past = L2) := ⟨hL2⟩
      have hl2 : L2.length ≤ 1000050 := by rw [← hL2, List.length_append]; omega
      rw [hL2] at hW1
      have hs1 := hW1.size
      have c10 : wr.cell? ⟨w.heap.size, 10, none⟩ = some (.int .u8 E.kind) := by rw [hD1.cell]; exact HP.out.2.2.1
      have hp1 := put_any H base L2 (some ⟨wr.heap.size, 0, none⟩) 1 1 [E.kind] (wr.alloc (.cells (row .u8 [E.kind]) 5)) (hW1.alloc _) (new_bytes wr [E.kind] (by simp)) (by omega)
      have hgo := Went.alloc (H := H) hs1 (.cells (row .u8 [E.kind]) 5)
      clear hL2 hll HX HT
      go_upto_region 8 with (go_at_call 103; refine hp1.mono ?_; rintro e w2 ⟨⟨r2, rfl⟩, hW2, hg2⟩)
      have hD2 := (hD1.went hgo (by omega) (by decide)).went hg2 (by omega) (by decide)
      have hg02 := hg01.trans (hgo.trans hg2)
      have hl3 : (L2 ++ [E.kind]).length ≤ 1000060 := by rw [List.length_append]; simp; omega
      obtain ⟨L3, hL3⟩ : ∃ q, L2 ++ [E.kind] = q := ⟨_, rfl⟩
      have HL3 : Veil (L2 ++ [E.kind] = L3) := ⟨hL3⟩
      rw [hL3] at hW2 hl3
      have hdt := dot_any H base L3 E.pa E.ps w2 hW2 (by omega)
      have rD : w2.rangeAt w.heap.size 11 (dotC E.pa E.ps) := by
        have := hD2.range 11 2
        rw [HP.out.2.2.2.1] at this
        exact this
      clear c10 hp1 hgo hg2 hD1 hg01 hW1 hL3
      go_upto_region 9 with (first
        | (refine wpList_ldv rfl 26 _ rfl _ _ rfl (dotC E.pa E.ps) rD Tryz.underlying26 rfl sizeDot ?_)
        | (go_at_call 149; refine hdt.mono ?_; rintro e w3 ⟨⟨r3, rfl⟩, hW3, hg3⟩))
      have hD3 := hD2.went hg3 (by omega) (by decide)
      have hg03 := hg02.trans hg3
      have hl4 : (L3 ++ dotL E.pa E.ps).length ≤ 1000070 := by rw [List.length_append, dotL_length]; omega
      obtain ⟨L4, hL4⟩ : ∃ q, L3 ++ dotL E.pa E.ps = q := ⟨_, rfl⟩
      have HL4 : Veil (L3 ++ dotL E.pa E.ps = L4) := ⟨hL4⟩
      rw [hL4] at hW3 hl4
      have c13 : w3.cell? ⟨w.heap.size, 13, none⟩ = some (.bool E.right) := by rw [hD3.cell]; exact HP.out.2.2.2.2.1
      have htr := truth_any H base L4 E.right w3 hW3 (by omega)
      clear hdt rD hg3 hD2 hg02 hW2 hL4
      go_upto_region 10 with (go_at_call 151; refine htr.mono ?_; rintro e w4 ⟨⟨r4, rfl⟩, hW4, hg4⟩)
      have hD4 := hD3.went hg4 (by omega) (by decide)
      have hg04 := hg03.trans hg4
      have hl5 : (L4 ++ [truthB E.right]).length ≤ 1000080 := by rw [List.length_append]; simp; omega
      obtain ⟨L5, hL5⟩ : ∃ q, L4 ++ [truthB E.right] = q := ⟨_, rfl⟩
      have HL5 : Veil (L4 ++ [truthB E.right] = L5) := ⟨hL5⟩
      rw [hL5] at hW4 hl5
      have c14 : w4.cell? ⟨w.heap.size, 14, none⟩ = some (.int .u8 E.char) := by rw [hD4.cell]; exact HP.out.2.2.2.2.2.1
      have c15 : w4.cell? ⟨w.heap.size, 15, none⟩ = some (.int .u8 E.who) := by rw [hD4.cell]; exact HP.out.2.2.2.2.2.2.1
      have c16 : w4.cell? ⟨w.heap.size, 16, none⟩ = some (.int .u8 E.role) := by rw [hD4.cell]; exact HP.out.2.2.2.2.2.2.2
      have hs4 := hW4.size
      have hp4 := put_any H base L5 (some ⟨w4.heap.size, 0, none⟩) 3 3 [E.char, E.who, E.role] (w4.alloc (.cells (row .u8 [E.char, E.who, E.role]) 5)) (hW4.alloc _) (new_bytes w4 [E.char, E.who, E.role] (by simp)) (by omega)
      have hgo := Went.alloc (H := H) hs4 (.cells (row .u8 [E.char, E.who, E.role]) 5)
      clear htr c13 hD3 hg03 hW3 hg4 hL5
      go_upto_region 11 with (go_at_call 103; refine hp4.mono ?_; rintro e w5 ⟨⟨r5, rfl⟩, hW5, hg5⟩)
      have hg05 := hg04.trans (hgo.trans hg5)
      have hz := wzeros_any H base (L5 ++ [E.char, E.who, E.role]) 11 w5 hW5 (by omega) (by rw [List.length_append]; simp; omega)
      clear hp4 c14 c15 c16 hD4 hg04 hgo hg5 hW5
      go_wp2_with (go_at_call 104; refine hz.mono ?_; rintro e w6 ⟨⟨r6, rfl⟩, hW6, hg6⟩)
      go_end0
      refine ⟨⟨_, rfl⟩, ?_, hg05.trans hg6⟩
      rw [← HL5.out, ← HL4.out, ← HL3.out, ← HL2.out, ← HL1.out] at hW6
      unfold eventL
      simp only [List.append_assoc] at hW6 ⊢
      exact hW6
set_option maxHeartbeats 1000000 in
theorem Event_any (E : Ev) (w : World) (hp : E.past.length = 8) :
    Calls Tryz.prog 52 #[.agg E.cells.toArray] w fun e w' => ∃ v, e = .returned v ∧ OwnB w' w.heap.size v (eventL E) ∧ Below w.heap.size w w' := by
  have hsz : E.cells.length = 17 := by unfold Ev.cells; simp [dotC, hp]
  have hD0 := (CellsAt.new w 33 E.cells).alloc (.cells #[.slice none 0 0] 143)
  have hbx : Box ((w.alloc (.cells E.cells.toArray 33)).alloc (.cells #[.slice none 0 0] 143)) (w.heap.size + 1) 143 (.slice none 0 0) := by
    have : Box ((w.alloc (.cells E.cells.toArray 33)).alloc (.cells #[.slice none 0 0] 143)) (w.alloc (.cells E.cells.toArray 33)).heap.size 143 (.slice none 0 0) := heap_alloc_new _ _
    rw [World.size_alloc] at this
    exact this
  have hW0 : Wr ((w.alloc (.cells E.cells.toArray 33)).alloc (.cells #[.slice none 0 0] 143)) (w.heap.size + 1) w.heap.size [] := ⟨by omega, _, hbx, OwnB.nil _ _⟩
  have hB0 : Below w.heap.size w ((w.alloc (.cells E.cells.toArray 33)).alloc (.cells #[.slice none 0 0] 143)) := ((Below.refl _ _).alloc (Nat.le_refl _) _).alloc (by simp) _
  have hiE : (Tryz.prog.info? 33).map (·.size) = some E.cells.length := by rw [hsz]; kernel_rfl
  have hev := fun wx (h : Wr wx (w.heap.size + 1) w.heap.size []) => event_any (w.heap.size + 1) w.heap.size [] E wx h hp (by simp)
  clear hbx hsz hp
  go_enter Tryz.func52, Tryz.ntmps52
  go_upto_region 2 with fail
  refine forget (p := fun y => Code.wp _ _ _ _ y) (fun W0 => Below w.heap.size w W0 ∧ Wr W0 (w.heap.size + 1) w.heap.size [] ∧ CellsAt W0 w.heap.size 33 E.cells) ⟨hB0, hW0, hD0⟩ ?_
  clear hB0 hW0 hD0
  rintro W0 ⟨hB0, hW0, hD0⟩
  have rE : W0.rangeAt w.heap.size 0 E.cells := fun j v hv => by rw [Nat.zero_add, hD0.cell]; exact hv
  have hev0 := hev W0 hW0
  clear hev hW0 hD0
  go_upto_region 3 with (first
    | (refine wpList_ldv rfl 33 _ rfl _ _ rfl E.cells rE Tryz.underlying33 rfl hiE ?_)
    | (go_at_call 105; refine hev0.mono ?_; rintro e w1 ⟨⟨r, rfl⟩, hW1, hg1⟩))
  obtain ⟨v, hb1, ho1⟩ := hW1.has
  have c0 := hb1.cell
  rw [List.nil_append] at ho1
  have hB1 : Below w.heap.size w w1 := hB0.trans hg1.below
  obtain ⟨x1, n1, c1, rfl, hn1⟩ := ho1.isSlice
  clear hn1 hev0 rE hW1 hb1 hg1
  go_wp2
  go_ret
  exact ⟨_, rfl, ho1, hB1⟩
end Go.Proofs.YtfainlfiphdaeaaGreatDoor
namespace Go.Proofs.YtfainlfiphdaeaaGreatDoor
open Go.RowKit
set_option maxRecDepth 20000
set_option linter.unusedSimpArgs false
theorem Went.setRow {w : World} {g H base : Nat} (hb : base ≤ g) (w0 : World) (hlt : w0.heap.size ≤ g) (h0 : Went w0 w H base) (cs' : Array Value) : Went w0 (w.setRow g cs') H base :=
  ⟨below_setRow h0.below hb _, fun g' cs t fr h1 h2 h3 => by
    have hl : g' < w0.heap.size := (Array.getElem?_eq_some_iff.1 h3).1
    rw [setRow_other w g g' cs' (by omega)]
    exact h0.kept g' cs t fr h1 h2 h3⟩
def wrapL (e : Wp) : List Int := [e.too] ++ dotL e.ea e.es ++ e.data
structure Fr where
  author : Int
  number : Int
  ea : Int
  es : Int
  prev : List Int
  wraps : Value
  body : Value
  mac : List Int
def Fr.cells (f : Fr) : List Value := [.int .u8 f.author, .int .u32 f.number] ++ dotC f.ea f.es ++ f.prev.map (Value.int .u8) ++ [f.wraps, f.body] ++ f.mac.map (Value.int .u8)
def wrapsL (ws : List Wp) : List Int := (ws.map wrapL).flatten
def openL (f : Fr) (ws : List Wp) : List Int := [69, 83, f.author] ++ be4 f.number ++ dotL f.ea f.es ++ f.prev ++ [(ws.length : Int)] ++ wrapsL ws
theorem wrapL_length (e : Wp) (h : e.data.length = 48) : (wrapL e).length = 54 := by unfold wrapL; simp [dotL_length, h]
theorem wrapsL_take (ws : List Wp) (j : Nat) (hj : j < ws.length) : wrapsL (ws.take (j + 1)) = wrapsL (ws.take j) ++ wrapL ws[j] := by
  unfold wrapsL
  rw [List.take_succ_eq_append_getElem hj, List.map_append, List.flatten_append]
  simp only [List.map_cons, List.map_nil, List.flatten_cons, List.flatten_nil, List.append_nil]
theorem wrapsL_le (ws : List Wp) (h : ∀ e ∈ ws, e.data.length = 48) : (wrapsL ws).length = 54 * ws.length := by
  induction ws with
  | nil => rfl
  | cons e ws ih =>
    have := ih (fun x hx => h x (List.mem_cons_of_mem _ hx))
    unfold wrapsL at this ⊢
    rw [List.map_cons, List.flatten_cons, List.length_append, wrapL_length e (h e (by simp)), this, List.length_cons]; omega
structure WrapsAt (w : World) (x : Option Addr) (len cap : Nat) (ws : List Wp) : Prop where
  len_eq : len = ws.length
  le : len ≤ cap
  top : cap ≤ 9223372036854775807
  nil : x = none → cap = 0
  ok : ∀ e ∈ ws, e.data.length = 48
  at_ : len = 0 ∨ ∃ b off, x = some ⟨b, off, none⟩ ∧ ∀ j (hj : j < ws.length), w.rangeAt b (off + j * 51) (ws[j]).cells
theorem rangeAt_below {w w' : World} {b o : Nat} {cs : List Value} (h : w.rangeAt b o cs) (hb : Below w.heap.size w w') : w'.rangeAt b o cs := fun j v hv => by
  have := h j v hv
  rw [hb.cell (p := ⟨b, o + j, none⟩) (block_lt_of_cell this)]; exact this
theorem WrapsAt.below {w w' : World} {x : Option Addr} {len cap : Nat} {ws : List Wp} (h : WrapsAt w x len cap ws) (hb : Below w.heap.size w w') : WrapsAt w' x len cap ws :=
  ⟨h.len_eq, h.le, h.top, h.nil, h.ok, by
    rcases h.at_ with h0 | ⟨b, off, hx, hc⟩
    · exact .inl h0
    · exact .inr ⟨b, off, hx, fun j hj => rangeAt_below (hc j hj) hb⟩⟩
theorem fr_parts (f : Fr) (hp : f.prev.length = 32) (hm : f.mac.length = 32) : f.cells.length = 70 ∧ f.cells[0]? = some (.int .u8 f.author) ∧ f.cells[1]? = some (.int .u32 f.number) ∧ (f.cells.drop 2).take 2 = dotC f.ea f.es ∧ (f.cells.drop 4).take 32 = f.prev.map (Value.int .u8) ∧ f.cells[36]? = some f.wraps ∧ f.cells[37]? = some f.body ∧ (f.cells.drop 38).take 32 = f.mac.map (Value.int .u8) := by
  have e1 : ∀ X : List Value, (([.int .u8 f.author, .int .u32 f.number] : List Value) ++ dotC f.ea f.es ++ X).drop 4 = X := fun X => rfl
  have hP : (f.prev.map (Value.int .u8)).length = 32 := by rw [List.length_map, hp]
  have hM : (f.mac.map (Value.int .u8)).length = 32 := by rw [List.length_map, hm]
  have e0 : f.cells = ([.int .u8 f.author, .int .u32 f.number] : List Value) ++ dotC f.ea f.es ++ (f.prev.map (Value.int .u8) ++ ([f.wraps, f.body] ++ f.mac.map (Value.int .u8))) := by unfold Fr.cells; simp only [List.append_assoc]
  have e36 : f.cells.drop 36 = [f.wraps, f.body] ++ f.mac.map (Value.int .u8) := by
    rw [show 36 = 4 + 32 from rfl, ← List.drop_drop, e0, e1, List.drop_left' hP]
  refine ⟨by rw [e0]; simp [dotC, hp, hm], by rw [e0]; rfl, by rw [e0]; rfl, by rw [e0]; rfl, by rw [e0, e1, List.take_left' hP], ?_, ?_, ?_⟩
  · have := congrArg (fun l => l[0]?) e36
    simpa using this
  · have := congrArg (fun l => l[1]?) e36
    simpa using this
  · rw [show 38 = 36 + 2 from rfl, ← List.drop_drop, e36]
    exact List.take_of_length_le (by simp [hm])
theorem sizeWrap : (Tryz.prog.info? 73).map (·.size) = some 51 := by kernel_rfl
end Go.Proofs.YtfainlfiphdaeaaGreatDoor
