/- 'openly' of the writer of wire. -/
import Derived.Test.YtgcidamdbidgiaaDoorMEv0Wr2Wr3Wr4Fd
namespace Go.Proofs.YtgcidamdbidgiaaDoor
open Go.RowKit
set_option maxRecDepth 20000
set_option linter.unusedSimpArgs false

theorem rangeBytes {w : World} {g o : Nat} {l : List Int} {n : Nat} (h : w.rangeAt g o (l.map (Value.int .u8))) (hn : n = l.length) (hl : l.length ≤ 4000000) : Bytes w (some ⟨g, o, none⟩) n n l := by
  subst hn
  exact ⟨rfl, Nat.le_refl _, by omega, (fun h => by cases h), .inr ⟨g, o, rfl, fun j hj => h j _ (by rw [List.getElem?_map, List.getElem?_eq_getElem hj]; rfl)⟩⟩
theorem Wr.setRow {w : World} {H base g : Nat} {L : List Int} {t : TypeId} {old : List Value} (h : Wr w H base L) (hc : CellsAt w g t old) (ht : t ≠ 5) (hne : H ≠ g) (cs : Array Value) : Wr (w.setRow g cs) H base L := by
  obtain ⟨v, hb, ho⟩ := h.has
  refine ⟨h.ge, v, ?_, ho.1, ?_⟩
  · unfold Box at hb ⊢
    rw [setRow_other w g H cs hne]; exact hb
  · rcases ho.2 with h' | ⟨g', cap, cur, h1, h2, h3, h4⟩
    · exact .inl h'
    · refine .inr ⟨g', cap, cur, h1, h2, ?_, h4⟩
      rw [setRow_other w g g' cs (fun e => by
        subst e
        unfold CellsAt at hc
        rw [h3] at hc
        simp at hc
        exact ht hc.2.symm)]
      exact h3
def zeroWp : List Value := [.int .u8 0] ++ dotC 0 0 ++ (List.replicate 48 0).map (Value.int .u8)

set_option maxHeartbeats 8000000 in
theorem openly_any (H base : Nat) (L : List Int) (F : Fr) (xw : Option Addr) (lw cw : Nat) (ws : List Wp) (w : World) (hW : Wr w H base L) (hp : F.prev.length = 32) (hm : F.mac.length = 32) (hfw : F.wraps = .slice xw lw cw) (hws : ∀ wx, Below base w wx → WrapsAt wx xw lw cw ws) (hl : lw ≤ 255) (hln : L.length ≤ 1000000) :
    Calls Tryd.prog 58 #[.pointer (some ⟨H, 0, none⟩), .agg F.cells.toArray] w fun e w' => (∃ r, e = .returned r) ∧ Wr w' H base (L ++ openL F ws) ∧ Went w w' H base := by
  have hsz := hW.size
  have hlt : H < w.heap.size := by obtain ⟨v, h1, _⟩ := hW.has; exact h1.lt
  have hD0 := CellsAt.new w 38 F.cells
  have hgo := Went.alloc (H := H) hsz (.cells F.cells.toArray 38)
  have hW0 := hW.alloc (.cells F.cells.toArray 38)
  have HP : Veil (F.cells.length = 70 ∧ F.cells[0]? = some (.int .u8 F.author) ∧ F.cells[1]? = some (.int .u32 F.number) ∧ (F.cells.drop 2).take 2 = dotC F.ea F.es ∧ (F.cells.drop 4).take 32 = F.prev.map (Value.int .u8) ∧ F.cells[36]? = some F.wraps ∧ F.cells[37]? = some F.body ∧ (F.cells.drop 38).take 32 = F.mac.map (Value.int .u8)) := ⟨fr_parts F hp hm⟩
  have HPL : Veil (F.prev.length = 32) := ⟨hp⟩
  have HWS : Veil (∀ wx, Below base w wx → WrapsAt wx xw lw cw ws) := ⟨hws⟩
  have HFW : Veil (F.wraps = .slice xw lw cw) := ⟨hfw⟩
  have hw0 := hws w (Below.refl _ _)
  have HLW : Veil (lw = ws.length) := ⟨hw0.len_eq⟩
  have HOK : Veil (∀ e ∈ ws, e.data.length = 48) := ⟨hw0.ok⟩
  have hcw := hw0.le
  have htw := hw0.top
  clear hW hp hm hfw hws hw0
  go_enter Tryd.func58, Tryd.ntmps58
  go_upto_region 1 with fail
  refine forget (p := fun y => Code.wp _ _ _ _ y) (fun W0 => Went w W0 H base ∧ Wr W0 H base L ∧ CellsAt W0 w.heap.size 38 F.cells) ⟨hgo, hW0, hD0⟩ ?_
  clear hgo hW0 hD0
  rintro W0 ⟨hg0, hW0, hD0⟩
  have hs0 := hW0.size
  have c0 : W0.cell? ⟨w.heap.size, 0, none⟩ = some (.int .u8 F.author) := by rw [hD0.cell]; exact HP.out.2.1
  have hp0 := put_any H base L (some ⟨W0.heap.size, 0, none⟩) 3 3 [69, 83, F.author] (W0.alloc (.cells (row .u8 [69, 83, F.author]) 5)) (hW0.alloc _) (new_bytes W0 [69, 83, F.author] (by simp)) (by omega)
  have hgo := Went.alloc (H := H) hs0 (.cells (row .u8 [69, 83, F.author]) 5)
  go_upto_region 2 with (go_at_call 60; refine hp0.mono ?_; rintro e w1 ⟨⟨r1, rfl⟩, hW1, hg1⟩)
  have hD1 := (hD0.went hgo (by omega) (by decide)).went hg1 (by omega) (by decide)
  have hg01 := hg0.trans (hgo.trans hg1)
  have hl1 : (L ++ [69, 83, F.author]).length ≤ 1000003 := by rw [List.length_append]; simp; omega
  obtain ⟨L1, hL1⟩ : ∃ q, L ++ [69, 83, F.author] = q := ⟨_, rfl⟩
  have HL1 : Veil (L ++ [69, 83, F.author] = L1) := ⟨hL1⟩
  rw [hL1] at hW1 hl1
  have c1 : w1.cell? ⟨w.heap.size, 1, none⟩ = some (.int .u32 F.number) := by rw [hD1.cell]; exact HP.out.2.2.1
  have hf1 := four_any H base L1 F.number w1 hW1 (by omega)
  clear hp0 c0 hgo hg0 hg1 hD0 hW0 hL1
  go_upto_region 3 with (go_at_call 66; refine hf1.mono ?_; rintro e w2 ⟨⟨r2, rfl⟩, hW2, hg2⟩)
  have hD2 := hD1.went hg2 (by omega) (by decide)
  have hg02 := hg01.trans hg2
  have hl2 : (L1 ++ be4 F.number).length ≤ 1000007 := by rw [List.length_append, be4_length]; omega
  obtain ⟨L2, hL2⟩ : ∃ q, L1 ++ be4 F.number = q := ⟨_, rfl⟩
  have HL2 : Veil (L1 ++ be4 F.number = L2) := ⟨hL2⟩
  rw [hL2] at hW2 hl2
  have hdt := dot_any H base L2 F.ea F.es w2 hW2 (by omega)
  have rD : w2.rangeAt w.heap.size 2 (dotC F.ea F.es) := by
    have := hD2.range 2 2
    rw [HP.out.2.2.2.1] at this
    exact this
  clear hf1 c1 hg01 hg2 hD1 hW1 hL2
  go_upto_region 4 with (first
    | (refine wpList_ldv rfl 32 _ rfl _ _ rfl (dotC F.ea F.es) rD Tryd.underlying32 rfl sizeDot ?_)
    | (go_at_call 67; refine hdt.mono ?_; rintro e w3 ⟨⟨r3, rfl⟩, hW3, hg3⟩))
  have hD3 := hD2.went hg3 (by omega) (by decide)
  have hg03 := hg02.trans hg3
  have hl3 : (L2 ++ dotL F.ea F.es).length ≤ 1000020 := by rw [List.length_append, dotL_length]; omega
  obtain ⟨L3, hL3⟩ : ∃ q, L2 ++ dotL F.ea F.es = q := ⟨_, rfl⟩
  have HL3 : Veil (L2 ++ dotL F.ea F.es = L3) := ⟨hL3⟩
  rw [hL3] at hW3 hl3
  have rP : w3.rangeAt w.heap.size 4 (F.prev.map (Value.int .u8)) := by
    have := hD3.range 4 32
    rw [HP.out.2.2.2.2.1] at this
    exact this
  have hpP := put_any H base L3 (some ⟨w.heap.size, 4, none⟩) 32 32 F.prev w3 hW3 (rangeBytes rP HPL.out.symm (by rw [HPL.out]; omega)) (by omega)
  clear hdt rD hg02 hg3 hD2 hW2 hL3
  go_upto_region 5 with (go_at_call 60; refine hpP.mono ?_; rintro e w4 ⟨⟨r4, rfl⟩, hW4, hg4⟩)
  have hD4 := hD3.went hg4 (by omega) (by decide)
  have hg04 := hg03.trans hg4
  have hl4 : (L3 ++ F.prev).length ≤ 1000100 := by rw [List.length_append, HPL.out]; omega
  obtain ⟨L4, hL4⟩ : ∃ q, L3 ++ F.prev = q := ⟨_, rfl⟩
  have HL4 : Veil (L3 ++ F.prev = L4) := ⟨hL4⟩
  rw [hL4] at hW4 hl4
  have c36 : w4.cell? ⟨w.heap.size, 36, none⟩ = some (.slice xw lw cw) := by rw [hD4.cell, ← HFW.out]; exact HP.out.2.2.2.2.2.1
  have hs4 := hW4.size
  have hwr : IntKind.u8.wrap (lw : Int) = (lw : Int) := by rw [IntKind.wrap_u8]; omega
  have hp5 := put_any H base L4 (some ⟨w4.heap.size, 0, none⟩) 1 1 [(lw : Int)] (w4.alloc (.cells (row .u8 [(lw : Int)]) 5)) (hW4.alloc _) (new_bytes w4 [(lw : Int)] (by simp)) (by omega)
  have hgo := Went.alloc (H := H) hs4 (.cells (row .u8 [(lw : Int)]) 5)
  clear hpP rP hg03 hg4 hD3 hW3 hL4
  go_upto_region 6 with (go_at_call 60; refine hp5.mono ?_; rintro e w5 ⟨⟨r5, rfl⟩, hW5, hg5⟩)
  have hD5 := (hD4.went hgo (by omega) (by decide)).went hg5 (by omega) (by decide)
  have hg05 := hg04.trans (hgo.trans hg5)
  have hl5 : (L4 ++ [(lw : Int)]).length ≤ 1000101 := by rw [List.length_append]; simp; omega
  obtain ⟨L5, hL5⟩ : ∃ q, L4 ++ [(lw : Int)] = q := ⟨_, rfl⟩
  have HL5 : Veil (L4 ++ [(lw : Int)] = L5) := ⟨hL5⟩
  rw [hL5] at hW5 hl5
  have c36 : w5.cell? ⟨w.heap.size, 36, none⟩ = some (.slice xw lw cw) := by rw [hD5.cell, ← HFW.out]; exact HP.out.2.2.2.2.2.1
  clear hp5 hgo hg04 hg5 hD4 hW4 hL5 hwr
  go_wp2_with fail
  go_loopw [33] (fun q wr => ∃ j : Nat, j ≤ lw ∧ q = .int .i64 j ∧ Wr wr H base (L5 ++ wrapsL (ws.take j)) ∧ Went w wr H base) (fun q _ => lw - (intOf q).toNat)
  case atStart => exact ⟨0, by omega, rfl, by simpa [wrapsL] using hW5, hg05⟩
  case round =>
    clear hW5 hg05 hD5 c36
    obtain ⟨j, hj, rfl, hW1, hg1⟩ := hrel
    have hlen : (wrapsL (ws.take j)).length ≤ 54 * 255 := by
      rw [wrapsL_le _ (fun e he => HOK.out e (List.mem_of_mem_take he)), List.length_take]; omega
    by_cases hlt : j < lw
    · have hjw : j < ws.length := by have := HLW.out; omega
      obtain ⟨b, off, hx, hrg⟩ : ∃ b off, xw = some ⟨b, off, none⟩ ∧ ∀ j (hj : j < ws.length), wr.rangeAt b (off + j * 51) (ws[j]).cells := by
        rcases (HWS.out wr hg1.below).at_ with h0 | h
        · omega
        · exact h
      subst hx
      have hr := hrg j hjw
      have hts := wrapsL_take ws j hjw
      have hok := HOK.out ws[j] (List.getElem_mem hjw)
      obtain ⟨E, hE⟩ : ∃ q, ws[j] = q := ⟨_, rfl⟩
      rw [hE] at hr hts hok
      have HTS : Veil (L5 ++ wrapsL (ws.take j) ++ wrapL E = L5 ++ wrapsL (ws.take (j + 1))) := ⟨by rw [hts, List.append_assoc]⟩
      obtain ⟨q1, q2, q3, q4, q5⟩ := wp_parts E hok
      have HQ : Veil (E.cells[0]? = some (.int .u8 E.too) ∧ (E.cells.drop 1).take 2 = dotC E.ea E.es ∧ (E.cells.drop 3).take 48 = E.data.map (Value.int .u8)) := ⟨q2, q3, q4⟩
      have HOKE : Veil (E.data.length = 48) := ⟨hok⟩
      have hsW := hg1.below.size
      have hsz1 := hW1.size
      have hl6 : (L5 ++ wrapsL (ws.take j)).length ≤ 1100000 := by rw [List.length_append]; omega
      obtain ⟨A, hA⟩ : ∃ q, L5 ++ wrapsL (ws.take j) = q := ⟨_, rfl⟩
      rw [hA] at hW1 HTS hl6
      have hltw : H < wr.heap.size := by obtain ⟨v, h1, _⟩ := hW1.has; exact h1.lt
      have hZ0 : CellsAt (wr.alloc (.cells zeroWp.toArray 100)) wr.heap.size 100 zeroWp := CellsAt.new wr 100 zeroWp
      have hWZ := hW1.alloc (.cells zeroWp.toArray 100)
      have hgZ := hg1.trans (Went.alloc (H := H) hsz1 (.cells zeroWp.toArray 100))
      have hj0 : (0 : Int) ≤ (j : Int) := by omega
      have hjl : (j : Int) < (lw : Int) := by omega
      have hiW : (Tryd.prog.info? 100).map (·.size) = some E.cells.length := by rw [q1]; exact sizeWrap
      have hzl : zeroWp.length = E.cells.length := by rw [q1]; rfl
      clear hrg hts hE hA q1 q2 q3 q4 hlen hjw hok
      go_upto_region 9 with (first
        | (refine wpList_ldv rfl 100 _ rfl _ _ rfl E.cells hr Tryd.underlying100 rfl hiW ?_)
        | (refine wpList_stv rfl 100 _ _ rfl _ rfl rfl hZ0 hiW hzl q5 ?_))
      refine forget (p := fun y => Code.wp _ _ _ _ y) (fun W1 => Went w W1 H base ∧ Wr W1 H base A ∧ CellsAt W1 wr.heap.size 100 E.cells) ⟨Went.setRow (by omega) w (by omega) hgZ _, hWZ.setRow hZ0 (by decide) (by omega) _, hZ0.setRow _⟩ ?_
      obtain ⟨G, hG⟩ : ∃ q, wr.heap.size = q := ⟨_, rfl⟩
      rw [hG] at hltw hsW ⊢
      clear hZ0 hWZ hgZ hr hiW hzl q5 hG hW1 hg1 hsz1
      rintro W1 ⟨hg1, hW1, hD1⟩
      have hs1 := hW1.size
      have c0 : W1.cell? ⟨G, 0, none⟩ = some (.int .u8 E.too) := by rw [hD1.cell]; exact HQ.out.1
      have hp1 := put_any H base A (some ⟨W1.heap.size, 0, none⟩) 1 1 [E.too] (W1.alloc (.cells (row .u8 [E.too]) 5)) (hW1.alloc _) (new_bytes W1 [E.too] (by simp)) (by omega)
      have hgo := Went.alloc (H := H) hs1 (.cells (row .u8 [E.too]) 5)
      go_upto_region 10 with (go_at_call 60; refine hp1.mono ?_; rintro e w2 ⟨⟨r2, rfl⟩, hW2, hg2⟩)
      have hD2 := (hD1.went hgo (by omega) (by decide)).went hg2 (by omega) (by decide)
      have hg02 := hg1.trans (hgo.trans hg2)
      have hdt := dot_any H base (A ++ [E.too]) E.ea E.es w2 hW2 (by rw [List.length_append]; simp; omega)
      have rD : w2.rangeAt G 1 (dotC E.ea E.es) := by
        have := hD2.range 1 2
        rw [HQ.out.2.1] at this
        exact this
      clear hp1 c0 hgo hg1 hg2 hD1 hW1
      go_upto_region 11 with (first
        | (refine wpList_ldv rfl 32 _ rfl _ _ rfl (dotC E.ea E.es) rD Tryd.underlying32 rfl sizeDot ?_)
        | (go_at_call 67; refine hdt.mono ?_; rintro e w3 ⟨⟨r3, rfl⟩, hW3, hg3⟩))
      have hD3 := hD2.went hg3 (by omega) (by decide)
      have hg03 := hg02.trans hg3
      have rP : w3.rangeAt G 3 (E.data.map (Value.int .u8)) := by
        have := hD3.range 3 48
        rw [HQ.out.2.2] at this
        exact this
      have hpP := put_any H base (A ++ [E.too] ++ dotL E.ea E.es) (some ⟨G, 3, none⟩) 48 48 E.data w3 hW3 (rangeBytes rP HOKE.out.symm (by rw [HOKE.out]; omega)) (by rw [List.length_append, List.length_append, dotL_length]; simp; omega)
      clear hdt rD hg02 hg3 hD2 hW2
      go_wp2_with (go_at_call 60; refine hpP.mono ?_; rintro e w4 ⟨⟨r4, rfl⟩, hW4, hg4⟩)
      have hW4' : Wr w4 H base (L5 ++ wrapsL (ws.take (j + 1))) := by
        rw [← HTS.out]
        unfold wrapL
        simp only [List.append_assoc] at hW4 ⊢
        exact hW4
      clear hW4
      go_roundw
      case rel => exact ⟨j + 1, by omega, by go_num, hW4', hg03.trans hg4⟩
      case measure => simp [intOf]; omega
    · obtain rfl : j = lw := by omega
      have HA : Veil (ws.take j = ws) := ⟨List.take_of_length_le (by have := HLW.out; omega)⟩
      rw [HA.out] at hW1
      go_wp2
      go_end0
      refine ⟨⟨_, rfl⟩, ?_, hg1⟩
      rw [← HL5.out, ← HL4.out, ← HL3.out, ← HL2.out, ← HL1.out, HLW.out] at hW1
      unfold openL
      simp only [List.append_assoc] at hW1 ⊢
      exact hW1
end Go.Proofs.YtgcidamdbidgiaaDoor
