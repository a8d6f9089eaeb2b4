/- 'Heads' of wire. -/
import Derived.Test.YtkgbcnfkakdncaaDoorRh
import Derived.Test.YtkgbcnfkakdncaaDoorWr6
namespace Go.Proofs.YtkgbcnfkakdncaaDoor
open Go.RowKit
set_option maxRecDepth 20000
set_option linter.unusedSimpArgs false

/-- Heads as bytes. -/
def headL (h : Int × List Int) : List Int := be4 h.1 ++ h.2
def headsL (l : List (Int × List Int)) : List Int := (l.map headL).flatten
theorem headsL_take (l : List (Int × List Int)) (j : Nat) (hj : j < l.length) : headsL (l.take (j + 1)) = headsL (l.take j) ++ headL l[j] := by
  unfold headsL
  rw [List.take_succ_eq_append_getElem hj, List.map_append, List.flatten_append]
  simp
theorem headsL_len (l : List (Int × List Int)) (hl : hdOk l) : (headsL l).length = 36 * l.length := by
  induction l with
  | nil => rfl
  | cons h l ih =>
    have h1 := hl h (by simp)
    have h2 := ih (fun x hx => hl x (by simp [hx]))
    unfold headsL at h2 ⊢
    rw [List.map_cons, List.flatten_cons, List.length_append, h2, List.length_cons]
    unfold headL
    rw [List.length_append, be4_length, h1]; omega
theorem sizeHead : (Tryd.prog.info? 26).map (·.size) = some 33 := by kernel_rfl
theorem hds_split (l : List (Int × List Int)) (j : Nat) (hj : j < l.length) : l = l.take j ++ l[j] :: l.drop (j + 1) := by
  rw [List.getElem_cons_drop, List.take_append_drop]
theorem run_index_head (w : World) (l : List (Int × List Int)) (hl : hdOk l) (h8 : l.length = 8) (j : Nat) (hj : j < 8) :
    (Instr.index 27 (.agg (hdsC l).toArray) (.int .i64 (j : Int))).run Tryd.prog w = .ok (.agg (hdC (l[j]'(by omega))).toArray) w := by
  have hp : ((hdsC l).drop (j * 33)).take 33 = hdC (l[j]'(by omega)) := by
    have := hds_part (l.take j) (l[j]'(by omega)) (l.drop (j + 1)) j (fun x hx => hl x (List.mem_of_mem_take hx)) (by rw [List.length_take]; omega) (hl _ (List.getElem_mem _))
    rw [← hds_split l j (by omega)] at this
    exact this
  have h := sizeHead
  cases hq : Tryd.prog.info? 26 with
  | none => simp [hq] at h
  | some i =>
    have hs : i.size = 33 := by simpa [hq] using h
    simp [Instr.index, asIntOf, run_underlying Tryd.underlying27, sizeOf, typeInfo, hq, hs, hj, part, isAgg, run_underlying Tryd.underlying26, List.extract, hp]
def zeroHd : List Value := hdC (0, keyZ)

set_option maxHeartbeats 4000000 in
theorem Heads_any (l : List (Int × List Int)) (w : World) (hl : hdOk l) (h8 : l.length = 8) :
    Calls Tryd.prog 4 #[.agg (hdsC l).toArray] w fun e w' => ∃ v, e = .returned v ∧ OwnB w' w.heap.size v (headsL l) ∧ Below w.heap.size w w' := by
  have hD0 := (CellsAt.new w 27 (hdsC l)).alloc (.cells #[.slice none 0 0] 36)
  have hbx : Box ((w.alloc (.cells (hdsC l).toArray 27)).alloc (.cells #[.slice none 0 0] 36)) (w.heap.size + 1) 36 (.slice none 0 0) := by
    have : Box ((w.alloc (.cells (hdsC l).toArray 27)).alloc (.cells #[.slice none 0 0] 36)) (w.alloc (.cells (hdsC l).toArray 27)).heap.size 36 (.slice none 0 0) := heap_alloc_new _ _
    rw [World.size_alloc] at this
    exact this
  have hW0 : Wr ((w.alloc (.cells (hdsC l).toArray 27)).alloc (.cells #[.slice none 0 0] 36)) (w.heap.size + 1) w.heap.size [] := ⟨by omega, _, hbx, OwnB.nil _ _⟩
  have hB0 : Below w.heap.size w ((w.alloc (.cells (hdsC l).toArray 27)).alloc (.cells #[.slice none 0 0] 36)) := ((Below.refl _ _).alloc (Nat.le_refl _) _).alloc (by simp) _
  have hiC := sizeHeadsL l hl h8
  have HIX : Veil (∀ (j : Nat) (E : Int × List Int) (wx : World), j < 8 → l[j]? = some E → (Instr.index 27 (.agg (hdsC l).toArray) (.int .i64 (j : Int))).run Tryd.prog wx = .ok (.agg (hdC E).toArray) wx) := ⟨fun j E wx hj hE => by
    have := run_index_head wx l hl h8 j hj
    rw [List.getElem?_eq_getElem (by omega)] at hE
    rw [this, Option.some.inj hE]⟩
  have HL : Veil (hdOk l) := ⟨hl⟩
  have H8 : Veil (l.length = 8) := ⟨h8⟩
  obtain ⟨C, hC⟩ : ∃ q, hdsC l = q := ⟨_, rfl⟩
  rw [hC] at hD0 hW0 hB0 hiC HIX
  rw [hC]
  clear hbx hl h8 hC
  go_enter Tryd.func4, Tryd.ntmps4
  go_upto_region 2 with fail
  refine forget (p := fun y => Code.wp _ _ _ _ y) (fun W0 => Below w.heap.size w W0 ∧ Wr W0 (w.heap.size + 1) w.heap.size [] ∧ CellsAt W0 w.heap.size 27 C) ⟨hB0, hW0, hD0⟩ ?_
  clear hB0 hW0 hD0
  rintro W0 ⟨hB0, hW0, hD0⟩
  have rE := hD0.whole2
  go_upto_region 3 with (refine wpList_ldv rfl 27 _ rfl _ _ rfl C rE Tryd.underlying27 rfl hiC ?_)
  clear rE hD0
  go_loopw [5, 7] (fun _ q wr => ∃ j : Nat, j ≤ 8 ∧ q = .int .i64 j ∧ Wr wr (w.heap.size + 1) w.heap.size (headsL (l.take j)) ∧ Below w.heap.size w wr) (fun _ q _ => 8 - (intOf q).toNat)
  case atStart => exact ⟨0, by omega, rfl, by simpa [headsL] using hW0, hB0⟩
  case round =>
    clear hW0 hB0
    obtain ⟨j, hj, rfl, hW1, hB1⟩ := hrel
    have hlen : (headsL (l.take j)).length ≤ 1000 := by
      rw [headsL_len _ (fun x hx => HL.out x (List.mem_of_mem_take hx)), List.length_take]; omega
    by_cases hlt : j < 8
    · have hts := headsL_take l j (by have := H8.out; omega)
      have hok := HL.out _ (List.getElem_mem (l := l) (n := j) (by have := H8.out; omega))
      obtain ⟨E, hE⟩ : ∃ q, l[j]'(by have := H8.out; omega) = q := ⟨_, rfl⟩
      have hix := fun wx => HIX.out j E wx hlt (by rw [List.getElem?_eq_getElem (by have := H8.out; omega), hE])
      rw [hE] at hts hok
      have HTS : Veil (headsL (l.take j) ++ headL E = headsL (l.take (j + 1))) := ⟨hts.symm⟩
      have HOKE : Veil (E.2.length = 32) := ⟨hok⟩
      obtain ⟨A, hA⟩ : ∃ q, headsL (l.take j) = q := ⟨_, rfl⟩
      rw [hA] at hW1 HTS hlen
      have hsz1 := hW1.size
      have hltw : w.heap.size + 1 < wr.heap.size := by obtain ⟨v, h1, _⟩ := hW1.has; exact h1.lt
      have hZ0 : CellsAt (wr.alloc (.cells zeroHd.toArray 26)) wr.heap.size 26 zeroHd := CellsAt.new wr 26 zeroHd
      have hWZ := hW1.alloc (.cells zeroHd.toArray 26)
      have hgZ := (Went.alloc (w := wr) (H := w.heap.size + 1) hsz1 (.cells zeroHd.toArray 26))
      have hj0 : (0 : Int) ≤ (j : Int) := by omega
      have hjl : (j : Int) < 8 := by omega
      have hiW : (Tryd.prog.info? 26).map (·.size) = some (hdC E).length := by rw [hdC_len E hok]; exact sizeHead
      have hzl : zeroHd.length = (hdC E).length := by rw [hdC_len E hok]; rfl
      have q5 : ∀ v ∈ hdC E, v.oneCell' = true := fun v hv => by
        unfold hdC at hv
        rcases List.mem_cons.1 hv with rfl | h1
        · rfl
        · exact byC_one _ v h1
      clear hts hE hA hok
      obtain ⟨D, hD⟩ : ∃ q, hdC E = q := ⟨_, rfl⟩
      have HD : Veil (D = .int .u32 E.1 :: byC E.2) := ⟨by rw [← hD]; rfl⟩
      rw [hD] at hix hiW hzl q5
      clear hD
      go_upto_region 5 with (refine wpList_stv rfl 26 _ _ rfl _ rfl rfl hZ0 hiW hzl q5 ?_)
      refine forget (p := fun y => Code.wp _ _ _ _ y) (fun W1 => Below w.heap.size w W1 ∧ Wr W1 (w.heap.size + 1) w.heap.size A ∧ CellsAt W1 wr.heap.size 26 D) ⟨below_setRow (hB1.alloc hB1.size _) hB1.size _, hWZ.setRow hZ0 (by decide) (by omega) _, hZ0.setRow _⟩ ?_
      obtain ⟨G, hG⟩ : ∃ q, wr.heap.size = q := ⟨_, rfl⟩
      rw [hG] at hltw ⊢
      clear hZ0 hWZ hgZ hix hiW hzl q5 hG hW1 hsz1 hB1
      rintro W1 ⟨hB1, hW1, hD1⟩
      have c0 : W1.cell? ⟨G, 0, none⟩ = some (.int .u32 E.1) := by rw [hD1.cell, HD.out]; rfl
      have hf1 := four_any (w.heap.size + 1) w.heap.size A E.1 W1 hW1 (by omega)
      go_upto_region 6 with (go_at_call 8; refine hf1.mono ?_; rintro e w2 ⟨⟨r2, rfl⟩, hW2, hg2⟩)
      have hD2 := hD1.went hg2 (by omega) (by decide)
      have hB2 := hB1.trans hg2.below
      have rP : w2.rangeAt G 1 (E.2.map (Value.int .u8)) := by
        have := hD2.range 1 32
        rw [HD.out] at this
        rw [show ((Value.int .u32 E.1 :: byC E.2).drop 1).take 32 = byC E.2 from List.take_of_length_le (by simp [byC_length, HOKE.out])] at this
        exact this
      have hpP := put_any (w.heap.size + 1) w.heap.size (A ++ be4 E.1) (some ⟨G, 1, none⟩) 32 32 E.2 w2 hW2 (rangeBytes rP HOKE.out.symm (by rw [HOKE.out]; omega)) (by rw [List.length_append, be4_length]; omega)
      clear c0 hf1 hD1 hW1 hB1
      go_wp2_with (go_at_call 9; refine hpP.mono ?_; rintro e w4 ⟨⟨r4, rfl⟩, hW4, hg4⟩)
      have hW4' : Wr w4 (w.heap.size + 1) w.heap.size (headsL (l.take (j + 1))) := by
        rw [← HTS.out]
        unfold headL
        simp only [List.append_assoc] at hW4 ⊢
        exact hW4
      clear hW4
      go_roundw
      case rel => exact ⟨j + 1, by omega, by go_num, hW4', hB2.trans hg4.below⟩
      case measure => simp [intOf]; omega
    · obtain rfl : j = 8 := by omega
      have HA : Veil (l.take 8 = l) := ⟨List.take_of_length_le (by have := H8.out; omega)⟩
      rw [HA.out] at hW1
      obtain ⟨v, hb1, ho1⟩ := hW1.has
      have c0 := hb1.cell
      obtain ⟨x1, n1, c1, rfl, hn1⟩ := ho1.isSlice
      clear hn1 hW1 hb1 hlen
      go_wp2
      go_ret
      exact ⟨_, rfl, ho1, hB1⟩
end Go.Proofs.YtkgbcnfkakdncaaDoor
