/- The reference's 'Heads'. -/
import Derived.Test.YtkgbcnfkakdncaaDoorWh
import Derived.Test.YtkgbcnfkakdncaaDoorWo1
namespace Go.Proofs.YtkgbcnfkakdncaaDoor
open Go.RowKit
set_option maxRecDepth 20000
set_option linter.unusedSimpArgs false

theorem CellsAt.far4 {w w' : World} {g : Nat} {t : TypeId} {cs : List Value} (h : CellsAt w g t cs) (hb : Below w.heap.size w w') : CellsAt w' g t cs := by
  have hl := h.lt
  unfold CellsAt at h ⊢; rw [hb.block g hl]; exact h
theorem CellsAt.grown4 {w w' : World} {base g : Nat} {v : Value} {z : List Int} {t : TypeId} {cs : List Value} (h : CellsAt w g t cs) (ho : OwnB w base v z) (hg : w.grownBy w' v.ownBlock) (ht : t ≠ 5) : CellsAt w' g t cs := grownT ho hg h ht
theorem hds_at (l : List (Int × List Int)) (hl : hdOk l) (j : Nat) (hj : j < l.length) : (hdsC l)[j * 33]? = some (.int .u32 (l[j]).1) ∧ ((hdsC l).drop (j * 33 + 1)).take 32 = byC (l[j]).2 := by
  have h1 : hdOk (l.take j) := fun x hx => hl x (List.mem_of_mem_take hx)
  have h2 : (l.take j).length = j := by rw [List.length_take]; omega
  have h3 := hl _ (List.getElem_mem hj)
  have a := hds_get (l.take j) l[j] (l.drop (j + 1)) j h1 h2
  have b := hds_part (l.take j) l[j] (l.drop (j + 1)) j h1 h2 h3
  rw [← hds_split l j hj] at a b
  refine ⟨a, ?_⟩
  have c : ((hdsC l).drop (j * 33 + 1)).take 32 = (((hdsC l).drop (j * 33)).take 33).drop 1 := by
    rw [List.drop_take, List.drop_drop]
  rw [c, b]; rfl
set_option maxHeartbeats 4000000 in
theorem refHeads_any (l : List (Int × List Int)) (w : World) (hl : hdOk l) (h8 : l.length = 8) :
    Calls Tryd.prog 7 #[.agg (hdsC l).toArray] w fun e w' => ∃ v, e = .returned v ∧ OwnB w' w.heap.size v (headsL l) ∧ Below w.heap.size w w' := by
  have hD0 := CellsAt.new w 27 (hdsC l)
  have hB0 : Below w.heap.size w (w.alloc (.cells (hdsC l).toArray 27)) := (Below.refl _ _).alloc (Nat.le_refl _) _
  have HAT : Veil (∀ (j : Nat) (E : Int × List Int), l[j]? = some E → (hdsC l)[j * 33]? = some (.int .u32 E.1) ∧ ((hdsC l).drop (j * 33 + 1)).take 32 = byC E.2) := ⟨fun j E hE => by
    have hj := (List.getElem?_eq_some_iff.1 hE).1
    have := hds_at l hl j hj
    rw [(List.getElem?_eq_some_iff.1 hE).2] at this
    exact this⟩
  have HL : Veil (hdOk l) := ⟨hl⟩
  have H8 : Veil (l.length = 8) := ⟨h8⟩
  obtain ⟨C, hC⟩ : ∃ q, hdsC l = q := ⟨_, rfl⟩
  rw [hC] at hD0 hB0 HAT
  rw [hC]
  clear hl h8 hC
  go_enter Tryd.func7, Tryd.ntmps7
  go_upto_region 1 with fail
  refine forget (p := fun y => Code.wp _ _ _ _ y) (fun W0 => Below w.heap.size w W0 ∧ CellsAt W0 w.heap.size 27 C) ⟨hB0, hD0⟩ ?_
  clear hB0 hD0
  rintro W0 ⟨hB0, hD0⟩
  go_wp2_with fail
  go_loopw [3, 4] (fun v q wr => ∃ j : Nat, j ≤ 8 ∧ q = .int .i64 j ∧ OwnB wr w.heap.size v (headsL (l.take j)) ∧ CellsAt wr w.heap.size 27 C ∧ Below w.heap.size w wr) (fun _ q _ => 8 - (intOf q).toNat)
  case atStart => exact ⟨0, by omega, rfl, by simpa [headsL] using OwnB.nil _ _, hD0, hB0⟩
  case round =>
    clear hD0 hB0
    obtain ⟨j, hj, rfl, hO1, hD1, hB1⟩ := hrel
    obtain ⟨x1, n1, c1, hv1, hn1⟩ := hO1.isSlice
    subst hv1
    clear hn1
    have hlen : (headsL (l.take j)).length ≤ 1000 := by
      rw [headsL_len _ (fun x hx => HL.out x (List.mem_of_mem_take hx)), List.length_take]; omega
    by_cases hlt : j < 8
    · have hts := headsL_take l j (by have := H8.out; omega)
      have hok := HL.out _ (List.getElem_mem (l := l) (n := j) (by have := H8.out; omega))
      obtain ⟨E, hE⟩ : ∃ q, l[j]'(by have := H8.out; omega) = q := ⟨_, rfl⟩
      have hat := HAT.out j E (by rw [List.getElem?_eq_getElem (by have := H8.out; omega), hE])
      rw [hE] at hts hok
      have HTS : Veil (headsL (l.take j) ++ headL E = headsL (l.take (j + 1))) := ⟨hts.symm⟩
      have HOKE : Veil (E.2.length = 32) := ⟨hok⟩
      have HAT1 := Veil.mk hat
      have hfo := fun wx => refFour_any E.1 wx
      have hfl := be4_length E.1
      have HHL : Veil (headL E = be4 E.1 ++ E.2) := ⟨rfl⟩
      obtain ⟨N4, hN4⟩ : ∃ q, be4 E.1 = q := ⟨_, rfl⟩
      rw [hN4] at hfo hfl HHL
      obtain ⟨A, hA⟩ : ∃ q, headsL (l.take j) = q := ⟨_, rfl⟩
      rw [hA] at hO1 HTS hlen
      have hj0 : (0 : Int) ≤ (j : Int) := by omega
      have hj8 : (j : Int) < 8 := by omega
      have HKS : Veil (∀ w', CellsAt w' w.heap.size 27 C → w'.cell? ⟨w.heap.size, j * 33, none⟩ = some (.int .u32 E.1)) := ⟨fun w' h => by rw [h.cell]; exact HAT1.out.1⟩
      have HKP : Veil (∀ w', CellsAt w' w.heap.size 27 C → Bytes w' (some ⟨w.heap.size, j * 33 + 1, none⟩) 32 32 E.2) := ⟨fun w' h => by
        have := h.range (j * 33 + 1) 32
        rw [HAT1.out.2] at this
        exact rangeBytes this HOKE.out.symm (by rw [HOKE.out]; omega)⟩
      clear hts hE hA hok hat hN4
      go_upto_region 5 with fail
      refine wp_region_gate (fun w' => w'.cell? ⟨w.heap.size, j * 33, none⟩ = some (.int .u32 E.1)) 12 (by kernel_rfl) ?_
      obtain ⟨D0, hD0⟩ : ∃ q, wr.drew = q := ⟨_, rfl⟩
      have hb0 : Below wr.heap.size wr D0 := by rw [← hD0]; exact (Below.refl _ _).drew
      rw [hD0]
      have hB2 := hB1.trans (hb0.mono hB1.size)
      have hD2 := hD1.far4 hb0
      have hO2 := hO1.afarW hb0
      clear hD0 hb0 hB1 hD1 hO1
      have hS := HKS.out _ hD2
      refine wpAnyG_any (i := 0) (v := ?_) rfl (by kernel_rfl) (by kernel_rfl) (by kernel_rfl) (fun _ _ _ h => h) (by kernel_rfl) (fun _ => hS) (by kernel_rfl) ?_ ?_
      rotate_left
      · intro _; go_simp; try with_reducible rfl
      simp only [Act.put, List.setIfInBounds_toArray, List.set_cons_zero, List.set_cons_succ]
      refine wpAnyG_any (i := 1) (v := ?_) rfl (by kernel_rfl) (by kernel_rfl) (by kernel_rfl) (fun _ _ _ h => h) (by kernel_rfl) (fun _ => hS) (by kernel_rfl) ?_ ?_
      rotate_left
      · intro _; go_simp; try with_reducible rfl
      simp only [Act.put, List.setIfInBounds_toArray, List.set_cons_zero, List.set_cons_succ]
      refine wpAnyG_any (i := 2) (v := ?_) rfl (by kernel_rfl) (by kernel_rfl) (by kernel_rfl) (fun _ _ _ h => h) (by kernel_rfl) (fun _ => hS) (by kernel_rfl) ?_ ?_
      rotate_left
      · intro _; go_simp; try with_reducible rfl
      simp only [Act.put, List.setIfInBounds_toArray, List.set_cons_zero, List.set_cons_succ]
      refine wpAnyG_any (i := 3) (v := ?_) rfl (by kernel_rfl) (by kernel_rfl) (by kernel_rfl) (fun _ _ _ h => h) (by kernel_rfl) (fun _ => hS) (by kernel_rfl) ?_ ?_
      rotate_left
      · intro _; go_simp; try with_reducible rfl
      simp only [Act.put, List.setIfInBounds_toArray, List.set_cons_zero, List.set_cons_succ]
      refine wpAnyG_read (i := 4) (v := ?_) rfl (by kernel_rfl) (by kernel_rfl) (by kernel_rfl) (fun _ _ _ h => h) (by kernel_rfl) (by kernel_rfl) (by kernel_rfl) hS (by kernel_rfl) ?_ ?_
      rotate_left
      · intro wx hSw; go_split_ands; go_simp; try with_reducible rfl
      simp only [Act.put, List.setIfInBounds_toArray, List.set_cons_zero, List.set_cons_succ]
      refine wpAnyG_any (i := 7) (v := ?_) rfl (by kernel_rfl) (by kernel_rfl) (by kernel_rfl) (fun _ _ _ h => h) (by kernel_rfl) (fun _ => hS) (by kernel_rfl) ?_ ?_
      rotate_left
      · intro _; go_simp; try with_reducible rfl
      simp only [Act.put, List.setIfInBounds_toArray, List.set_cons_zero, List.set_cons_succ]
      refine wpAnyG_any (i := 8) (v := ?_) rfl (by kernel_rfl) (by kernel_rfl) (by kernel_rfl) (fun _ _ _ h => h) (by kernel_rfl) (fun _ => hS) (by kernel_rfl) ?_ ?_
      rotate_left
      · intro _; go_simp; try with_reducible rfl
      simp only [Act.put, List.setIfInBounds_toArray, List.set_cons_zero, List.set_cons_succ]
      refine wpAnyG_any (i := 9) (v := ?_) rfl (by kernel_rfl) (by kernel_rfl) (by kernel_rfl) (fun _ _ _ h => h) (by kernel_rfl) (fun _ => hS) (by kernel_rfl) ?_ ?_
      rotate_left
      · intro _; go_simp; try with_reducible rfl
      simp only [Act.put, List.setIfInBounds_toArray, List.set_cons_zero, List.set_cons_succ]
      refine wpAnyG_any (i := 10) (v := ?_) rfl (by kernel_rfl) (by kernel_rfl) (by kernel_rfl) (fun _ _ _ h => h) (by kernel_rfl) (fun _ => hS) (by kernel_rfl) ?_ ?_
      rotate_left
      · intro _; go_simp; try with_reducible rfl
      simp only [Act.put, List.setIfInBounds_toArray, List.set_cons_zero, List.set_cons_succ]
      refine wpAnyG_one (i := 5) rfl (by kernel_rfl) (by kernel_rfl) (fun K hK => ?_)
      go_wp2_with (go_at_call 15; refine (hfo _).mono ?_; rintro e w3 ⟨v3, rfl, ho3, hb3⟩)
      obtain ⟨x3, n3, c3, rfl, hn3⟩ := ho3.isSlice
      have hy3 := ho3.bytes.2
      rw [hfl] at hn3
      subst hn3
      have hO3 := hO2.afarW hb3
      have hD3 := hD2.far4 hb3
      have hB3 := hB2.trans (hb3.mono hB2.size)
      clear hO2 hD2 hB2 hb3 ho3
      replace hS := HKS.out _ hD3
      refine hK.out _ _ (fun _ => hS) ?_
      clear hK K
      refine wpAnyG_one (i := 6) rfl (by kernel_rfl) (by kernel_rfl) (fun K hK => ?_)
      refine wp_appA _ _ rfl w.heap.size _ A rfl hO3 x3 4 c3 N4 rfl hy3 (by omega) hB3.size ?_
      intro v4 w4 ho4 hg4
      have hD4 := hD3.grown4 hO3 hg4 (by decide)
      have hB4 : Below w.heap.size w w4 := below_grown hB3 hO3 hg4 hB3.size
      replace hS := HKS.out _ hD4
      clear hg4 hO3 hD3 hB3 hy3
      have hy4 := HKP.out _ hD4
      refine hK.out _ _ (fun _ => hS) ?_
      clear hK K
      refine wpAnyG_one (i := 11) rfl (by kernel_rfl) (by kernel_rfl) (fun K hK => ?_)
      refine wp_appA _ _ rfl w.heap.size _ (A ++ N4) rfl ho4 (some ⟨w.heap.size, j * 33 + 1, none⟩) 32 32 E.2 rfl hy4 (by rw [List.length_append]; omega) hB4.size ?_
      intro v5 w5 ho5 hg5
      have hD5 := hD4.grown4 ho4 hg5 (by decide)
      have hB5 : Below w.heap.size w w5 := below_grown hB4 ho4 hg5 hB4.size
      replace hS := HKS.out _ hD5
      clear hg5 ho4 hD4 hB4 hy4
      refine hK.out _ _ (fun _ => hS) ?_
      clear hK K
      refine wpAnyG_one (i := 12) rfl (by kernel_rfl) (by kernel_rfl) (fun K hK => ?_)
      go_simp
      refine hK.out _ _ (fun h => absurd (show true = false from h) (by decide)) ?_
      clear hK K
      refine wpAnyG_done (by kernel_rfl) ?_ _
      have hO6 : OwnB w5 w.heap.size v5 (headsL (l.take (j + 1))) := by
        rw [← HTS.out, HHL.out, ← List.append_assoc]; exact ho5
      clear ho5 hS hfo
      go_wp2
      go_roundw
      case rel => exact ⟨j + 1, by omega, by go_num, hO6, hD5, hB5⟩
      case measure => simp [intOf]; omega
    · obtain rfl : j = 8 := by omega
      have HA : Veil (l.take 8 = l) := ⟨List.take_of_length_le (by have := H8.out; omega)⟩
      rw [HA.out] at hO1
      clear hlen
      go_wp2
      go_ret
      exact ⟨_, rfl, hO1, hB1⟩
end Go.Proofs.YtkgbcnfkakdncaaDoor
