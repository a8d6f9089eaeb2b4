/- doc: Give. doc: Take. -/
import Derived.Test.YtgmbmdmbnpkbbaaMDc11Dc12
namespace Go.Proofs.Ytgmbmdmbnpkbbaa
open Go.RowKit Go.Shelf
set_option maxRecDepth 20000
set_option linter.unusedSimpArgs false
set_option maxHeartbeats 16000000 in
theorem dGive_any (base : Nat) (st : Ds) (p : Pl) (a who role : Int) (w : World) (hD : DocAt w base st p) (hG : GoodD st) (ha0 : 0 ≤ a) :
    Calls Try.prog 7 #[.pointer (some ⟨p.D, 0, none⟩), .int .u8 a, .int .u8 who, .int .u8 role] w fun r w' => r = .returned (.tuple #[.agg (tellG st a who role).1.cells.toArray, .int .i64 (tellG st a who role).2]) ∧ Below w.heap.size w w' := by
  have hB0 : Below w.heap.size w (w.alloc (.cells zC.toArray 32)) := (Below.refl _ _).alloc (Nat.le_refl _) _
  have hz0 := CellsAt.new w 32 zC
  have hD0 := hD.far hB0
  have hsl := hG.slen
  have HFB : Veil (∀ W, DocAt W base st p → Calls Try.prog 24 #[.pointer (some ⟨p.D, 0, none⟩), .int .u8 a, .bool (decide (who < 8) && (decide (1 ≤ role) && decide (role ≤ 3))), .int .u8 3] W fun r w' => r = .returned (.int .i64 (forbN st a (decide (who < 8) && (decide (1 ≤ role) && decide (role ≤ 3))) 3)) ∧ Below W.heap.size W w') := ⟨fun W h => dforbid_any base st p a (decide (who < 8) && (decide (1 ≤ role) && decide (role ≤ 3))) 3 W h hG ha0⟩
  have HR1 : Veil (forbN st a (decide (who < 8) && (decide (1 ≤ role) && decide (role ≤ 3))) 3 ≠ 0 → (tellG st a who role).1.cells = zC ∧ (tellG st a who role).2 = forbN st a (decide (who < 8) && (decide (1 ≤ role) && decide (role ≤ 3))) 3) := ⟨fun h => by
    have : tellG st a who role = (evZ0, forbN st a (decide (who < 8) && (decide (1 ≤ role) && decide (role ≤ 3))) 3) := if_pos h
    rw [this]; exact ⟨rfl, rfl⟩⟩
  have HR3 : Veil (forbN st a (decide (who < 8) && (decide (1 ≤ role) && decide (role ≤ 3))) 3 = 0 → ∃ n : Nat, a = (n : Int) ∧ (tellG st a who role).1.cells.length = 17 ∧ (∀ u ∈ (tellG st a who role).1.cells, u.oneCell' = true) ∧ (tellG st a who role).2 = 0 ∧ ∀ W, DocAt W base st p → Calls Try.prog 27 #[.pointer (some ⟨p.D, 0, none⟩), .int .u8 (n : Int), .agg (evKC 3 0 0 false 0 who role).toArray] W fun r w' => r = .returned (.agg (tellG st a who role).1.cells.toArray) ∧ Below W.heap.size W w') := ⟨fun h => by
    have ha8 := (forbN_zero h).1
    have e1 : tellG st a who role = (nextE st a.toNat (evK 3 (0, 0) false 0 who role), 0) := (if_neg (by rw [h]; simp))
    rw [e1]
    exact ⟨a.toNat, by omega, aev_len _ hG.slen, aev_one _, rfl, fun W hW => dnext_any base st p a.toNat (evK 3 (0, 0) false 0 who role) W hW hG (by omega) rfl⟩⟩
  generalize (tellG st a who role).1.cells = TC at HR1 HR3 ⊢
  generalize (tellG st a who role).2 = TN at HR1 HR3 ⊢
  generalize forbN st a (decide (who < 8) && (decide (1 ≤ role) && decide (role ≤ 3))) 3 = fN at HFB HR1 HR3
  have uE := Try.underlying32
  have uD := Try.underlying26
  have iZ : (Try.prog.info? 32).map (·.size) = some zC.length := by show _ = some 17; kernel_rfl
  have h1Z := zC_one
  have HCR : Veil (∀ W, DocAt W base st p → W.cell? ⟨p.D, 0, none⟩ = some (.pointer (some ⟨p.R, 0, none⟩))) := ⟨fun W h => h.cR hG.slen⟩
  obtain ⟨Z, hZ⟩ : ∃ Z, Z = zC := ⟨_, rfl⟩
  obtain ⟨D, hDD⟩ : ∃ q, p.D = q := ⟨_, rfl⟩
  rw [hDD] at HFB HR3 HCR ⊢
  rw [← hZ] at HR1 iZ h1Z
  clear hD hG hDD
  unfold zC at hB0 hz0 hD0
  go_enter Try.func7, Try.ntmps7
  go_upto_region 1 with fail
  refine forget (p := fun y => Code.wp _ _ _ _ y) (fun W => Below w.heap.size w W ∧ CellsAt W w.heap.size 32 Z ∧ DocAt W base st p) ⟨hB0, by rw [hZ]; exact hz0, hD0⟩ ?_
  clear hB0 hz0 hD0
  rintro W ⟨hB, hz, hD⟩
  have hfb := HFB.out W hD
  have hmw := isMember_any who W
  have hgv := isGiven_any role W
  generalize decide (who < 8) = MW at hmw hfb
  generalize (decide (1 ≤ role) && decide (role ≤ 3)) = GV at hgv hfb
  cases MW
  case' false => simp only [Bool.false_and] at hfb
  case' true => simp only [Bool.true_and] at hfb
  all_goals
    go_upto_region 2 with (first
      | (go_at_call 25; refine hmw.mono ?_; rintro y W1 ⟨rfl, h1⟩; replace h1 := h1.symm; subst h1; clear hmw)
      | (go_at_call 26; refine hgv.mono ?_; rintro y W1 ⟨rfl, h1⟩; replace h1 := h1.symm; subst h1; clear hgv)
      | (go_at_call 24; refine hfb.mono ?_; rintro y W2 ⟨rfl, hb2⟩; clear hfb))
  all_goals
    have hB2 := hB.trans (hb2.mono hB.size)
    have hz2 := hz.farM hb2
    have hD2 := hD.far hb2
    try clear hgv
    clear hb2 hB hz hD W
    by_cases h0 : fN = 0
    rotate_left
    · have h0b : (fN == 0) = false := by simpa using h0
      obtain ⟨e1, e2⟩ := HR1.out h0
      have hzz : Z = [.int .u8 0, .int .u32 0, .int .u32 0, .int .u32 0, .int .u32 0, .int .u32 0, .int .u32 0, .int .u32 0, .int .u32 0, .int .u32 0, .int .u8 0, .int .u8 0, .int .u32 0, .bool false, .int .u8 0, .int .u8 0, .int .u8 0] := hZ
      clear e1 e2
      go_wp2_with (refine wpList_stv (cs := [.int .u8 0, .int .u32 0, .int .u32 0, .int .u32 0, .int .u32 0, .int .u32 0, .int .u32 0, .int .u32 0, .int .u32 0, .int .u32 0, .int .u8 0, .int .u8 0, .int .u32 0, .bool false, .int .u8 0, .int .u8 0, .int .u8 0]) rfl 32 _ _ rfl w.heap.size rfl rfl hz2 (by rw [← hzz]; exact iZ) (by rw [hzz]) (by rw [← hzz]; exact h1Z) ?_)
      obtain ⟨e1, e2⟩ := HR1.out h0
      refine bodyPost_ret (results_ct (Try.results7) _ rfl rfl (hz2.setRow _) uE rfl (by rw [← hzz]; exact iZ)) rfl ⟨?_, below_setRow hB2 (Nat.le_refl _) _⟩
      rw [e1, e2, hzz]; rfl
    subst h0
    obtain ⟨n, rfl, hl17, h1c, rfl, hnx⟩ := HR3.out (by first | rfl | trivial)
    have iN : (Try.prog.info? 32).map (·.size) = some TC.length := by rw [hl17]; kernel_rfl
    have HZ17 : Veil (Z.length = 17) := ⟨by rw [hZ]; rfl⟩
    have hnc := hnx W2 hD2
    unfold evKC at hnc
    clear hnx
    go_wp2_with (first
      | (go_at_call 27; refine hnc.mono ?_; rintro y W5 ⟨rfl, hb5⟩; have hz5 := hz2.farM hb5; clear hnc)
      | (refine wpList_stv (cs := TC) rfl 32 _ _ rfl w.heap.size rfl rfl hz5 iN (by rw [HZ17.out, hl17]) h1c ?_))
    refine bodyPost_ret (results_ct (Try.results7) _ rfl rfl (hz5.setRow _) uE rfl iN) rfl ⟨rfl, below_setRow (hB2.trans (hb5.mono hB2.size)) (Nat.le_refl _) _⟩
end Go.Proofs.Ytgmbmdmbnpkbbaa

namespace Go.Proofs.Ytgmbmdmbnpkbbaa
open Go.RowKit Go.Shelf
set_option maxRecDepth 20000
set_option linter.unusedSimpArgs false
set_option maxHeartbeats 16000000 in
theorem dTake_any (base : Nat) (st : Ds) (p : Pl) (a who : Int) (w : World) (hD : DocAt w base st p) (hG : GoodD st) (ha0 : 0 ≤ a) :
    Calls Try.prog 9 #[.pointer (some ⟨p.D, 0, none⟩), .int .u8 a, .int .u8 who] w fun r w' => r = .returned (.tuple #[.agg (tellT st a who).1.cells.toArray, .int .i64 (tellT st a who).2]) ∧ Below w.heap.size w w' := by
  have hB0 : Below w.heap.size w (w.alloc (.cells zC.toArray 32)) := (Below.refl _ _).alloc (Nat.le_refl _) _
  have hz0 := CellsAt.new w 32 zC
  have hD0 := hD.far hB0
  have hsl := hG.slen
  have HFB : Veil (∀ W, DocAt W base st p → Calls Try.prog 24 #[.pointer (some ⟨p.D, 0, none⟩), .int .u8 a, .bool (decide (who < 8)), .int .u8 3] W fun r w' => r = .returned (.int .i64 (forbN st a (decide (who < 8)) 3)) ∧ Below W.heap.size W w') := ⟨fun W h => dforbid_any base st p a (decide (who < 8)) 3 W h hG ha0⟩
  have HR1 : Veil (forbN st a (decide (who < 8)) 3 ≠ 0 → (tellT st a who).1.cells = zC ∧ (tellT st a who).2 = forbN st a (decide (who < 8)) 3) := ⟨fun h => by
    have : tellT st a who = (evZ0, forbN st a (decide (who < 8)) 3) := if_pos h
    rw [this]; exact ⟨rfl, rfl⟩⟩
  have HR3 : Veil (forbN st a (decide (who < 8)) 3 = 0 → ∃ n : Nat, a = (n : Int) ∧ (tellT st a who).1.cells.length = 17 ∧ (∀ u ∈ (tellT st a who).1.cells, u.oneCell' = true) ∧ (tellT st a who).2 = 0 ∧ ∀ W, DocAt W base st p → Calls Try.prog 27 #[.pointer (some ⟨p.D, 0, none⟩), .int .u8 (n : Int), .agg (evKC 4 0 0 false 0 who 0).toArray] W fun r w' => r = .returned (.agg (tellT st a who).1.cells.toArray) ∧ Below W.heap.size W w') := ⟨fun h => by
    have ha8 := (forbN_zero h).1
    have e1 : tellT st a who = (nextE st a.toNat (evK 4 (0, 0) false 0 who 0), 0) := (if_neg (by rw [h]; simp))
    rw [e1]
    exact ⟨a.toNat, by omega, aev_len _ hG.slen, aev_one _, rfl, fun W hW => dnext_any base st p a.toNat (evK 4 (0, 0) false 0 who 0) W hW hG (by omega) rfl⟩⟩
  generalize (tellT st a who).1.cells = TC at HR1 HR3 ⊢
  generalize (tellT st a who).2 = TN at HR1 HR3 ⊢
  generalize forbN st a (decide (who < 8)) 3 = fN at HFB HR1 HR3
  have uE := Try.underlying32
  have uD := Try.underlying26
  have iZ : (Try.prog.info? 32).map (·.size) = some zC.length := by show _ = some 17; kernel_rfl
  have h1Z := zC_one
  have HCR : Veil (∀ W, DocAt W base st p → W.cell? ⟨p.D, 0, none⟩ = some (.pointer (some ⟨p.R, 0, none⟩))) := ⟨fun W h => h.cR hG.slen⟩
  obtain ⟨Z, hZ⟩ : ∃ Z, Z = zC := ⟨_, rfl⟩
  obtain ⟨D, hDD⟩ : ∃ q, p.D = q := ⟨_, rfl⟩
  rw [hDD] at HFB HR3 HCR ⊢
  rw [← hZ] at HR1 iZ h1Z
  clear hD hG hDD
  unfold zC at hB0 hz0 hD0
  go_enter Try.func9, Try.ntmps9
  go_upto_region 1 with fail
  refine forget (p := fun y => Code.wp _ _ _ _ y) (fun W => Below w.heap.size w W ∧ CellsAt W w.heap.size 32 Z ∧ DocAt W base st p) ⟨hB0, by rw [hZ]; exact hz0, hD0⟩ ?_
  clear hB0 hz0 hD0
  rintro W ⟨hB, hz, hD⟩
  have hfb := HFB.out W hD
  have hmw := isMember_any who W
  go_upto_region 2 with (first
    | (go_at_call 25; refine hmw.mono ?_; rintro y W1 ⟨rfl, h1⟩; replace h1 := h1.symm; subst h1; clear hmw)
    | (go_at_call 24; refine hfb.mono ?_; rintro y W2 ⟨rfl, hb2⟩; clear hfb))
  have hB2 := hB.trans (hb2.mono hB.size)
  have hz2 := hz.farM hb2
  have hD2 := hD.far hb2
  clear hb2 hB hz hD W
  by_cases h0 : fN = 0
  rotate_left
  · have h0b : (fN == 0) = false := by simpa using h0
    obtain ⟨e1, e2⟩ := HR1.out h0
    have hzz : Z = [.int .u8 0, .int .u32 0, .int .u32 0, .int .u32 0, .int .u32 0, .int .u32 0, .int .u32 0, .int .u32 0, .int .u32 0, .int .u32 0, .int .u8 0, .int .u8 0, .int .u32 0, .bool false, .int .u8 0, .int .u8 0, .int .u8 0] := hZ
    clear e1 e2
    go_wp2_with (refine wpList_stv (cs := [.int .u8 0, .int .u32 0, .int .u32 0, .int .u32 0, .int .u32 0, .int .u32 0, .int .u32 0, .int .u32 0, .int .u32 0, .int .u32 0, .int .u8 0, .int .u8 0, .int .u32 0, .bool false, .int .u8 0, .int .u8 0, .int .u8 0]) rfl 32 _ _ rfl w.heap.size rfl rfl hz2 (by rw [← hzz]; exact iZ) (by rw [hzz]) (by rw [← hzz]; exact h1Z) ?_)
    obtain ⟨e1, e2⟩ := HR1.out h0
    refine bodyPost_ret (results_ct (Try.results9) _ rfl rfl (hz2.setRow _) uE rfl (by rw [← hzz]; exact iZ)) rfl ⟨?_, below_setRow hB2 (Nat.le_refl _) _⟩
    rw [e1, e2, hzz]; rfl
  subst h0
  obtain ⟨n, rfl, hl17, h1c, rfl, hnx⟩ := HR3.out (by first | rfl | trivial)
  have iN : (Try.prog.info? 32).map (·.size) = some TC.length := by rw [hl17]; kernel_rfl
  have HZ17 : Veil (Z.length = 17) := ⟨by rw [hZ]; rfl⟩
  have hnc := hnx W2 hD2
  unfold evKC at hnc
  clear hnx
  go_wp2_with (first
    | (go_at_call 27; refine hnc.mono ?_; rintro y W5 ⟨rfl, hb5⟩; have hz5 := hz2.farM hb5; clear hnc)
    | (refine wpList_stv (cs := TC) rfl 32 _ _ rfl w.heap.size rfl rfl hz5 iN (by rw [HZ17.out, hl17]) h1c ?_))
  refine bodyPost_ret (results_ct (Try.results9) _ rfl rfl (hz5.setRow _) uE rfl iN) rfl ⟨rfl, below_setRow (hB2.trans (hb5.mono hB2.size)) (Nat.le_refl _) _⟩
end Go.Proofs.Ytgmbmdmbnpkbbaa
