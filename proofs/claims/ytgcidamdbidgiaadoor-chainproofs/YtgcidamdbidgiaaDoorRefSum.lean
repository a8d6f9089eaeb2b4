/- The reference's 'Sum'. -/
import Derived.Test.YtgcidamdbidgiaaDoorRefStepB
import Derived.Test.YtgcidamdbidgiaaDoorMPureBPadSum
import Derived.Deep.RegionWith
namespace Go.Proofs.YtgcidamdbidgiaaDoor.S
open Go.RowKit
set_option maxRecDepth 20000
set_option linter.unusedSimpArgs false

theorem refStart_any (w : World) :
    Calls Tryd.prog 45 #[] w fun e w' => e = .returned (.agg #[.int .u32 1779033703, .int .u32 3144134277, .int .u32 1013904242, .int .u32 2773480762, .int .u32 1359893119, .int .u32 2600822924, .int .u32 528734635, .int .u32 1541459225]) ∧ Below w.heap.size w w' := by
  go_enter Tryd.func45, Tryd.ntmps45
  go_wp2
  exact bodyPost_ret (v := .agg (row .u32 startL)) (by simp [results, Tryd.results45, go_sem, row, startL]) rfl ⟨rfl, (Below.refl _ _).alloc (Nat.le_refl _) _⟩
theorem joinK_getR (s : List Int) (k i : Nat) (h : i < 4 * k) : (joinK s k)[i]?.getD 0 = s[i / 4]?.getD 0 / 2 ^ (24 - 8 * (i % 4)) % 256 := by
  induction k with
  | zero => omega
  | succ k ih =>
    simp only [joinK]
    by_cases hlt : i < 4 * k
    · rw [List.getElem?_append_left (by rw [joinK_length]; exact hlt)]; exact ih hlt
    · rw [List.getElem?_append_right (by rw [joinK_length]; omega), joinK_length]
      have hq : i / 4 = k := by omega
      have : i - 4 * k = 0 ∨ i - 4 * k = 1 ∨ i - 4 * k = 2 ∨ i - 4 * k = 3 := by omega
      rw [hq]
      rcases this with h0 | h0 | h0 | h0
      · have hr : i % 4 = 0 := by omega
        rw [h0, hr]; rfl
      · have hr : i % 4 = 1 := by omega
        rw [h0, hr]; rfl
      · have hr : i % 4 = 2 := by omega
        rw [h0, hr]; rfl
      · have hr : i % 4 = 3 := by omega
        rw [h0, hr]; simp [bytes4]
/-- The first i of a row, noughts behind. -/
def upToR (l : List Int) (i : Nat) : List Int := l.take i ++ List.replicate (l.length - i) 0
theorem upToR_length (l : List Int) (i : Nat) (h : i ≤ l.length) : (upToR l i).length = l.length := by simp [upToR]; omega
theorem upToR_zero (l : List Int) : upToR l 0 = List.replicate l.length 0 := by simp [upToR]
theorem upToR_all (l : List Int) : upToR l l.length = l := by simp [upToR]
theorem upToR_set (l : List Int) (i : Nat) (h : i < l.length) : (upToR l i).set i (l[i]?.getD 0) = upToR l (i + 1) := by
  have hl : (l.take i).length = i := by rw [List.length_take]; omega
  have := set_next (l.take i) (l.length - (i + 1)) (l[i]?.getD 0)
  rw [hl] at this
  unfold upToR
  rw [show l.length - i = l.length - (i + 1) + 1 by omega, this, take_next l i h]

theorem Bytes.other {w w' : World} {g n c : Nat} {z : List Int} (h : Bytes w (some ⟨g, 0, none⟩) n c z) (hh : w'.heap[g]? = w.heap[g]?) : Bytes w' (some ⟨g, 0, none⟩) n c z := by
  refine ⟨h.len_eq, h.le, h.top, h.nil, ?_⟩
  rcases h.at_ with h0 | ⟨b, off, hx, hc⟩
  · exact .inl h0
  · cases hx
    exact .inr ⟨g, 0, rfl, fun j hj => (World.cell?_of_block (a := ⟨g, 0 + j, none⟩) hh).trans (hc j hj)⟩

set_option maxHeartbeats 4000000 in
theorem refSum_any (x : Option Addr) (len cap : Nat) (z : List Int) (w : World) (hz : Bytes w x len cap z) (hln : len ≤ 1000000) :
    Calls Tryd.prog 33 #[.slice x len cap] w fun e w' => e = .returned (.agg (row .u8 (sumL z))) ∧ Below w.heap.size w w' := by
  have hzl := hz.len_eq
  obtain ⟨N, hN⟩ : ∃ N, padSize z.length = 64 * N := ⟨(z.length + 8) / 64 + 1, by unfold padSize; omega⟩
  have hN1 : 1 ≤ N := by have := padSize_ge z.length; omega
  have hN2 : 64 * N ≤ 2000000 := by rw [← hN]; unfold padSize; omega
  have HS : VeilR (sumS z = foldB (padL z) (List.range N) startL) := ⟨by unfold sumS; rw [hN, Nat.mul_div_cancel_left _ (by omega)]⟩
  have hpl : (padL z).length = 64 * N := by rw [padL_length, hN]
  have HD : VeilR (∀ i, i < 32 → (sumL z)[i]?.getD 0 = (sumS z)[i / 4]?.getD 0 / 2 ^ (24 - 8 * (i % 4)) % 256) := ⟨fun i hi => joinK_getR (sumS z) 8 i (by omega)⟩
  have hdl := sumL_length z
  have pB := fun wx (hx : Below w.heap.size w wx) => refPad_any x len cap z wx (hz.below hx) hln
  obtain ⟨PL, hPL⟩ : ∃ p, padL z = p := ⟨_, rfl⟩
  obtain ⟨SS, hSS⟩ : ∃ p, sumS z = p := ⟨_, rfl⟩
  obtain ⟨DD, hDD⟩ : ∃ p, sumL z = p := ⟨_, rfl⟩
  have hSl : SS.length = 8 := by rw [← hSS]; exact sumS_length z
  rw [hPL] at HS hpl pB
  rw [hSS] at HS HD
  rw [hDD] at HD hdl
  have HDD : VeilR (sumL z = DD) := ⟨hDD⟩
  clear hPL hSS hDD hN hzl
  go_enter Tryd.func33, Tryd.ntmps33
  go_upto_region 1 with fail
  refine forget (p := fun y => Code.wp _ _ _ _ y) (fun W0 => Below w.heap.size w W0 ∧ W0.heap.size = w.heap.size + 1 ∧ Holds W0 w.heap.size .u8 34 (List.replicate 32 0)) ⟨(Below.refl _ _).alloc (Nat.le_refl _) _, by simp, Holds.new w .u8 34 (List.replicate 32 0)⟩ ?_
  rintro W0 ⟨hB0, hs0, hR0⟩
  go_upto_region 3 with (first
    | (go_at_call 44; refine (pB _ hB0).mono ?_; rintro e w1 ⟨v1, rfl, ho1, hb1⟩)
    | (go_at_call 45; refine (refStart_any _).mono ?_; rintro e w2 ⟨rfl, hb2⟩))
  obtain ⟨g, cp, rfl, hg⟩ := ho1.slice (by omega)
  have hy1 := ho1.bytes.2
  rw [hpl] at hy1 ⊢
  have hs1 := hb1.size
  have hs2 := hb2.size
  have hgl1 : g < w1.heap.size := by
    rcases hy1.at_ with h0 | ⟨b, off, hx, hc⟩
    · omega
    · cases hx
      exact block_lt_of_cell (hc 0 (by omega))
  refine forget (p := fun y => Code.wp _ _ _ _ y) (fun W3 => Below w.heap.size w W3 ∧ Holds W3 w.heap.size .u8 34 (List.replicate 32 0) ∧ Bytes W3 (some ⟨g, 0, none⟩) (64 * N) cp PL ∧ Holds W3 w2.heap.size .u32 86 startL) ⟨((hB0.trans (hb1.mono hB0.size)).trans (hb2.mono (by omega))).alloc (by omega) _, ((hR0.below hb1 (by omega)).below hb2 (by omega)).alloc _, (hy1.below hb2).below ((Below.refl _ _).alloc (Nat.le_refl _) _), Holds.new w2 .u32 86 startL⟩ ?_
  clear ho1 hb1 hb2 hy1 hB0 hR0 pB
  rintro W3 ⟨hB3, hR3, hY3, hS3⟩
  obtain ⟨Q, hQ⟩ : ∃ q, w2.heap.size = q := ⟨_, rfl⟩
  rw [hQ] at hS3 ⊢
  have hQw : w.heap.size + 1 ≤ Q := by omega
  have hgw : w.heap.size + 1 ≤ g := by omega
  have hgQ : g ≠ Q := by omega
  clear hQ hs1 hs2 hs0 hg hgl1
  go_wp2_with fail
  go_loopw [5] (fun i wr => ∃ k : Nat, k ≤ N ∧ i = .int .i64 ((64 * k : Nat) : Int) ∧ Below w.heap.size w wr ∧ Holds wr w.heap.size .u8 34 (List.replicate 32 0) ∧ Bytes wr (some ⟨g, 0, none⟩) (64 * N) cp PL ∧ Holds wr Q .u32 86 (foldB PL (List.range k) startL)) (fun i _ => 64 * N - (intOf i).toNat)
  case atStart => exact ⟨0, by omega, rfl, hB3, hR3, hY3, hS3⟩
  case round =>
    clear hB3 hR3 hY3 hS3
    obtain ⟨k, hkN, rfl, hB, hR, hY, hS⟩ := hrel
    by_cases hlt : k < N
    · have hlS := foldB_length PL (List.range k) startL rfl
      have hiS := foldB_in PL (List.range k) startL startL_in
      have hnew : foldB PL (List.range (k + 1)) startL = stepL (foldB PL (List.range k) startL) (blk PL k) := by rw [List.range_succ]; exact foldB_snoc _ _ _ _
      obtain ⟨s0, s1, s2, s3, s4, s5, s6, s7, hs8⟩ := eight hlS
      rw [hs8] at hS hiS hnew
      obtain ⟨r0, r1, r2, r3, r4, r5, r6, r7, hr8⟩ := eight (stepL_length [s0, s1, s2, s3, s4, s5, s6, s7] (blk PL k))
      have hcell : ∀ j, j < 64 * N → wr.cell? ⟨g, j, none⟩ = some (.int .u8 (PL[j]?.getD 0)) := fun j hj => by
        rcases hY.at_ with h0 | ⟨b, off, hx, hc⟩
        · omega
        · cases hx
          have := hc j hj
          rw [Nat.zero_add] at this
          exact this
      have hgl : g < wr.heap.size := block_lt_of_cell (hcell 0 (by omega))
      have hle := hY.le
      have htop := hY.top
      have hst : ∀ wx L c, L = 64 → Below wr.heap.size wr wx → 64 ≤ c → c ≤ 9223372036854775807 → Calls Tryd.prog 46 #[.agg #[.int .u32 s0, .int .u32 s1, .int .u32 s2, .int .u32 s3, .int .u32 s4, .int .u32 s5, .int .u32 s6, .int .u32 s7], .slice (some ⟨g, 64 * k, none⟩) L c] wx
          fun e w' => e = .returned (.agg #[.int .u32 r0, .int .u32 r1, .int .u32 r2, .int .u32 r3, .int .u32 r4, .int .u32 r5, .int .u32 r6, .int .u32 r7]) ∧ Below wx.heap.size wx w' := fun wx L c hL hx hc1 hc2 => by
        subst hL
        have := refStep_any [s0, s1, s2, s3, s4, s5, s6, s7] (blk PL k) g (64 * k) c wx rfl hiS hc1 hc2 (fun j hj => by
          rw [blk_get _ _ _ hj]
          exact (hx.cell (p := ⟨g, 64 * k + j, none⟩) hgl).trans (hcell _ (by omega)))
        rw [hr8] at this
        exact this
      rw [hr8] at hnew
      have HNEW : VeilR (foldB PL (List.range (k + 1)) startL = [r0, r1, r2, r3, r4, r5, r6, r7]) := ⟨hnew⟩
      obtain ⟨⟨c0, c1, c2, c3, c4, c5, c6, c7⟩, cf⟩ := facts8' hS
      clear hs8 hr8 hnew hiS hlS hcell
      obtain ⟨I, hI⟩ : ∃ I, 64 * k = I := ⟨_, rfl⟩
      have HI : VeilR (64 * k = I) := ⟨hI⟩
      obtain ⟨M, hM⟩ : ∃ M, 64 * N = M := ⟨_, rfl⟩
      have HM : VeilR (64 * N = M) := ⟨hM⟩
      have i1 : (0 : Int) ≤ (I : Int) := by omega
      have i2 : (I : Int) ≤ (I : Int) + 64 := by omega
      have i3 : (I : Int) + 64 ≤ (M : Int) := by omega
      have i4 : (M : Int) ≤ 2000000 := by omega
      rw [hI] at hst ⊢
      rw [hM] at hN2 hle hY ⊢
      have i8 : (I : Int) + 64 ≤ (cp : Int) := by omega
      have i9 : (M : Int) ≤ (cp : Int) := by omega
      have hIM : I + 64 ≤ M := by omega
      clear hI hM hpl
      have i5 : IntKind.i64.wrap ((I : Int) + 64) = (I : Int) + 64 := by rw [IntKind.wrap_i64]; omega
      have i6 : ((I : Int) + 64).toNat = I + 64 := by omega
      have i7 : ¬ cp = I := by omega
      go_upto_region 6 with fail
      go_region_with (go_at_call 46; refine (hst _ _ _ ?_ (Below.refl _ _).drew ?_ ?_).mono ?_; (omega); (omega); (omega); rintro e w4 ⟨rfl, hb4⟩; obtain ⟨⟨d0, d1, d2, d3, d4, d5, d6, d7⟩, df⟩ := facts8' (hS.drew.below hb4 hS.drew.lt))
      go_wp2
      go_roundw
      case rel =>
        have hI := HI.out
        have hM := HM.out
        have hBx : Below w.heap.size w w4 := hB.trans ((((Below.refl _ _).drew).trans hb4).mono hB.size)
        have hY4 := hY.below (((Below.refl _ _).drew).trans hb4)
        refine ⟨k + 1, by omega, by congr 1; omega, below8 hBx (by omega) _ _ _ _ _ _ _ _, holdsOther8 ((hR.drew).below hb4 hR.drew.lt) _ _ _ _ _ _ _ _ (by omega), ?_, ?_⟩
        · exact hY4.other (heap8 _ _ _ _ _ _ _ _ hgQ)
        rw [HNEW.out]
        exact holds8' (hS.drew.below hb4 hS.drew.lt) _ _ _ _ _ _ _ _
      case measure => have hI := HI.out; have hM := HM.out; simp [intOf]; omega
    · obtain rfl : k = N := by omega
      rw [← HS.out] at hS
      clear hY HS
      have nle : ¬ (((64 * k : Nat) : Int) < ((64 * k : Nat) : Int)) := by omega
      have nle2 : decide (((64 * k : Nat) : Int) < ((64 * k : Nat) : Int)) = false := by simp
      go_upto_region 8 with fail
      have hO0 := Holds.new wr .u8 34 (List.replicate 32 0)
      have hsw := hB.size
      refine forget (p := fun y => Code.wp _ _ _ _ y) (fun W5 => Below w.heap.size w W5 ∧ Holds W5 w.heap.size .u8 34 (List.replicate 32 0) ∧ Holds W5 Q .u32 86 SS ∧ Holds W5 wr.heap.size .u8 34 (upToR DD 0)) ⟨hB.alloc hB.size _, hR.alloc _, hS.alloc _, by rw [upToR_zero, hdl]; exact hO0⟩ ?_
      obtain ⟨O, hOe⟩ : ∃ O, wr.heap.size = O := ⟨_, rfl⟩
      have hOQ : Q < O := by rw [← hOe]; exact hS.lt
      clear hO0 hB hR hS
      rintro W5 ⟨hB5, hR5, hS5, hO5⟩
      rw [hOe] at hO5 ⊢
      clear hOe hsw
      go_wp2_with fail
      go_loopw [7] (fun v wr => ∃ p : Nat, p ≤ 32 ∧ v = .int .i64 p ∧ Below w.heap.size w wr ∧ Holds wr w.heap.size .u8 34 (List.replicate 32 0) ∧ Holds wr Q .u32 86 SS ∧ Holds wr O .u8 34 (upToR DD p))
        (fun v _ => 32 - (intOf v).toNat)
      case atStart => exact ⟨0, by omega, rfl, hB5, hR5, hS5, hO5⟩
      case round =>
        clear hB5 hR5 hS5 hO5
        obtain ⟨p, hp, rfl, hB, hR, hS, hO⟩ := hrel
        by_cases hlt4 : p < 32
        · have cS := hS.cell (p / 4) (by omega)
          have cO := hO.cell p (by rw [upToR_length _ _ (by omega)]; omega)
          have fO := hO.frozen p
          have HU : VeilR ((upToR DD p).set p (SS[p / 4]?.getD 0 / 2 ^ (24 - 8 * (p % 4)) % 256) = upToR DD (p + 1)) := ⟨by
            rw [← HD.out p hlt4]; exact upToR_set DD p (by omega)⟩
          obtain ⟨U, hU⟩ : ∃ v, SS[p / 4]?.getD 0 = v := ⟨_, rfl⟩
          rw [hU] at HU cS
          clear hU
          go_wp2
          go_roundw
          case rel =>
            refine ⟨p + 1, by omega, by go_num, hB.setCell (by simp; omega) _, hR.setOther _ _ (by simp; omega), hS.setOther _ _ (by simp; omega), ?_⟩
            rw [← HU.out]
            exact hO.set p _
          case measure => simp [intOf]; omega
        · obtain rfl : p = 32 := by omega
          have hO' : Holds wr O .u8 34 DD := by
            have := upToR_all DD
            rw [hdl] at this
            rw [← this]; exact hO
          clear hO
          go_wp2_with (first
            | (refine wpList_ld rfl 34 _ rfl _ rfl hO' Tryd.underlying34 sizeKey hdl ?_)
            | (refine wpList_st rfl 34 _ _ rfl _ rfl rfl hR (by rw [hdl]; exact sizeKey) (by simp [hdl]) ?_))
          refine bodyPost_ret (results_holds (Tryd.results33) _ rfl (hR.setRow _) Tryd.underlying34 sizeKey hdl) rfl ⟨by rw [HDD.out], ?_⟩
          exact below_setRow hB (Nat.le_refl _) _
end Go.Proofs.YtgcidamdbidgiaaDoor.S
