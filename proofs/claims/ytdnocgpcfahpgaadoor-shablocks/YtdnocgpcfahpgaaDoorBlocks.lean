/- The digest is one step for each block of what is digested (the statement ShaBlocks), walked. -/
import Derived.Test.YtdnocgpcfahpgaaDoorTells
namespace Go.Proofs.YtdnocgpcfahpgaaDoor
open Go.RowKit
set_option maxRecDepth 20000

theorem joinK_get (s : List Int) (k i : Nat) (h : i < 4 * k) : (joinK s k)[i]?.getD 0 = s[i / 4]?.getD 0 / 2 ^ (24 - 8 * (i % 4)) % 256 := by
  induction k with
  | zero => omega
  | succ k ih =>
    simp only [joinK]
    by_cases hlt : i < 4 * k
    · rw [List.getElem?_append_left (by rw [joinK_length]; exact hlt)]; exact ih hlt
    · rw [List.getElem?_append_right (by rw [joinK_length]; omega), joinK_length]
      have hq : i / 4 = k := by omega
      have : i - 4 * k = 0 ∨ i - 4 * k = 1 ∨ i - 4 * k = 2 ∨ i - 4 * k = 3 := by omega
      rw [hq]
      rcases this with h0 | h0 | h0 | h0
      · have hr : i % 4 = 0 := by omega
        rw [h0, hr]; rfl
      · have hr : i % 4 = 1 := by omega
        rw [h0, hr]; rfl
      · have hr : i % 4 = 2 := by omega
        rw [h0, hr]; rfl
      · have hr : i % 4 = 3 := by omega
        rw [h0, hr]; simp [bytes4]
theorem joinL_get (s : List Int) (i : Nat) (h : i < 32) : (joinL s)[i]?.getD 0 = s[i / 4]?.getD 0 / 2 ^ (24 - 8 * (i % 4)) % 256 := joinK_get s 8 i h

set_option maxHeartbeats 600000 in
theorem blocks_walk (x : Option Addr) (len cap : Nat) (z : List Int) (w : World) (hk : KTab w) (hz : Bytes w x len cap z) :
    Calls Tryd.prog 7 #[.slice x len cap] w fun e w' => e = .returned (.bool true) ∧ Below w.heap.size w w' := by
  have hf := few_any x len cap 300 z w hz (by omega) (by omega)
  have hz6 := hz.few 300
  have hzl : (z.take 300).length ≤ 300 := by rw [List.length_take]; omega
  obtain ⟨n, hn⟩ : ∃ l, min len 300 = l := ⟨_, rfl⟩
  obtain ⟨z6, hz6e⟩ : ∃ l, z.take 300 = l := ⟨_, rfl⟩
  rw [hn] at hf hz6
  rw [hz6e] at hz6 hzl
  have hn6 : n ≤ 300 := by omega
  clear hn hz6e hz
  have hnz := hz6.len_eq
  obtain ⟨N, hN⟩ : ∃ N, padSize z6.length = 64 * N := ⟨(z6.length + 8) / 64 + 1, by unfold padSize; omega⟩
  have hN1 : 1 ≤ N := by have := padSize_ge z6.length; omega
  have hN2 : 64 * N ≤ 2000000 := by rw [← hN]; unfold padSize; omega
  have HS : Hid (sumS z6 = foldB (padL z6) (List.range N) startL) := by
    show sumS z6 = _
    unfold sumS; rw [hN, Nat.mul_div_cancel_left _ (by omega)]
  have pB : ∀ wx, Below w.heap.size w wx → Calls Tryd.prog 13 #[.slice x n cap] wx fun e w' => ∃ g, e = .returned (.slice (some ⟨g, 0, none⟩) (64 * N) (64 * N)) ∧ wx.heap.size ≤ g ∧ Holds w' g .u8 5 (padL z6) ∧ Below wx.heap.size wx w' := fun wx hx => by
    have := pad_any x n cap z6 wx (hz6.below hx) (by omega)
    rw [hN] at this
    exact this
  have HL : Hid ((padL z6).length = 64 * N) := by show (padL z6).length = 64 * N; rw [padL_length, hN]
  clear hN hnz
  go_enter Tryd.func7, Tryd.ntmps7
  go_upto_region 4 with (first
    | (go_at_call 9; refine hf.mono ?_; rintro e w' ⟨rfl, rfl⟩)
    | (go_at_call 15; refine (start8 _).mono ?_; rintro e w1 ⟨rfl, hb1⟩)
    | (go_at_call 13; refine (pB _ (hb1.alloc hb1.size _)).mono ?_; rintro e w2 ⟨g, rfl, hg, hH, hb2⟩))
  have hS2 : Holds w2 w1.heap.size .u32 32 startL := (Holds.new w1 .u32 32 startL).below hb2 (by simp)
  have hB2 : Below w.heap.size w w2 := (hb1.alloc hb1.size _).trans (hb2.mono (by have := hb1.size; simp; omega))
  have hg1 : w1.heap.size + 1 ≤ g := by simpa using hg
  have hw1 := hb1.size
  clear hf pB hb1 hb2 hg
  go_wp2_with fail
  go_loopw [5] (fun i wr => ∃ k : Nat, k ≤ N ∧ i = .int .i64 ((64 * k : Nat) : Int) ∧ Below w.heap.size w wr ∧ Holds wr g .u8 5 (padL z6) ∧ Holds wr w1.heap.size .u32 32 (foldB (padL z6) (List.range k) startL)) (fun i _ => 64 * N - (intOf i).toNat)
  case atStart => exact ⟨0, by omega, rfl, hB2, hH, hS2⟩
  case round =>
    clear hB2 hH hS2
    obtain ⟨k, hkN, rfl, hB, hH, hS⟩ := hrel
    by_cases hlt : k < N
    · have hlS := foldB_length (padL z6) (List.range k) startL rfl
      have hiS := foldB_in (padL z6) (List.range k) startL startL_in
      have hnew : foldB (padL z6) (List.range (k + 1)) startL = stepL (foldB (padL z6) (List.range k) startL) (blk (padL z6) k) := by rw [List.range_succ]; exact foldB_snoc _ _ _ _
      obtain ⟨s0, s1, s2, s3, s4, s5, s6, s7, hs8⟩ := eight hlS
      rw [hs8] at hS hiS hnew
      obtain ⟨r0, r1, r2, r3, r4, r5, r6, r7, hr8⟩ := eight (stepL_length [s0, s1, s2, s3, s4, s5, s6, s7] (blk (padL z6) k))
      have hst : ∀ wx L c, L = 64 → Below wr.heap.size wr wx → 64 ≤ c → c ≤ 9223372036854775807 → Calls Tryd.prog 17 #[.agg #[.int .u32 s0, .int .u32 s1, .int .u32 s2, .int .u32 s3, .int .u32 s4, .int .u32 s5, .int .u32 s6, .int .u32 s7], .slice (some ⟨g, 64 * k, none⟩) L c] wx
          fun e w' => e = .returned (.agg #[.int .u32 r0, .int .u32 r1, .int .u32 r2, .int .u32 r3, .int .u32 r4, .int .u32 r5, .int .u32 r6, .int .u32 r7]) ∧ Below wx.heap.size wx w' := fun wx L c hL hx hc1 hc2 => by
        subst hL
        have hGx := hH.below hx hH.lt
        have := step_any [s0, s1, s2, s3, s4, s5, s6, s7] (blk (padL z6) k) g (64 * k) c wx rfl hiS ((hk.below hB).below hx) hc1 hc2 (fun j hj => by
          rw [blk_get _ _ _ hj]
          exact hGx.cell _ (by rw [HL.out]; omega))
        rw [hr8] at this
        exact this
      rw [hr8] at hnew
      have HNEW : Hid (foldB (padL z6) (List.range (k + 1)) startL = [r0, r1, r2, r3, r4, r5, r6, r7]) := hnew
      obtain ⟨⟨c0, c1, c2, c3, c4, c5, c6, c7⟩, cf⟩ := facts8' hS
      clear hs8 hr8 hnew hiS hlS
      obtain ⟨I, hI⟩ : ∃ I, 64 * k = I := ⟨_, rfl⟩
      have HI : Hid (64 * k = I) := hI
      obtain ⟨M, hM⟩ : ∃ M, 64 * N = M := ⟨_, rfl⟩
      have HM : Hid (64 * N = M) := hM
      have i1 : (0 : Int) ≤ (I : Int) := by omega
      have i2 : (I : Int) ≤ (I : Int) + 64 := by omega
      have i3 : (I : Int) + 64 ≤ (M : Int) := by omega
      have i4 : (M : Int) ≤ 2000000 := by omega
      rw [hI] at hst ⊢
      rw [hM] at hN2 ⊢
      clear hI hM
      have i5 : IntKind.i64.wrap ((I : Int) + 64) = (I : Int) + 64 := by rw [IntKind.wrap_i64]; omega
      have i6 : ((I : Int) + 64).toNat = I + 64 := by omega
      have i7 : ¬ M = I := by omega
      go_upto_region 7 with fail
      go_region_with (go_at_call 17; refine (hst _ _ _ ?_ (Below.refl _ _).drew ?_ ?_).mono ?_; (omega); (omega); (omega); rintro e w4 ⟨rfl, hb4⟩; obtain ⟨⟨d0, d1, d2, d3, d4, d5, d6, d7⟩, df⟩ := facts8' (hS.drew.below hb4 hS.drew.lt))
      go_wp2
      go_roundw
      case rel =>
        have hI := HI.out
        refine ⟨k + 1, by omega, by congr 1; omega, below8 (hB.trans ((((Below.refl _ _).drew).trans hb4).mono hB.size)) hw1 _ _ _ _ _ _ _ _, holdsOther8 ((hH.drew).below hb4 hH.drew.lt) _ _ _ _ _ _ _ _ (by omega), ?_⟩
        rw [HNEW.out]
        exact holds8' (hS.drew.below hb4 hS.drew.lt) _ _ _ _ _ _ _ _
      case measure => have hI := HI.out; have hM := HM.out; simp [intOf]; omega
    · obtain rfl : k = N := by omega
      rw [← HS.out] at hS
      have hlS := sumS_length z6
      have hd : ∀ wx, Below wr.heap.size wr wx → Calls Tryd.prog 11 #[.slice x n cap] wx fun e w' => e = .returned (.agg (row .u8 (sumL z6))) ∧ Below wx.heap.size wx w' := fun wx hx =>
        sum_any x n cap z6 wx ((hz6.below hB).below hx) (by omega) ((hk.below hB).below hx)
      have hdl := sumL_length z6
      have hdg : ∀ i, i < 32 → (sumL z6)[i]?.getD 0 = (sumS z6)[i / 4]?.getD 0 / 2 ^ (24 - 8 * (i % 4)) % 256 := fun i hi => joinL_get (sumS z6) i hi
      obtain ⟨D, hD⟩ : ∃ D, sumL z6 = D := ⟨_, rfl⟩
      obtain ⟨S, hSS⟩ : ∃ S, sumS z6 = S := ⟨_, rfl⟩
      rw [hD] at hd hdl hdg
      rw [hSS] at hS hlS hdg
      clear hD hSS HS HL hz6 hzl
      have nle : ¬ (((64 * k : Nat) : Int) + 64 ≤ ((64 * k : Nat) : Int)) := by omega
      go_upto_region 9 with (first
        | (go_at_call 11; refine (hd _ (Below.refl _ _)).mono ?_; rintro e w5 ⟨rfl, hb5⟩; have hN5 := Holds.new w5 .u8 26 (List.replicate 32 0))
        | (refine wpList_st rfl 26 _ _ rfl _ rfl rfl hN5 (by rw [hdl]; exact sizeKey) (by simp [hdl]) ?_))
      refine forget (p := fun y => Code.wp _ _ _ _ y) (fun W0 => Below w.heap.size w W0 ∧ Holds W0 w5.heap.size .u8 26 D ∧ Holds W0 w1.heap.size .u32 32 S) ⟨below_setRow ((hB.trans (hb5.mono hB.size)).alloc (by have := hB.size; have := hb5.size; omega) _) (by have := hB.size; have := hb5.size; omega) _, hN5.setRow _, ?_⟩ ?_
      · exact ((hS.below hb5 hS.lt).alloc _).setRowOther _ (by have := hS.lt; have := hb5.size; omega)
      clear hN5 hS hB hH hd
      rintro W0 ⟨hB, hD, hS⟩
      go_wp2_with fail
      go_loopw [7] (fun i wr => ∃ k : Nat, k ≤ 32 ∧ i = .int .i64 k ∧ Below w.heap.size w wr ∧ Holds wr w5.heap.size .u8 26 D ∧ Holds wr w1.heap.size .u32 32 S) (fun i _ => 32 - (intOf i).toNat)
      case atStart => exact ⟨0, by omega, rfl, hB, hD, hS⟩
      case round =>
        clear hB hD hS
        obtain ⟨i, hi, rfl, hB, hD, hS⟩ := hrel
        by_cases hlt2 : i < 32
        · have c1 := hD.cell i (by omega)
          have c2 := hS.cell (i / 4) (by omega)
          have hg2 := hdg i hlt2
          obtain ⟨V, hV⟩ : ∃ V, D[i]?.getD 0 = V := ⟨_, rfl⟩
          obtain ⟨U, hU⟩ : ∃ U, S[i / 4]?.getD 0 = U := ⟨_, rfl⟩
          rw [hV] at c1 hg2
          rw [hU] at c2 hg2
          have htest : (V != U / 2 ^ (24 - 8 * (i % 4)) % 256) = false := by rw [hg2]; simp
          clear hV hU hg2
          go_upto_region 12 with fail
          go_quiet ((fail))
          go_wp2
          go_roundw
          case rel => exact ⟨i + 1, by omega, by go_num, below_drewN hB _, hD.drewN _, hS.drewN _⟩
          case measure => simp [intOf]; omega
        · obtain rfl : i = 32 := by omega
          have hge : decide ((64 : Int) ≤ 64 * (k : Int)) = true := by simp; omega
          go_wp2_with (go_at_call 10; refine (live_any _ (hk.below hB)).mono ?_; rintro e w6 ⟨rfl, hb6⟩)
          go_ret
          exact ⟨rfl, hB.trans (hb6.mono hB.size)⟩
end Go.Proofs.YtdnocgpcfahpgaaDoor
