/- RefSum RefMac -/
import Derived.Test.YtflkhkmejnpapaaGreatDoorK23
import Derived.Test.YtflkhkmejnpapaaGreatDoorK03
import Derived.Deep.RegionWith
import Derived.Test.YtflkhkmejnpapaaGreatDoorK18
namespace Go.Proofs.YtflkhkmejnpapaaGreatDoor.S
open Go.RowKit
set_option maxRecDepth 20000
set_option linter.unusedSimpArgs false
theorem refStart_any (w : World) :
    Calls Tryz.prog 94 #[] w fun e w' => e = .returned (.agg #[.int .u32 1779033703, .int .u32 3144134277, .int .u32 1013904242, .int .u32 2773480762, .int .u32 1359893119, .int .u32 2600822924, .int .u32 528734635, .int .u32 1541459225]) ∧ Below w.heap.size w w' := by
 go_enter Tryz.func94, Tryz.ntmps94
 go_wp2
 exact bodyPost_ret (v := .agg (row .u32 startL)) (by simp [results, Tryz.results94, go_sem, row, startL]) rfl ⟨rfl, (Below.refl _ _).alloc (Nat.le_refl _) _⟩
theorem joinK_getR (s : List Int) (k i : Nat) (h : i < 4 * k) : (joinK s k)[i]?.getD 0 = s[i / 4]?.getD 0 / 2 ^ (24 - 8 * (i % 4)) % 256 := by
 induction k with
 | zero => omega
 | succ k ih =>
  simp only [joinK]
  by_cases hlt : i < 4 * k
  · rw [List.getElem?_append_left (by rw [joinK_length]; exact hlt)]; exact ih hlt
  · rw [List.getElem?_append_right (by rw [joinK_length]; omega), joinK_length]
    have hq : i / 4 = k := by omega
    have : i - 4 * k = 0 ∨ i - 4 * k = 1 ∨ i - 4 * k = 2 ∨ i - 4 * k = 3 := by omega
    rw [hq]
    rcases this with h0 | h0 | h0 | h0
    · have hr : i % 4 = 0 := by omega
      rw [h0, hr]; rfl
    · have hr : i % 4 = 1 := by omega
      rw [h0, hr]; rfl
    · have hr : i % 4 = 2 := by omega
      rw [h0, hr]; rfl
    · have hr : i % 4 = 3 := by omega
      rw [h0, hr]; simp [bytes4]
def upToR (l : List Int) (i : Nat) : List Int := l.take i ++ List.replicate (l.length - i) 0
theorem upToR_length (l : List Int) (i : Nat) (h : i ≤ l.length) : (upToR l i).length = l.length := by simp [upToR]; omega
theorem upToR_zero (l : List Int) : upToR l 0 = List.replicate l.length 0 := by simp [upToR]
theorem upToR_all (l : List Int) : upToR l l.length = l := by simp [upToR]
theorem upToR_set (l : List Int) (i : Nat) (h : i < l.length) : (upToR l i).set i (l[i]?.getD 0) = upToR l (i + 1) := by
 have hl : (l.take i).length = i := by rw [List.length_take]; omega
 have := set_next (l.take i) (l.length - (i + 1)) (l[i]?.getD 0)
 rw [hl] at this
 unfold upToR
 rw [show l.length - i = l.length - (i + 1) + 1 by omega, this, take_next l i h]
theorem Bytes.other {w w' : World} {g n c : Nat} {z : List Int} (h : Bytes w (some ⟨g, 0, none⟩) n c z) (hh : w'.heap[g]? = w.heap[g]?) : Bytes w' (some ⟨g, 0, none⟩) n c z := by
 refine ⟨h.len_eq, h.le, h.top, h.nil, ?_⟩
 rcases h.at_ with h0 | ⟨b, off, hx, hc⟩
 · exact .inl h0
 · cases hx
   exact .inr ⟨g, 0, rfl, fun j hj => (World.cell?_of_block (a := ⟨g, 0 + j, none⟩) hh).trans (hc j hj)⟩
set_option maxHeartbeats 4000000 in
theorem refSum_any (x : Option Addr) (len cap : Nat) (z : List Int) (w : World) (hz : Bytes w x len cap z) (hln : len ≤ 1000000) :
    Calls Tryz.prog 72 #[.slice x len cap] w fun e w' => e = .returned (.agg (row .u8 (sumL z))) ∧ Below w.heap.size w w' := by
 have hzl := hz.len_eq
 obtain ⟨N, hN⟩ : ∃ N, padSize z.length = 64 * N := ⟨(z.length + 8) / 64 + 1, by unfold padSize; omega⟩
 have hN1 : 1 ≤ N := by have := padSize_ge z.length; omega
 have hN2 : 64 * N ≤ 2000000 := by rw [← hN]; unfold padSize; omega
 have HS : VeilR (sumS z = foldB (padL z) (List.range N) startL) := ⟨by unfold sumS; rw [hN, Nat.mul_div_cancel_left _ (by omega)]⟩
 have hpl : (padL z).length = 64 * N := by rw [padL_length, hN]
 have HD : VeilR (∀ i, i < 32 → (sumL z)[i]?.getD 0 = (sumS z)[i / 4]?.getD 0 / 2 ^ (24 - 8 * (i % 4)) % 256) := ⟨fun i hi => joinK_getR (sumS z) 8 i (by omega)⟩
 have hdl := sumL_length z
 have pB := fun wx (hx : Below w.heap.size w wx) => refPad_any x len cap z wx (hz.below hx) hln
 obtain ⟨PL, hPL⟩ : ∃ p, padL z = p := ⟨_, rfl⟩
 obtain ⟨SS, hSS⟩ : ∃ p, sumS z = p := ⟨_, rfl⟩
 obtain ⟨DD, hDD⟩ : ∃ p, sumL z = p := ⟨_, rfl⟩
 have hSl : SS.length = 8 := by rw [← hSS]; exact sumS_length z
 rw [hPL] at HS hpl pB
 rw [hSS] at HS HD
 rw [hDD] at HD hdl
 have HDD : VeilR (sumL z = DD) := ⟨hDD⟩
 clear hPL hSS hDD hN hzl
 go_enter Tryz.func72, Tryz.ntmps72
 go_upto_region 1 with fail
 refine forget (p := fun y => Code.wp _ _ _ _ y) (fun W0 => Below w.heap.size w W0 ∧ W0.heap.size = w.heap.size + 1 ∧ Holds W0 w.heap.size .u8 23 (List.replicate 32 0)) ⟨(Below.refl _ _).alloc (Nat.le_refl _) _, by simp, Holds.new w .u8 23 (List.replicate 32 0)⟩ ?_
 rintro W0 ⟨hB0, hs0, hR0⟩
 go_upto_region 3 with (first
  | (go_at_call 93; refine (pB _ hB0).mono ?_; rintro e w1 ⟨v1, rfl, ho1, hb1⟩)
  | (go_at_call 94; refine (refStart_any _).mono ?_; rintro e w2 ⟨rfl, hb2⟩))
 obtain ⟨g, cp, rfl, hg⟩ := ho1.slice (by omega)
 have hy1 := ho1.bytes.2
 rw [hpl] at hy1 ⊢
 have hs1 := hb1.size
 have hs2 := hb2.size
 have hgl1 : g < w1.heap.size := by
  rcases hy1.at_ with h0 | ⟨b, off, hx, hc⟩
  · omega
  · cases hx
    exact block_lt_of_cell (hc 0 (by omega))
 refine forget (p := fun y => Code.wp _ _ _ _ y) (fun W3 => Below w.heap.size w W3 ∧ Holds W3 w.heap.size .u8 23 (List.replicate 32 0) ∧ Bytes W3 (some ⟨g, 0, none⟩) (64 * N) cp PL ∧ Holds W3 w2.heap.size .u32 146 startL) ⟨((hB0.trans (hb1.mono hB0.size)).trans (hb2.mono (by omega))).alloc (by omega) _, ((hR0.below hb1 (by omega)).below hb2 (by omega)).alloc _, (hy1.below hb2).below ((Below.refl _ _).alloc (Nat.le_refl _) _), Holds.new w2 .u32 146 startL⟩ ?_
 clear ho1 hb1 hb2 hy1 hB0 hR0 pB
 rintro W3 ⟨hB3, hR3, hY3, hS3⟩
 obtain ⟨Q, hQ⟩ : ∃ q, w2.heap.size = q := ⟨_, rfl⟩
 rw [hQ] at hS3 ⊢
 have hQw : w.heap.size + 1 ≤ Q := by omega
 have hgw : w.heap.size + 1 ≤ g := by omega
 have hgQ : g ≠ Q := by omega
 clear hQ hs1 hs2 hs0 hg hgl1
 go_wp2_with fail
 go_loopw [5] (fun i wr => ∃ k : Nat, k ≤ N ∧ i = .int .i64 ((64 * k : Nat) : Int) ∧ Below w.heap.size w wr ∧ Holds wr w.heap.size .u8 23 (List.replicate 32 0) ∧ Bytes wr (some ⟨g, 0, none⟩) (64 * N) cp PL ∧ Holds wr Q .u32 146 (foldB PL (List.range k) startL)) (fun i _ => 64 * N - (intOf i).toNat)
 case atStart => exact ⟨0, by omega, rfl, hB3, hR3, hY3, hS3⟩
 case round =>
  clear hB3 hR3 hY3 hS3
  obtain ⟨k, hkN, rfl, hB, hR, hY, hS⟩ := hrel
  by_cases hlt : k < N
  · have hlS := foldB_length PL (List.range k) startL rfl
    have hiS := foldB_in PL (List.range k) startL startL_in
    have hnew : foldB PL (List.range (k + 1)) startL = stepL (foldB PL (List.range k) startL) (blk PL k) := by rw [List.range_succ]; exact foldB_snoc _ _ _ _
    obtain ⟨s0, s1, s2, s3, s4, s5, s6, s7, hs8⟩ := eight hlS
    rw [hs8] at hS hiS hnew
    obtain ⟨r0, r1, r2, r3, r4, r5, r6, r7, hr8⟩ := eight (stepL_length [s0, s1, s2, s3, s4, s5, s6, s7] (blk PL k))
    have hcell : ∀ j, j < 64 * N → wr.cell? ⟨g, j, none⟩ = some (.int .u8 (PL[j]?.getD 0)) := fun j hj => by
     rcases hY.at_ with h0 | ⟨b, off, hx, hc⟩
     · omega
     · cases hx
       have := hc j hj
       rw [Nat.zero_add] at this
       exact this
    have hgl : g < wr.heap.size := block_lt_of_cell (hcell 0 (by omega))
    have hle := hY.le
    have htop := hY.top
    have hst : ∀ wx L c, L = 64 → Below wr.heap.size wr wx → 64 ≤ c → c ≤ 9223372036854775807 → Calls Tryz.prog 95 #[.agg #[.int .u32 s0, .int .u32 s1, .int .u32 s2, .int .u32 s3, .int .u32 s4, .int .u32 s5, .int .u32 s6, .int .u32 s7], .slice (some ⟨g, 64 * k, none⟩) L c] wx
        fun e w' => e = .returned (.agg #[.int .u32 r0, .int .u32 r1, .int .u32 r2, .int .u32 r3, .int .u32 r4, .int .u32 r5, .int .u32 r6, .int .u32 r7]) ∧ Below wx.heap.size wx w' := fun wx L c hL hx hc1 hc2 => by
     subst hL
     have := refStep_any [s0, s1, s2, s3, s4, s5, s6, s7] (blk PL k) g (64 * k) c wx rfl hiS hc1 hc2 (fun j hj => by
      rw [blk_get _ _ _ hj]
      exact (hx.cell (p := ⟨g, 64 * k + j, none⟩) hgl).trans (hcell _ (by omega)))
     rw [hr8] at this
     exact this
    rw [hr8] at hnew
    have HNEW : VeilR (foldB PL (List.range (k + 1)) startL = [r0, r1, r2, r3, r4, r5, r6, r7]) := ⟨hnew⟩
    obtain ⟨⟨c0, c1, c2, c3, c4, c5, c6, c7⟩, cf⟩ := facts8' hS
    clear hs8 hr8 hnew hiS hlS hcell
    obtain ⟨I, hI⟩ : ∃ I, 64 * k = I := ⟨_, rfl⟩
    have HI : VeilR (64 * k = I) := ⟨hI⟩
    obtain ⟨M, hM⟩ : ∃ M, 64 * N = M := ⟨_, rfl⟩
    have HM : VeilR (64 * N = M) := ⟨hM⟩
    have i1 : (0 : Int) ≤ (I : Int) := by omega
    have i2 : (I : Int) ≤ (I : Int) + 64 := by omega
    have i3 : (I : Int) + 64 ≤ (M : Int) := by omega
    have i4 : (M : Int) ≤ 2000000 := by omega
    rw [hI] at hst ⊢
    rw [hM] at hN2 hle hY ⊢
    have i8 : (I : Int) + 64 ≤ (cp : Int) := by omega
    have i9 : (M : Int) ≤ (cp : Int) := by omega
    have hIM : I + 64 ≤ M := by omega
    clear hI hM hpl
    have i5 : IntKind.i64.wrap ((I : Int) + 64) = (I : Int) + 64 := by rw [IntKind.wrap_i64]; omega
    have i6 : ((I : Int) + 64).toNat = I + 64 := by omega
    have i7 : ¬ cp = I := by omega
    go_upto_region 6 with fail
    go_region_with (go_at_call 95; refine (hst _ _ _ ?_ (Below.refl _ _).drew ?_ ?_).mono ?_; (omega); (omega); (omega); rintro e w4 ⟨rfl, hb4⟩; obtain ⟨⟨d0, d1, d2, d3, d4, d5, d6, d7⟩, df⟩ := facts8' (hS.drew.below hb4 hS.drew.lt))
    go_wp2
    go_roundw
    case rel =>
     have hI := HI.out
     have hM := HM.out
     have hBx : Below w.heap.size w w4 := hB.trans ((((Below.refl _ _).drew).trans hb4).mono hB.size)
     have hY4 := hY.below (((Below.refl _ _).drew).trans hb4)
     refine ⟨k + 1, by omega, by congr 1; omega, below8 hBx (by omega) _ _ _ _ _ _ _ _, holdsOther8 ((hR.drew).below hb4 hR.drew.lt) _ _ _ _ _ _ _ _ (by omega), ?_, ?_⟩
     · exact hY4.other (heap8 _ _ _ _ _ _ _ _ hgQ)
     rw [HNEW.out]
     exact holds8' (hS.drew.below hb4 hS.drew.lt) _ _ _ _ _ _ _ _
    case measure => have hI := HI.out; have hM := HM.out; simp [intOf]; omega
  · obtain rfl : k = N := by omega
    rw [← HS.out] at hS
    clear hY HS
    have nle : ¬ (((64 * k : Nat) : Int) < ((64 * k : Nat) : Int)) := by omega
    have nle2 : decide (((64 * k : Nat) : Int) < ((64 * k : Nat) : Int)) = false := by simp
    go_upto_region 8 with fail
    have hO0 := Holds.new wr .u8 23 (List.replicate 32 0)
    have hsw := hB.size
    refine forget (p := fun y => Code.wp _ _ _ _ y) (fun W5 => Below w.heap.size w W5 ∧ Holds W5 w.heap.size .u8 23 (List.replicate 32 0) ∧ Holds W5 Q .u32 146 SS ∧ Holds W5 wr.heap.size .u8 23 (upToR DD 0)) ⟨hB.alloc hB.size _, hR.alloc _, hS.alloc _, by rw [upToR_zero, hdl]; exact hO0⟩ ?_
    obtain ⟨O, hOe⟩ : ∃ O, wr.heap.size = O := ⟨_, rfl⟩
    have hOQ : Q < O := by rw [← hOe]; exact hS.lt
    clear hO0 hB hR hS
    rintro W5 ⟨hB5, hR5, hS5, hO5⟩
    rw [hOe] at hO5 ⊢
    clear hOe hsw
    go_wp2_with fail
    go_loopw [7] (fun v wr => ∃ p : Nat, p ≤ 32 ∧ v = .int .i64 p ∧ Below w.heap.size w wr ∧ Holds wr w.heap.size .u8 23 (List.replicate 32 0) ∧ Holds wr Q .u32 146 SS ∧ Holds wr O .u8 23 (upToR DD p))
     (fun v _ => 32 - (intOf v).toNat)
    case atStart => exact ⟨0, by omega, rfl, hB5, hR5, hS5, hO5⟩
    case round =>
     clear hB5 hR5 hS5 hO5
     obtain ⟨p, hp, rfl, hB, hR, hS, hO⟩ := hrel
     by_cases hlt4 : p < 32
     · have cS := hS.cell (p / 4) (by omega)
       have cO := hO.cell p (by rw [upToR_length _ _ (by omega)]; omega)
       have fO := hO.frozen p
       have HU : VeilR ((upToR DD p).set p (SS[p / 4]?.getD 0 / 2 ^ (24 - 8 * (p % 4)) % 256) = upToR DD (p + 1)) := ⟨by
        rw [← HD.out p hlt4]; exact upToR_set DD p (by omega)⟩
       obtain ⟨U, hU⟩ : ∃ v, SS[p / 4]?.getD 0 = v := ⟨_, rfl⟩
       rw [hU] at HU cS
       clear hU
       go_wp2
       go_roundw
       case rel =>
        refine ⟨p + 1, by omega, by go_num, hB.setCell (by simp; omega) _, hR.setOther _ _ (by simp; omega), hS.setOther _ _ (by simp; omega), ?_⟩
        rw [← HU.out]
        exact hO.set p _
       case measure => simp [intOf]; omega
     · obtain rfl : p = 32 := by omega
       have hO' : Holds wr O .u8 23 DD := by
        have := upToR_all DD
        rw [hdl] at this
        rw [← this]; exact hO
       clear hO
       go_wp2_with (first
        | (refine wpList_ld rfl 23 _ rfl _ rfl hO' Tryz.underlying23 sizeKey hdl ?_)
        | (refine wpList_st rfl 23 _ _ rfl _ rfl rfl hR (by rw [hdl]; exact sizeKey) (by simp [hdl]) ?_))
       refine bodyPost_ret (results_holds (Tryz.results72) _ rfl (hR.setRow _) Tryz.underlying23 sizeKey hdl) rfl ⟨by rw [HDD.out], ?_⟩
       exact below_setRow hB (Nat.le_refl _) _
theorem fill_longR (z : List Int) (h : 64 < z.length) : fillL (sumL z) = fillL z := by
 unfold fillL
 rw [if_pos h, if_neg (by rw [sumL_length]; omega)]
theorem fill_get (z : List Int) (hz : z.length ≤ 64) (i : Nat) : (fillL z)[i]?.getD 0 = if i < z.length then z[i]?.getD 0 else 0 := by
 unfold fillL
 rw [if_neg (by omega)]
 by_cases h : i < z.length
 · rw [List.getElem?_append_left (by omega), if_pos h]
 · rw [List.getElem?_append_right (by omega), if_neg h, List.getElem?_replicate]
   split <;> rfl
theorem turn_get (t : Int) (F : List Int) (i : Nat) (h : i < F.length) : (turnL t F)[i]?.getD 0 = bits .xor .u8 (F[i]?.getD 0) t := by
 unfold turnL; rw [List.getElem?_map, List.getElem?_eq_getElem h]; rfl
theorem take_nextR (l : List Int) (i : Nat) (h : i < l.length) : l.take (i + 1) = l.take i ++ [l[i]?.getD 0] := by
 rw [List.take_succ_eq_append_getElem h, List.getElem?_eq_getElem h]; rfl
theorem bytes_grown {w w' : World} {x : Option Addr} {n c : Nat} {z : List Int} {row : Option Nat} (h : Bytes w x n c z) (hg : w.grownBy w' row) (hne : ∀ b off, x = some ⟨b, off, none⟩ → row ≠ some b) : Bytes w' x n c z := by
 refine ⟨h.len_eq, h.le, h.top, h.nil, ?_⟩
 rcases h.at_ with h0 | ⟨b, off, hx, hc⟩
 · exact .inl h0
 · by_cases hl : n = 0
   · exact .inl hl
   · refine .inr ⟨b, off, hx, fun j hj => ?_⟩
     have hlt := block_lt_of_cell (hc j hj)
     have hb := hg.block b hlt (fun e => hne b off hx e.symm)
     rw [← hc j hj]
     simp only [World.cell?, hb]
theorem own_lt {w : World} {base : Nat} {v : Value} {z : List Int} (h : OwnB w base v z) {g : Nat} (hv : v.ownBlock = some g) : g < w.heap.size := by
 rcases h.2 with ⟨rfl, _⟩ | ⟨g', cap, cur, rfl, _, hg, _⟩
 · cases hv
 · simp [Value.ownBlock] at hv
   subst hv
   exact (Array.getElem?_eq_some_iff.1 hg).1
theorem own_ge {w : World} {base : Nat} {x : Option Addr} {n c : Nat} {z : List Int} (h : OwnB w base (.slice x n c) z) : ∀ b off, x = some ⟨b, off, none⟩ → base ≤ b := by
 intro b off hx
 rcases h.2 with ⟨h1, _⟩ | ⟨g', cap, cur, h1, hb, _⟩
 · cases h1; cases hx
 · cases h1; cases hx; exact hb
set_option maxHeartbeats 1000000 in
theorem turned_any (x : Option Addr) (len cap : Nat) (z : List Int) (t : Int) (y : Option Addr) (lb cb : Nat) (b : List Int) (w : World) (hx : Bytes w x len cap z) (hl : len ≤ 64) (hy : Bytes w y lb cb b) (hlb : lb ≤ 900000) :
    Calls Tryz.prog 73 #[.slice x len cap, .int .u8 t, .slice y lb cb] w fun e w' => ∃ x' n' c', e = .returned (.slice x' n' c') ∧ Bytes w' x' n' c' (turnL t (fillL z) ++ b) ∧ Below w.heap.size w w' := by
 have hzl := hx.len_eq
 have hFl := fillL_length z
 have hFg := fill_get z (by omega)
 rw [← hzl] at hFg
 obtain ⟨F, hF⟩ : ∃ q, fillL z = q := ⟨_, rfl⟩
 rw [hF] at hFl hFg ⊢
 have hTl : (turnL t F).length = 64 := by rw [turnL_length, hFl]
 have hTg := turn_get t F
 obtain ⟨T, hT⟩ : ∃ q, turnL t F = q := ⟨_, rfl⟩
 rw [hT] at hTl hTg ⊢
 have HG : VeilM (∀ i, i < 64 → T[i]?.getD 0 = bits .xor .u8 (if i < len then z[i]?.getD 0 else 0) t) := ⟨fun i hi => by rw [hTg i (by omega), hFg i]⟩
 clear hF hT hFl hFg hTg hzl
 go_enter Tryz.func73, Tryz.ntmps73
 go_wp2_with fail
 go_loopw [7, 8] (fun v i wr => ∃ j : Nat, j ≤ 64 ∧ i = .int .i64 j ∧ OwnB wr w.heap.size v (T.take j) ∧ Below w.heap.size w wr) (fun _ i _ => 64 - (intOf i).toNat)
 case atStart => exact ⟨0, by omega, rfl, OwnB.nil _ _, Below.refl _ _⟩
 case round =>
  obtain ⟨j, hj, rfl, ho, hB⟩ := hrel
  by_cases hlt : j < 64
  · have hG := HG.out j hlt
    have hn1 := take_nextR T j (by omega)
    have hlj : (T.take j).length ≤ 64 := by rw [List.length_take]; omega
    have hsz := hB.size
    by_cases hjl : j < len
    · rw [if_pos hjl] at hG
      obtain ⟨C, hC⟩ : ∃ q, z[j]?.getD 0 = q := ⟨_, rfl⟩
      obtain ⟨bb, off, hxx, hcell⟩ : ∃ bb off, x = some ⟨bb, off, none⟩ ∧ ∀ j, j < len → wr.cell? ⟨bb, off + j, none⟩ = some (.int .u8 (z[j]?.getD 0)) := by
       rcases (hx.below hB).at_ with h | h
       · omega
       · exact h
      subst hxx
      have cc := hcell j hjl
      rw [hC] at cc hG
      have HN : VeilM (T.take (j + 1) = T.take j ++ [bits .xor .u8 C t]) := ⟨by rw [hn1, hG]⟩
      have hji : (j : Int) < (len : Int) := by omega
      clear hcell hG hn1 hC
      obtain ⟨Z, hZ⟩ : ∃ q, T.take j = q := ⟨_, rfl⟩
      rw [hZ] at ho HN hlj
      clear hZ
      obtain ⟨V, hV⟩ : ∃ q, bits .xor .u8 C t = q := ⟨_, rfl⟩
      rw [hV] at HN
      go_wp2_with (at_builtin; refine wpList_app1 rfl _ _ rfl w.heap.size _ Z rfl V (ho.alloc _) rfl (by omega) hB.size ?_; intro v3 w3 ho3 hg3; have hB3 : Below w.heap.size w w3 := below_grown (hB.alloc hB.size _) (ho.alloc _) hg3 (by simp; omega))
      go_roundw
      case rel => exact ⟨j + 1, by omega, by go_num, by rw [HN.out]; exact ho3, hB3⟩
      case measure => simp [intOf]; omega
    · rw [if_neg hjl] at hG
      have HN : VeilM (T.take (j + 1) = T.take j ++ [bits .xor .u8 0 t]) := ⟨by rw [hn1, hG]⟩
      have hji : ¬ ((j : Int) < (len : Int)) := by omega
      clear hG hn1
      obtain ⟨Z, hZ⟩ : ∃ q, T.take j = q := ⟨_, rfl⟩
      rw [hZ] at ho HN hlj
      clear hZ
      obtain ⟨V, hV⟩ : ∃ q, bits .xor .u8 0 t = q := ⟨_, rfl⟩
      rw [hV] at HN
      go_wp2_with (at_builtin; refine wpList_app1 rfl _ _ rfl w.heap.size _ Z rfl V (ho.alloc _) rfl (by omega) hB.size ?_; intro v3 w3 ho3 hg3; have hB3 : Below w.heap.size w w3 := below_grown (hB.alloc hB.size _) (ho.alloc _) hg3 (by simp; omega))
      go_roundw
      case rel => exact ⟨j + 1, by omega, by go_num, by rw [HN.out]; exact ho3, hB3⟩
      case measure => simp [intOf]; omega
  · obtain rfl : j = 64 := by omega
    rw [show ((64 : Nat) : Int) = 64 from rfl]
    rw [List.take_of_length_le (by omega)] at ho
    have hyB := hy.below hB
    go_wp2_with (at_builtin; refine wpList_app rfl _ _ rfl w.heap.size _ T rfl ho y lb cb b rfl hyB (by omega) hB.size ?_; intro v5 w5 ho5 hg5; have hB5 : Below w.heap.size w w5 := below_grown hB ho hg5 hB.size; obtain ⟨x5, n5, c5, rfl, hn5⟩ := ho5.isSlice; have hY5 := ho5.bytes.2; clear hn5)
    go_ret
    exact ⟨x5, n5, c5, rfl, hY5, hB5⟩
set_option maxHeartbeats 2000000 in
theorem refHmac_any (x : Option Addr) (len cap : Nat) (z : List Int) (y : Option Addr) (lb cb : Nat) (b : List Int) (w : World) (hx : Bytes w x len cap z) (hln : len ≤ 1000000) (hy : Bytes w y lb cb b) (hlb : lb ≤ 900000) :
    Calls Tryz.prog 58 #[.slice x len cap, .slice y lb cb] w fun e w' => e = .returned (.agg (row .u8 (tagL z b))) ∧ Below w.heap.size w w' := by
 have hzl := hx.len_eq
 have hyl := hy.len_eq
 have hTl := tagL_length z b
 have HT : VeilM (tagL z b = sumL (turnL 92 (fillL z) ++ sumL (turnL 54 (fillL z) ++ b))) := ⟨rfl⟩
 have hFl := fillL_length z
 have hal : ∀ t a, a.length ≤ 900000 → (turnL t (fillL z) ++ a).length ≤ 1000000 := fun t a h => by rw [List.length_append, turnL_length, hFl]; omega
 have hDl := sumL_length (turnL 54 (fillL z) ++ b)
 -- the rest, from the key that fills a block on
 have hrest : ∀ (x' : Option Addr) (len' cap' : Nat) (z' : List Int), len' ≤ 64 → fillL z' = fillL z →
     (∀ t (yy : Option Addr) (l c : Nat) (a : List Int) (wx : World), Bytes wx x' len' cap' z' → Bytes wx yy l c a → l ≤ 900000 → Calls Tryz.prog 73 #[.slice x' len' cap', .int .u8 t, .slice yy l c] wx fun e w' => ∃ x' n' c', e = .returned (.slice x' n' c') ∧ Bytes w' x' n' c' (turnL t (fillL z) ++ a) ∧ Below wx.heap.size wx w') := fun x' len' cap' z' h1 h2 t yy l c a wx h3 h4 h5 => by
  rw [← h2]; exact turned_any x' len' cap' z' t yy l c a wx h3 h1 h4 h5
 have hS : ∀ (x' : Option Addr) (n' c' : Nat) (a : List Int) (wx : World), Bytes wx x' n' c' a → a.length ≤ 1000000 → Calls Tryz.prog 72 #[.slice x' n' c'] wx fun e w' => e = .returned (.agg (row .u8 (sumL a))) ∧ Below wx.heap.size wx w' := fun x' n' c' a wx h1 h2 => refSum_any x' n' c' a wx h1 (by rw [h1.len_eq]; exact h2)
 have hs1 : ∀ (x' : Option Addr) (n' c' : Nat) (wx : World), Bytes wx x' n' c' (turnL 54 (fillL z) ++ b) → Calls Tryz.prog 72 #[.slice x' n' c'] wx fun e w' => e = .returned (.agg (row .u8 (sumL (turnL 54 (fillL z) ++ b)))) ∧ Below wx.heap.size wx w' := fun x' n' c' wx h => hS x' n' c' _ wx h (hal 54 b (by omega))
 have hs2 : ∀ (x' : Option Addr) (n' c' : Nat) (wx : World), Bytes wx x' n' c' (turnL 92 (fillL z) ++ sumL (turnL 54 (fillL z) ++ b)) → Calls Tryz.prog 72 #[.slice x' n' c'] wx fun e w' => e = .returned (.agg (row .u8 (tagL z b))) ∧ Below wx.heap.size wx w' := fun x' n' c' wx h => by
  rw [HT.out]; exact hS x' n' c' _ wx h (hal 92 _ (by rw [hDl]; omega))
 by_cases h64 : 64 < len
 · have hs0 := hS x len cap z
   have hlong := fill_longR z (by omega)
   have hd0 := sumL_length z
   have htn := fun (g : Nat) => hrest (some ⟨g, 0, none⟩) 32 32 (sumL z) (by omega) hlong
   obtain ⟨D0, hD0⟩ : ∃ q, sumL z = q := ⟨_, rfl⟩
   rw [hD0] at hs0 hd0 htn
   obtain ⟨I1, hI1⟩ : ∃ q, turnL 54 (fillL z) ++ b = q := ⟨_, rfl⟩
   have htn1 := fun g wx h1 h2 => htn g 54 y lb cb b wx h1 h2 hlb
   rw [hI1] at hs1 hs2 htn1 hDl
   obtain ⟨D1, hD1⟩ : ∃ q, sumL I1 = q := ⟨_, rfl⟩
   rw [hD1] at hs1 hs2 hDl
   have htn2 := fun g g' wx h1 h2 => htn g 92 (some ⟨g', 0, none⟩) 32 32 D1 wx h1 h2 (by omega)
   obtain ⟨O1, hO1⟩ : ∃ q, turnL 92 (fillL z) ++ D1 = q := ⟨_, rfl⟩
   rw [hO1] at hs2 htn2
   obtain ⟨TG, hTG⟩ : ∃ q, tagL z b = q := ⟨_, rfl⟩
   rw [hTG] at hs2 hTl ⊢
   have h64i : (64 : Int) < (len : Int) := by omega
   have hz1 : z.length ≤ 1000000 := by omega
   clear hD0 hI1 hD1 hO1 hTG HT hFl hal hrest hS htn hlong hzl hyl
   go_enter Tryz.func58, Tryz.ntmps58
   go_upto_region 1 with fail
   refine forget (p := fun y => Code.wp _ _ _ _ y) (fun W0 => Below w.heap.size w W0 ∧ W0.heap.size = w.heap.size + 1 ∧ Holds W0 w.heap.size .u8 23 (List.replicate 32 0)) ⟨(Below.refl _ _).alloc (Nat.le_refl _) _, by simp, Holds.new w .u8 23 (List.replicate 32 0)⟩ ?_
   rintro W0 ⟨hB0, hsz0, hR0⟩
   have hs0' := hs0 W0 (hx.below hB0) hz1
   clear hs0
   go_upto_region 4 with (first
    | (go_at_call 72; refine hs0'.mono ?_; rintro e w1 ⟨rfl, hb1⟩; have hN1 := Holds.new w1 .u8 23 (List.replicate 32 0))
    | (refine wpList_st rfl 23 _ _ rfl _ rfl rfl hN1 (by rw [hd0]; exact sizeKey) (by simp [hd0]) ?_))
   have hl1 := hb1.size
   refine forget (p := fun y => Code.wp _ _ _ _ y) (fun W2 => Below w.heap.size w W2 ∧ Holds W2 w.heap.size .u8 23 (List.replicate 32 0) ∧ Holds W2 w1.heap.size .u8 23 D0) ⟨below_setRow ((hB0.trans (hb1.mono hB0.size)).alloc (by omega) _) (by omega) _, ((hR0.below hb1 (by omega)).alloc _).setRowOther _ (by omega), hN1.setRow _⟩ ?_
   clear hN1 hB0 hR0 hb1 hs0'
   rintro W2 ⟨hB2, hR2, hD2⟩
   obtain ⟨Db, hDb⟩ : ∃ q, w1.heap.size = q := ⟨_, rfl⟩
   rw [hDb] at hl1 hD2 ⊢
   have hDw : w.heap.size < Db := by omega
   clear hDb hl1 hsz0
   simp only [Act.put]
   have ht1 := htn1 Db W2 (hD2.bytes hd0.symm (by omega)) (hy.below hB2)
   clear htn1
   go_upto_region 6 with (first
    | (go_at_call 73; refine ht1.mono ?_; rintro e w3 ⟨x3, n3, c3, rfl, hy3, hb3⟩)
    | (go_at_call 72; refine (hs1 _ _ _ _ hy3).mono ?_; rintro e w4 ⟨rfl, hb4⟩; have hN4 := Holds.new w4 .u8 23 (List.replicate 32 0))
    | (refine wpList_st rfl 23 _ _ rfl _ rfl rfl hN4 (by rw [hDl]; exact sizeKey) (by simp [hDl]) ?_))
   have hb24 : Below W2.heap.size W2 w4 := hb3.trans (hb4.mono hb3.size)
   have hl4 := hb24.size
   have hlD := hD2.lt
   refine forget (p := fun y => Code.wp _ _ _ _ y) (fun W5 => Below w.heap.size w W5 ∧ Holds W5 w.heap.size .u8 23 (List.replicate 32 0) ∧ Holds W5 Db .u8 23 D0 ∧ Holds W5 w4.heap.size .u8 23 D1) ⟨below_setRow ((hB2.trans (hb24.mono hB2.size)).alloc (by have := hB2.size; omega) _) (by have := hB2.size; omega) _, ((hR2.below hb24 hR2.lt).alloc _).setRowOther _ (by omega), ((hD2.below hb24 hD2.lt).alloc _).setRowOther _ (by omega), hN4.setRow _⟩ ?_
   clear hN4 hB2 hR2 hD2 hb3 hb4 hb24 hs1 ht1 hy3
   rintro W5 ⟨hB5, hR5, hD5, hI5⟩
   obtain ⟨Ib, hIb⟩ : ∃ q, w4.heap.size = q := ⟨_, rfl⟩
   rw [hIb] at hI5 ⊢
   clear hIb hl4 hlD
   simp only [Act.put]
   have ht2 := htn2 Db Ib W5 (hD5.bytes hd0.symm (by omega)) (hI5.bytes hDl.symm (by omega))
   clear htn2
   go_wp2_with (first
    | (go_at_call 73; refine ht2.mono ?_; rintro e w6 ⟨x6, n6, c6, rfl, hy6, hb6⟩)
    | (go_at_call 72; refine (hs2 _ _ _ _ hy6).mono ?_; rintro e w7 ⟨rfl, hb7⟩; have hb57 : Below W5.heap.size W5 w7 := hb6.trans (hb7.mono hb6.size); have hR7 := hR5.below hb57 hR5.lt)
    | (refine wpList_st rfl 23 _ _ rfl _ rfl rfl hR7 (by rw [hTl]; exact sizeKey) (by simp [hTl]) ?_))
   refine bodyPost_ret (results_holds (Tryz.results58) _ rfl (hR7.setRow _) Tryz.underlying23 sizeKey hTl) rfl ⟨rfl, ?_⟩
   exact below_setRow (hB5.trans (hb57.mono hB5.size)) (Nat.le_refl _) _
 · have htn := hrest x len cap z (by omega) rfl
   obtain ⟨I1, hI1⟩ : ∃ q, turnL 54 (fillL z) ++ b = q := ⟨_, rfl⟩
   have htn1 := fun wx h1 h2 => htn 54 y lb cb b wx h1 h2 hlb
   rw [hI1] at hs1 hs2 htn1 hDl
   obtain ⟨D1, hD1⟩ : ∃ q, sumL I1 = q := ⟨_, rfl⟩
   rw [hD1] at hs1 hs2 hDl
   have htn2 := fun g' wx h1 h2 => htn 92 (some ⟨g', 0, none⟩) 32 32 D1 wx h1 h2 (by omega)
   obtain ⟨O1, hO1⟩ : ∃ q, turnL 92 (fillL z) ++ D1 = q := ⟨_, rfl⟩
   rw [hO1] at hs2 htn2
   obtain ⟨TG, hTG⟩ : ∃ q, tagL z b = q := ⟨_, rfl⟩
   rw [hTG] at hs2 hTl ⊢
   have h64i : ¬ ((64 : Int) < (len : Int)) := by omega
   clear hI1 hD1 hO1 hTG HT hFl hal hrest hS htn hzl hyl
   go_enter Tryz.func58, Tryz.ntmps58
   go_upto_region 1 with fail
   refine forget (p := fun y => Code.wp _ _ _ _ y) (fun W0 => Below w.heap.size w W0 ∧ W0.heap.size = w.heap.size + 1 ∧ Holds W0 w.heap.size .u8 23 (List.replicate 32 0)) ⟨(Below.refl _ _).alloc (Nat.le_refl _) _, by simp, Holds.new w .u8 23 (List.replicate 32 0)⟩ ?_
   rintro W2 ⟨hB2, hsz0, hR2⟩
   have ht1 := htn1 W2 (hx.below hB2) (hy.below hB2)
   clear htn1
   go_upto_region 6 with (first
    | (go_at_call 73; refine ht1.mono ?_; rintro e w3 ⟨x3, n3, c3, rfl, hy3, hb3⟩)
    | (go_at_call 72; refine (hs1 _ _ _ _ hy3).mono ?_; rintro e w4 ⟨rfl, hb4⟩; have hN4 := Holds.new w4 .u8 23 (List.replicate 32 0))
    | (refine wpList_st rfl 23 _ _ rfl _ rfl rfl hN4 (by rw [hDl]; exact sizeKey) (by simp [hDl]) ?_))
   have hb24 : Below W2.heap.size W2 w4 := hb3.trans (hb4.mono hb3.size)
   have hl4 := hb24.size
   refine forget (p := fun y => Code.wp _ _ _ _ y) (fun W5 => Below w.heap.size w W5 ∧ Holds W5 w.heap.size .u8 23 (List.replicate 32 0) ∧ Holds W5 w4.heap.size .u8 23 D1) ⟨below_setRow ((hB2.trans (hb24.mono hB2.size)).alloc (by have := hB2.size; omega) _) (by have := hB2.size; omega) _, ((hR2.below hb24 hR2.lt).alloc _).setRowOther _ (by omega), hN4.setRow _⟩ ?_
   clear hN4 hB2 hR2 hb3 hb4 hb24 hs1 ht1 hy3 hsz0
   rintro W5 ⟨hB5, hR5, hI5⟩
   obtain ⟨Ib, hIb⟩ : ∃ q, w4.heap.size = q := ⟨_, rfl⟩
   rw [hIb] at hI5 ⊢
   clear hIb hl4
   simp only [Act.put]
   have ht2 := htn2 Ib W5 (hx.below hB5) (hI5.bytes hDl.symm (by omega))
   clear htn2
   go_wp2_with (first
    | (go_at_call 73; refine ht2.mono ?_; rintro e w6 ⟨x6, n6, c6, rfl, hy6, hb6⟩)
    | (go_at_call 72; refine (hs2 _ _ _ _ hy6).mono ?_; rintro e w7 ⟨rfl, hb7⟩; have hb57 : Below W5.heap.size W5 w7 := hb6.trans (hb7.mono hb6.size); have hR7 := hR5.below hb57 hR5.lt)
    | (refine wpList_st rfl 23 _ _ rfl _ rfl rfl hR7 (by rw [hTl]; exact sizeKey) (by simp [hTl]) ?_))
   refine bodyPost_ret (results_holds (Tryz.results58) _ rfl (hR7.setRow _) Tryz.underlying23 sizeKey hTl) rfl ⟨rfl, ?_⟩
   exact below_setRow (hB5.trans (hb57.mono hB5.size)) (Nat.le_refl _) _
end Go.Proofs.YtflkhkmejnpapaaGreatDoor.S
