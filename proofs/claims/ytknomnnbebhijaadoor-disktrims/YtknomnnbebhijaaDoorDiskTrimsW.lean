/- The statement DiskTrims, walked. -/
import Derived.Test.YtknomnnbebhijaaDoorDx7
namespace Go.Proofs.YtknomnnbebhijaaDoor
open Go.RowKit Go.Shelf
set_option maxRecDepth 20000
set_option linter.unusedSimpArgs false

set_option maxHeartbeats 8000000 in
theorem diskTrims_walk (x : Option Addr) (len cap : Nat) (ds : List Dd) (w : World) (hd : DeedsAt w x len cap ds) (hKT : S.KTab w) :
    Calls Tryd.prog 7 #[.slice x len cap] w fun e w' => e = .returned (.bool true) ∧ Below w.heap.size w w' := by
  have hP := play_any x len cap ds w hd hKT
  go_enter Tryd.func7, Tryd.ntmps7
  go_upto_region 4 with (first
    | (go_at_call 9; refine hP.mono ?_; rintro e w1 ⟨D, R, rfl, ⟨v, u, z, s, hB1⟩, hb1⟩)
    | (go_at_call 10; refine (dLive_any w1 (hKT.below hb1)).mono ?_; rintro e w2 ⟨rfl, hb2⟩))
  have hb12 := hb1.trans (hb2.mono hb1.size)
  have hD2 := hB1.d.far hb2
  have hzB := hD2.isb
  have hzl := hD2.len
  clear hP hB1 hd
  have hRe := records_any _ _ _ _ _ w2 hD2 (hKT.below hb12)
  go_wp2_with (go_at_call 13; refine hRe.mono ?_; rintro e w3 ⟨v3, rfl, hr3, hb3⟩)
  obtain ⟨x3, c3, hx3, hv3⟩ := hr3.view
  subst hx3
  have hb13 := hb12.trans (hb3.mono hb12.size)
  have hD3 := hD2.far hb3
  have HLK : Veil (lensK (recsL z) (recsL z).length = trimN z) := ⟨lensK_recs _ z (Nat.le_refl _)⟩
  have htl := trimN_le z
  obtain ⟨rs, hrs⟩ : ∃ q, recsL z = q := ⟨_, rfl⟩
  have hrB := recsL_in z hzB
  have hrl := recsL_few z hzl
  rw [hrs] at hv3 HLK hrB hrl ⊢
  have HRS := Veil.mk hrs
  obtain ⟨n, hn⟩ : ∃ q, rs.length = q := ⟨_, rfl⟩
  rw [hn] at hv3 HLK hrl ⊢
  have HN := Veil.mk hn
  have hW32 := hb3.size
  have ho3 : DiskOut w2.heap.size w3.heap.size D v := hD2.out _
  rw [hrs] at hr3
  clear hrs hn hRe hD2 hb3
  go_loopw [7, 8] (fun p q wr => ∃ k : Nat, k ≤ n ∧ p = .int .i64 (lensK rs k : Nat) ∧ q = .int .i64 (k : Nat) ∧ wr = w3) (fun _ q _ => n - (intOf q).toNat)
  case atStart => exact ⟨0, Nat.zero_le _, rfl, rfl, rfl⟩
  case round =>
    obtain ⟨k, hk, rfl, rfl, rfl⟩ := hrel
    have hlk := lensK_le rs k (by have := HN.out; omega)
    rw [HN.out, HLK.out] at hlk
    by_cases hlt : k < n
    · have hlti : (k : Int) < (n : Int) := by omega
      have hkr : k < rs.length := by have := HN.out; omega
      obtain ⟨b, rfl, hc⟩ : ∃ b, x3 = some ⟨b, 0, none⟩ ∧ ∀ j (hj : j < rs.length), ∃ xx cc, wr.cell? ⟨b, j, none⟩ = some (.slice xx rs[j].length cc) ∧ Bytes wr xx rs[j].length cc rs[j] := by
        rcases hv3.at_ with h0 | h0
        · omega
        · exact h0
      obtain ⟨xx, cc, e1, e2⟩ := hc k hkr
      have HS : Veil (lensK rs (k + 1) = lensK rs k + (10 + rs[k].length)) := ⟨lensK_succ rs k hkr⟩
      have hlk2 := lensK_le rs (k + 1) (by omega)
      rw [HN.out, HLK.out, HS.out] at hlk2
      generalize rs[k].length = ll at e1 HS hlk2
      generalize lensK rs k = lk at HS hlk hlk2 ⊢
      have hw1 : IntKind.i64.wrap ((k : Int) + 1) = (k : Int) + 1 := by rw [IntKind.wrap_i64]; omega
      have hw2 : IntKind.i64.wrap (10 + (ll : Int)) = 10 + (ll : Int) := by rw [IntKind.wrap_i64]; omega
      have hw3 : IntKind.i64.wrap ((lk : Int) + (10 + (ll : Int))) = (lk : Int) + (10 + (ll : Int)) := by rw [IntKind.wrap_i64]; omega
      clear hc e2
      go_wp2
      go_roundw
      case rel => exact ⟨k + 1, by omega, by rw [HS.out]; push_cast; rfl, by push_cast; rfl, by simp⟩
      case measure => simp [intOf]; omega
    · have hlti : ¬ (k : Int) < (n : Int) := by omega
      obtain rfl : k = n := by omega
      rw [HLK.out]
      have hT := dTrim_any _ _ _ _ _ wr hD3 (hKT.below hb13)
      obtain ⟨hw1, hw2⟩ := whole_take _ z (Nat.le_refl _)
      rw [HRS.out] at hw1
      obtain ⟨m, hm⟩ : ∃ q, trimN z = q := ⟨_, rfl⟩
      rw [hm] at hT hw1 hw2 htl ⊢
      obtain ⟨z4, hz4⟩ : ∃ q, z.take m = q := ⟨_, rfl⟩
      have hz4l : z4.length = m := by rw [← hz4, List.length_take]; omega
      rw [hz4] at hT hw1 hw2
      clear hm hz4 hlk HLK HRS
      go_upto_region 11 with (go_at_call 21; refine hT.mono ?_; rintro e w4 ⟨rfl, v4, hd4⟩)
      have hb14 := hb13.trans (hd4.below hD3 hb13.size)
      have hk4 := hd4.range ho3 (Nat.le_refl _)
      have ho4 := hd4.out ho3 (Nat.le_refl _)
      have hs4 := hd4.turn.size
      have hD4 := hd4.disk
      have hz4B := hD4.isb
      have hz4n := hD4.len
      obtain ⟨SZ, hSZ⟩ : ∃ q, strOfNums z4 = q := ⟨_, rfl⟩
      have hSZl : SZ.size = m := by rw [← hSZ, strOfNums_size, hz4l]
      have hBy := dBytes_any _ _ _ _ _ w4 hD4
      go_upto_region 12 with (go_at_call 14; refine hBy.mono ?_; rintro e w5 ⟨v5, rfl, ho5, hb5⟩; have hcv5 := ho5.conv; rw [hSZ] at hcv5)
      have hb15 := hb14.trans (hb5.mono hb14.size)
      have hD5 := hD4.far hb5
      have hs5 := hb5.size
      have hk5 := hk4.trans (RangeK.of_below hb5 hs4)
      have hT2 := dTrim_any _ _ _ _ _ w5 hD5 (hKT.below hb15)
      rw [hw2, List.take_of_length_le (by omega)] at hT2
      clear hT hBy hD4 hcv5 ho5 hb5
      go_upto_region 13 with (go_at_call 21; refine hT2.mono ?_; rintro e w6 ⟨rfl, v6, hd6⟩)
      have hb16 := hb15.trans (hd6.below hD5 hb15.size)
      have hk6 := hk5.trans (hd6.range ho4 (by omega))
      have hD6 := hd6.disk
      have hs6 := hd6.turn.size
      have hR6 := records_any _ _ _ _ _ w6 hD6 (hKT.below hb16)
      rw [hw1] at hR6
      have hnk := HN.out
      clear hT2 hd6 hD5 hd4 hD3 hlti hlt hk
      go_wp2_with (first
        | (go_at_call 13; refine hR6.mono ?_; rintro e w7 ⟨v7, rfl, hr7, hb7⟩; have hr37 := hr3.range (hk6.trans (RangeK.of_below hb7 (by omega))); obtain ⟨x37, c37, hx37, hv37⟩ := hr37.view; obtain ⟨x7, c7, hx7, hv7⟩ := hr7.view; subst hx7; cases hx37; rw [hnk] at hv37 hv7; have hsr := sameRows_any _ _ _ _ _ _ _ _ w7 hv37 hv7 hrB hrB hrl; rw [show (rs == rs) = true by simp] at hsr; have hD7 := hD6.far hb7; have hb17 := hb16.trans (hb7.mono hb16.size); rw [hnk]; clear hr37 hr7 hv37 hv7)
        | (go_at_call 20; refine hsr.mono ?_; rintro e w8 ⟨rfl, hb8⟩; have hD8 := hD7.far hb8; have hb18 := hb17.trans (hb8.mono hb17.size))
        | (go_at_call 18; refine (dSynced_any _ _ _ _ _ w8 hD8).mono ?_; rintro e w9 ⟨rfl, rfl⟩)
        | (go_at_call 14; refine (dBytes_any _ _ _ _ _ w9 hD8).mono ?_; rintro e w10 ⟨v10, rfl, ho10, hb10⟩; have hcv10 := ho10.conv; rw [hSZ] at hcv10))
      go_ret
      exact ⟨rfl, hb18.trans (hb10.mono hb18.size)⟩
end Go.Proofs.YtknomnnbebhijaaDoor
