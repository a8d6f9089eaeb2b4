/- The reference's Expand, Extract. -/
import Derived.Test.YteolgonoodfniaaDoorRefMac
namespace Go.Proofs.YteolgonoodfniaaDoor
open Go.RowKit
set_option maxRecDepth 20000
set_option linter.unusedSimpArgs false

theorem refExpand_no (k : List Int) (y : Option Addr) (lb cb : Nat) (n : Int) (w : World) (hn : n < 0 ∨ 8160 < n) :
    Calls Tryd.prog 14 #[.agg (row .u8 k), .slice y lb cb, .int .i64 n] w fun e w' => e = .returned (.tuple #[.slice none 0 0, .int .i64 2]) ∧ Below w.heap.size w w' := by
  rcases hn with h | h
  · go_enter Tryd.func14, Tryd.ntmps14
    go_wp2
    go_ret2
    exact ⟨rfl, (Below.refl _ _).alloc (Nat.le_refl _) _⟩
  · have h' : ¬ n < 0 := by omega
    go_enter Tryd.func14, Tryd.ntmps14
    go_wp2
    go_ret2
    exact ⟨rfl, (Below.refl _ _).alloc (Nat.le_refl _) _⟩

set_option maxHeartbeats 2000000 in
theorem refExpand_any (k : List Int) (y : Option Addr) (lb cb : Nat) (b : List Int) (n : Nat) (w : World) (hk : k.length = 32) (hy : Bytes w y lb cb b) (hlb : lb ≤ 100000) (hn : n ≤ 8160) :
    Calls Tryd.prog 14 #[.agg (row .u8 k), .slice y lb cb, .int .i64 n] w fun e w' => ∃ x c, e = .returned (.tuple #[.slice x n c, .int .i64 0]) ∧ Bytes w' x n c (expL k b n) ∧ Below w.heap.size w w' := by
  have hni : ¬ ((n : Int) < 0) := by omega
  have hnj : ¬ ((8160 : Int) < (n : Int)) := by omega
  have hbl : b.length ≤ 100000 := by rw [← hy.len_eq]; exact hlb
  go_enter Tryd.func14, Tryd.ntmps14
  go_upto_region 1 with fail
  refine forget (p := fun y => Code.wp _ _ _ _ y) (fun W0 => Below w.heap.size w W0 ∧ W0.heap.size = w.heap.size + 1 ∧ Holds W0 w.heap.size .u8 26 k) ⟨(Below.refl _ _).alloc (Nat.le_refl _) _, by simp, Holds.new w .u8 26 k⟩ ?_
  rintro W0 ⟨hB0, hs0, hk0⟩
  have hB0' := hB0.size
  go_wp2_with fail
  go_loopw [8, 9, 10] (fun v l i wr => ∃ j : Nat, 32 * j < n + 32 ∧ i = .int .i64 ((j + 1 : Nat) : Int) ∧ OwnB wr (w.heap.size + 1) v (outK k b j) ∧ (∃ lx ll lc, l = .slice lx ll lc ∧ Bytes wr lx ll lc (tK k b j)) ∧ Below (w.heap.size + 1) W0 wr) (fun v _ _ _ => n - lenOf v)
  case atStart => exact ⟨0, by omega, rfl, OwnB.nil _ _, ⟨none, 0, 0, rfl, bytes_nil _⟩, by rw [← hs0]; exact Below.refl _ _⟩
  case round =>
    obtain ⟨j, hj, rfl, ho, ⟨lx, ll, lc, rfl, hl⟩, hB⟩ := hrel
    obtain ⟨xv, nv, cv, hv, hnv⟩ := ho.isSlice
    rw [outK_length] at hnv
    have hBw : Below w.heap.size w wr := hB0.trans (hB.mono (by omega))
    have hll := hl.len_eq
    have htk := tK_len k b j
    have hsr := hB.size
    have hsw : w.heap.size + 1 ≤ wr.heap.size := by omega
    by_cases hlt : 32 * j < n
    · subst hv
      have HNV : VeilM (nv = 32 * j) := ⟨hnv⟩
      have hnvi : (nv : Int) < (n : Int) := by omega
      have hn4 : nv ≤ 8160 := by omega
      have hk1 := hk0.below hB (by omega)
      have hyr := hy.below hBw
      have hcast : (((j + 1 : Nat) : Int)) = (j : Int) + 1 := by omega
      obtain ⟨C, hC⟩ : ∃ C : Int, (j : Int) + 1 = C := ⟨_, rfl⟩
      have HC : VeilM ((j : Int) + 1 = C) := ⟨hC⟩
      have hTl := tK_length k b j
      have HTK : VeilM (tK k b (j + 1) = tagL k (tK k b j ++ (b ++ [C]))) := ⟨by simp only [tK]; rw [hcast, hC]⟩
      have hH : ∀ (x' : Option Addr) (n' c' : Nat) (wx : World), Bytes wx x' n' c' (tK k b j ++ b ++ [C]) → Holds wx w.heap.size .u8 26 k → Calls Tryd.prog 12 #[.slice (some ⟨w.heap.size, 0, none⟩) 32 32, .slice x' n' c'] wx fun e w' => e = .returned (.agg (row .u8 (tK k b (j + 1)))) ∧ Below wx.heap.size wx w' := fun x' n' c' wx h1 h2 => by
        have hh := refHmac_any (some ⟨w.heap.size, 0, none⟩) 32 32 k x' n' c' _ wx (h2.bytes hk.symm (by omega)) (by omega) h1 (by rw [h1.len_eq]; simp; omega)
        rw [List.append_assoc, ← HTK.out] at hh
        exact hh
      have HO : VeilM (outK k b (j + 1) = outK k b j ++ tK k b (j + 1)) := ⟨rfl⟩
      obtain ⟨T, hT⟩ : ∃ T, tK k b (j + 1) = T := ⟨_, rfl⟩
      have HT : VeilM (tK k b (j + 1) = T) := ⟨hT⟩
      rw [hT] at hH hTl HO
      obtain ⟨T0, hT0⟩ : ∃ T, tK k b j = T := ⟨_, rfl⟩
      rw [hT0] at hH hl hll htk
      obtain ⟨Z, hZ⟩ : ∃ T, outK k b j = T := ⟨_, rfl⟩
      rw [hZ] at ho HO
      have hZl : Z.length = nv := by rw [← hZ, outK_length]; exact HNV.out.symm
      rw [hcast, hC]
      have hC0 : 0 ≤ C := by omega
      have hC1 : C ≤ 255 := by omega
      have hC2 : C % 256 = C := by omega
      have hll2 : ll ≤ 32 := by omega
      have hT0l : T0.length ≤ 32 := by omega
      clear HTK hT hT0 hZ hcast hC hnv htk hll
      go_upto_region 9 with (first
        | (at_builtin; refine wpList_app rfl _ _ rfl wr.heap.size _ [] rfl (OwnB.nil _ _) lx ll lc T0 rfl hl (by simp; omega) (Nat.le_refl _) ?_; intro v1 w1 ho1 hg1; rw [List.nil_append] at ho1; have hb1 : Below wr.heap.size wr w1 := below_grown (Below.refl _ _) (OwnB.nil _ wr.heap.size) hg1 (Nat.le_refl _); have hy1 := hyr.below hb1)
        | (at_builtin; refine wpList_app rfl _ _ rfl wr.heap.size _ T0 rfl ho1 y lb cb b rfl hy1 (by omega) hb1.size ?_; intro v2 w2 ho2 hg2; have hb2 : Below wr.heap.size wr w2 := below_grown hb1 ho1 hg2 hb1.size; have hT0b : (T0 ++ b).length ≤ 200000 := (by rw [List.length_append]; omega))
        | (at_builtin; refine wpList_app1 rfl _ _ rfl wr.heap.size _ (T0 ++ b) rfl C (ho2.alloc _) rfl (by omega) hb2.size ?_; intro v3 w3 ho3 hg3; have hb3 : Below wr.heap.size wr w3 := below_grown (hb2.alloc hb2.size _) (ho2.alloc _) hg3 (by have := hb2.size; simp; omega)))
      have hoA := ho.belowM hb3
      have hkA := hk1.below hb3 hk1.lt
      obtain ⟨x3, n3, c3, hv3, hn3⟩ := ho3.isSlice
      subst hv3
      have hy3 := ho3.bytes.2
      have hH3 := hH _ _ _ _ hy3 hkA
      clear hg1 ho1 hy1 hb1 hg2 ho2 hb2 hg3 hn3 hH hl hyr hk1 ho ho3 hy3
      go_upto_region 10 with (first
        | (go_at_call 12; refine hH3.mono ?_; rintro e w4 ⟨rfl, hb4⟩; have hN4 := Holds.new w4 .u8 26 (List.replicate 32 0))
        | (refine wpList_st rfl 26 _ _ rfl _ rfl rfl hN4 (by rw [hTl]; exact sizeKey) (by simp [hTl]) ?_))
      have hb34 : Below wr.heap.size wr w4 := hb3.trans (hb4.mono hb3.size)
      have hl4 := hb34.size
      refine forget (p := fun y => Code.wp _ _ _ _ y) (fun W5 => Below wr.heap.size wr W5 ∧ OwnB W5 (w.heap.size + 1) (.slice xv nv cv) Z ∧ Holds W5 w4.heap.size .u8 26 T) ⟨below_setRow (hb34.alloc hl4 _) hl4 _, ?_, hN4.setRow _⟩ ?_
      · refine ((hoA.belowM hb4).alloc (.cells (row .u8 (List.replicate 32 0)) 26)).keepM (fun g h1 h2 => ?_)
        by_cases hgg : g = w4.heap.size
        · exact .inr (by rw [hgg]; exact ⟨_, _, _, hN4, by decide⟩)
        · exact .inl (setRow_other _ _ _ _ hgg)
      clear hN4 hb3 hb4 hb34 hoA hkA hH3
      rintro W5 ⟨hb5, ho5, hT5⟩
      obtain ⟨tb, htb⟩ : ∃ q, w4.heap.size = q := ⟨_, rfl⟩
      rw [htb] at hT5 hl4 ⊢
      clear htb
      simp only [Act.put]
      have hb5a : Below W5.heap.size W5 (W5.alloc (.cells #[] 5)) := (Below.refl _ _).alloc (Nat.le_refl _) _
      have hyT := (hT5.bytes (n := 32) hTl.symm (by omega)).below hb5a
      have hoE := OwnB.empty W5 W5.heap.size (Nat.le_refl _)
      have hoL : ∀ g, Value.ownBlock (.slice xv nv cv) = some g → g < W5.heap.size := fun g h => own_lt ho5 h
      go_upto_region 11 with (at_builtin; refine wpList_app rfl _ _ rfl W5.heap.size _ [] rfl hoE _ 32 32 T rfl hyT (by simp) (by simp) ?_; intro v6 w6 ho6 hg6; rw [List.nil_append] at ho6; have hb6 : Below W5.heap.size W5 w6 := below_grown hb5a hoE hg6 (by simp))
      have ho7 := ho5.belowM hb6
      obtain ⟨x6, n6, c6, hv6, hn6⟩ := ho6.isSlice
      subst hv6
      have hy6 := ho6.bytes.2
      have hge := own_ge ho6
      obtain rfl : n6 = 32 := by omega
      have hs6 := hb6.size
      have hs5 := hb5.size
      have hTb := hT5.lt
      clear hg6 ho6 hb5a hyT hoE ho5 hT5 hn6
      go_wp2_with (at_builtin; refine wpList_app rfl _ _ rfl (w.heap.size + 1) _ Z rfl ho7 x6 32 c6 T rfl hy6 (by omega) (by omega) ?_; intro v8 w8 ho8 hg8)
      refine ⟨⟨j + 1, by omega, ?_, by rw [HO.out]; exact ho8, ⟨x6, 32, c6, rfl, ?_⟩, ?_⟩, ?_⟩
      · rw [← HC.out]; go_num
      · rw [HT.out]
        exact bytes_grown hy6 hg8 (fun bb off hx he => by
          have h1 := hge bb off hx
          have h2 := hoL bb he
          omega)
      · exact below_grown ((hB.trans (hb5.mono hsw)).trans (hb6.mono (by omega))) ho7 hg8 (by omega)
      · obtain ⟨x8, n8, c8, rfl, hn8⟩ := ho8.isSlice
        rw [List.length_append] at hn8
        simp only [lenOf]
        omega
    · subst hv
      have hje : j = (n + 31) / 32 := by omega
      have hE : (outK k b j).take n = expL k b n := by unfold expL; rw [← hje]
      have hyo := (ho.bytes.2).fewM n
      rw [hE, Nat.min_eq_right (by omega)] at hyo
      have hcv := ho.bytes.2.le
      have htop := ho.bytes.2.top
      have hnc : (n : Int) ≤ (cv : Int) := by omega
      have hnvi : ¬ ((nv : Int) < (n : Int)) := by omega
      clear hE hje hl ho hll htk hnv
      cases xv with
      | none =>
        have hcv0 := hyo.nil rfl
        subst hcv0
        obtain rfl : n = 0 := by omega
        go_wp2
        go_ret2
        exact ⟨_, _, rfl, hyo, hBw⟩
      | some ad =>
        go_wp2
        go_ret2
        exact ⟨_, _, rfl, hyo, hBw⟩
theorem refExtract_any (x : Option Addr) (len cap : Nat) (z : List Int) (y : Option Addr) (lb cb : Nat) (b : List Int) (w : World) (hx : Bytes w x len cap z) (hln : len ≤ 1000000) (hy : Bytes w y lb cb b) (hlb : lb ≤ 900000) :
    Calls Tryd.prog 16 #[.slice x len cap, .slice y lb cb] w fun e w' => e = .returned (.agg (row .u8 (tagL z b))) ∧ Below w.heap.size w w' := by
  have hH := fun wx (h : Below w.heap.size w wx) => refHmac_any x len cap z y lb cb b wx (hx.below h) hln (hy.below h) hlb
  have hTl := tagL_length z b
  obtain ⟨TG, hTG⟩ : ∃ q, tagL z b = q := ⟨_, rfl⟩
  rw [hTG] at hH hTl ⊢
  clear hTG
  have hN := Holds.new w .u8 26 (List.replicate 32 0)
  go_enter Tryd.func16, Tryd.ntmps16
  go_wp2_with (first
    | (go_at_call 12; refine (hH _ ((Below.refl _ _).alloc (Nat.le_refl _) _)).mono ?_; rintro e w1 ⟨rfl, hb1⟩; have hN1 := hN.below hb1 (by simp))
    | (refine wpList_st rfl 26 _ _ rfl _ rfl rfl hN1 (by rw [hTl]; exact sizeKey) (by simp [hTl]) ?_))
  refine bodyPost_ret (results_holds (Tryd.results16) _ rfl (hN1.setRow _) Tryd.underlying26 sizeKey hTl) rfl ⟨rfl, ?_⟩
  exact below_setRow (((Below.refl _ _).alloc (Nat.le_refl _) _).trans (hb1.mono (by simp))) (Nat.le_refl _) _
theorem extract_any (x : Option Addr) (len cap : Nat) (z : List Int) (y : Option Addr) (lb cb : Nat) (b : List Int) (w : World) (hx : Bytes w x len cap z) (hln : len ≤ 1000000) (hy : Bytes w y lb cb b) (hlb : lb ≤ 900000) (hKT : KTab w) :
    Calls Tryd.prog 15 #[.slice x len cap, .slice y lb cb] w fun e w' => e = .returned (.agg (row .u8 (tagL z b))) ∧ Below w.heap.size w w' := by
  have hH := fun wx (h : Below w.heap.size w wx) => hmac_any x len cap z y lb cb b wx (hx.below h) hln (hy.below h) hlb (hKT.below h)
  have hTl := tagL_length z b
  obtain ⟨TG, hTG⟩ : ∃ q, tagL z b = q := ⟨_, rfl⟩
  rw [hTG] at hH hTl ⊢
  clear hTG
  have hN := Holds.new w .u8 26 (List.replicate 32 0)
  go_enter Tryd.func15, Tryd.ntmps15
  go_wp2_with (first
    | (go_at_call 11; refine (hH _ ((Below.refl _ _).alloc (Nat.le_refl _) _)).mono ?_; rintro e w1 ⟨rfl, hb1⟩; have hN1 := hN.below hb1 (by simp))
    | (refine wpList_st rfl 26 _ _ rfl _ rfl rfl hN1 (by rw [hTl]; exact sizeKey) (by simp [hTl]) ?_))
  refine bodyPost_ret (results_holds (Tryd.results15) _ rfl (hN1.setRow _) Tryd.underlying26 sizeKey hTl) rfl ⟨rfl, ?_⟩
  exact below_setRow (((Below.refl _ _).alloc (Nat.le_refl _) _).trans (hb1.mono (by simp))) (Nat.le_refl _) _
end Go.Proofs.YteolgonoodfniaaDoor
