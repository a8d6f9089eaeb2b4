/- RefExp Kr2 Kr3 -/
import Derived.Test.YtflkhkmejnpapaaGreatDoorK24
import Derived.Test.YtflkhkmejnpapaaGreatDoorK22
namespace Go.Proofs.YtflkhkmejnpapaaGreatDoor.S
open Go.RowKit
set_option maxRecDepth 20000
set_option linter.unusedSimpArgs false
set_option maxHeartbeats 2000000 in
theorem refExpand_any (k : List Int) (y : Option Addr) (lb cb : Nat) (b : List Int) (n : Nat) (w : World) (hk : k.length = 32) (hy : Bytes w y lb cb b) (hlb : lb ≤ 100000) (hn : n ≤ 8160) :
    Calls Tryz.prog 46 #[.agg (row .u8 k), .slice y lb cb, .int .i64 n] w fun e w' => ∃ x c, e = .returned (.tuple #[.slice x n c, .int .i64 0]) ∧ Bytes w' x n c (expL k b n) ∧ Below w.heap.size w w' := by
 have hni : ¬ ((n : Int) < 0) := by omega
 have hnj : ¬ ((8160 : Int) < (n : Int)) := by omega
 have hbl : b.length ≤ 100000 := by rw [← hy.len_eq]; exact hlb
 go_enter Tryz.func46, Tryz.ntmps46
 go_upto_region 1 with fail
 refine forget (p := fun y => Code.wp _ _ _ _ y) (fun W0 => Below w.heap.size w W0 ∧ W0.heap.size = w.heap.size + 1 ∧ Holds W0 w.heap.size .u8 23 k) ⟨(Below.refl _ _).alloc (Nat.le_refl _) _, by simp, Holds.new w .u8 23 k⟩ ?_
 rintro W0 ⟨hB0, hs0, hk0⟩
 have hB0' := hB0.size
 go_wp2_with fail
 go_loopw [8, 9, 10] (fun v l i wr => ∃ j : Nat, 32 * j < n + 32 ∧ i = .int .i64 ((j + 1 : Nat) : Int) ∧ OwnB wr (w.heap.size + 1) v (outK k b j) ∧ (∃ lx ll lc, l = .slice lx ll lc ∧ Bytes wr lx ll lc (tK k b j)) ∧ Below (w.heap.size + 1) W0 wr) (fun v _ _ _ => n - lenOf v)
 case atStart => exact ⟨0, by omega, rfl, OwnB.nil _ _, ⟨none, 0, 0, rfl, bytes_nil _⟩, by rw [← hs0]; exact Below.refl _ _⟩
 case round =>
  obtain ⟨j, hj, rfl, ho, ⟨lx, ll, lc, rfl, hl⟩, hB⟩ := hrel
  obtain ⟨xv, nv, cv, hv, hnv⟩ := ho.isSlice
  rw [outK_length] at hnv
  have hBw : Below w.heap.size w wr := hB0.trans (hB.mono (by omega))
  have hll := hl.len_eq
  have htk := tK_len k b j
  have hsr := hB.size
  have hsw : w.heap.size + 1 ≤ wr.heap.size := by omega
  by_cases hlt : 32 * j < n
  · subst hv
    have HNV : VeilM (nv = 32 * j) := ⟨hnv⟩
    have hnvi : (nv : Int) < (n : Int) := by omega
    have hn4 : nv ≤ 8160 := by omega
    have hk1 := hk0.below hB (by omega)
    have hyr := hy.below hBw
    have hcast : (((j + 1 : Nat) : Int)) = (j : Int) + 1 := by omega
    obtain ⟨C, hC⟩ : ∃ C : Int, (j : Int) + 1 = C := ⟨_, rfl⟩
    have HC : VeilM ((j : Int) + 1 = C) := ⟨hC⟩
    have hTl := tK_length k b j
    have HTK : VeilM (tK k b (j + 1) = tagL k (tK k b j ++ (b ++ [C]))) := ⟨by simp only [tK]; rw [hcast, hC]⟩
    have hH : ∀ (x' : Option Addr) (n' c' : Nat) (wx : World), Bytes wx x' n' c' (tK k b j ++ b ++ [C]) → Holds wx w.heap.size .u8 23 k → Calls Tryz.prog 58 #[.slice (some ⟨w.heap.size, 0, none⟩) 32 32, .slice x' n' c'] wx fun e w' => e = .returned (.agg (row .u8 (tK k b (j + 1)))) ∧ Below wx.heap.size wx w' := fun x' n' c' wx h1 h2 => by
     have hh := refHmac_any (some ⟨w.heap.size, 0, none⟩) 32 32 k x' n' c' _ wx (h2.bytes hk.symm (by omega)) (by omega) h1 (by rw [h1.len_eq]; simp; omega)
     rw [List.append_assoc, ← HTK.out] at hh
     exact hh
    have HO : VeilM (outK k b (j + 1) = outK k b j ++ tK k b (j + 1)) := ⟨rfl⟩
    obtain ⟨T, hT⟩ : ∃ T, tK k b (j + 1) = T := ⟨_, rfl⟩
    have HT : VeilM (tK k b (j + 1) = T) := ⟨hT⟩
    rw [hT] at hH hTl HO
    obtain ⟨T0, hT0⟩ : ∃ T, tK k b j = T := ⟨_, rfl⟩
    rw [hT0] at hH hl hll htk
    obtain ⟨Z, hZ⟩ : ∃ T, outK k b j = T := ⟨_, rfl⟩
    rw [hZ] at ho HO
    have hZl : Z.length = nv := by rw [← hZ, outK_length]; exact HNV.out.symm
    rw [hcast, hC]
    have hC0 : 0 ≤ C := by omega
    have hC1 : C ≤ 255 := by omega
    have hC2 : C % 256 = C := by omega
    have hll2 : ll ≤ 32 := by omega
    have hT0l : T0.length ≤ 32 := by omega
    clear HTK hT hT0 hZ hcast hC hnv htk hll
    go_upto_region 9 with (first
     | (at_builtin; refine wpList_app rfl _ _ rfl wr.heap.size _ [] rfl (OwnB.nil _ _) lx ll lc T0 rfl hl (by simp; omega) (Nat.le_refl _) ?_; intro v1 w1 ho1 hg1; rw [List.nil_append] at ho1; have hb1 : Below wr.heap.size wr w1 := below_grown (Below.refl _ _) (OwnB.nil _ wr.heap.size) hg1 (Nat.le_refl _); have hy1 := hyr.below hb1)
     | (at_builtin; refine wpList_app rfl _ _ rfl wr.heap.size _ T0 rfl ho1 y lb cb b rfl hy1 (by omega) hb1.size ?_; intro v2 w2 ho2 hg2; have hb2 : Below wr.heap.size wr w2 := below_grown hb1 ho1 hg2 hb1.size; have hT0b : (T0 ++ b).length ≤ 200000 := (by rw [List.length_append]; omega))
     | (at_builtin; refine wpList_app1 rfl _ _ rfl wr.heap.size _ (T0 ++ b) rfl C (ho2.alloc _) rfl (by omega) hb2.size ?_; intro v3 w3 ho3 hg3; have hb3 : Below wr.heap.size wr w3 := below_grown (hb2.alloc hb2.size _) (ho2.alloc _) hg3 (by have := hb2.size; simp; omega)))
    have hoA := ho.belowM hb3
    have hkA := hk1.below hb3 hk1.lt
    obtain ⟨x3, n3, c3, hv3, hn3⟩ := ho3.isSlice
    subst hv3
    have hy3 := ho3.bytes.2
    have hH3 := hH _ _ _ _ hy3 hkA
    clear hg1 ho1 hy1 hb1 hg2 ho2 hb2 hg3 hn3 hH hl hyr hk1 ho ho3 hy3
    go_upto_region 10 with (first
     | (go_at_call 58; refine hH3.mono ?_; rintro e w4 ⟨rfl, hb4⟩; have hN4 := Holds.new w4 .u8 23 (List.replicate 32 0))
     | (refine wpList_st rfl 23 _ _ rfl _ rfl rfl hN4 (by rw [hTl]; exact sizeKey) (by simp [hTl]) ?_))
    have hb34 : Below wr.heap.size wr w4 := hb3.trans (hb4.mono hb3.size)
    have hl4 := hb34.size
    refine forget (p := fun y => Code.wp _ _ _ _ y) (fun W5 => Below wr.heap.size wr W5 ∧ OwnB W5 (w.heap.size + 1) (.slice xv nv cv) Z ∧ Holds W5 w4.heap.size .u8 23 T) ⟨below_setRow (hb34.alloc hl4 _) hl4 _, ?_, hN4.setRow _⟩ ?_
    · refine ((hoA.belowM hb4).alloc (.cells (row .u8 (List.replicate 32 0)) 23)).keepM (fun g h1 h2 => ?_)
      by_cases hgg : g = w4.heap.size
      · exact .inr (by rw [hgg]; exact ⟨_, _, _, hN4, by decide⟩)
      · exact .inl (setRow_other _ _ _ _ hgg)
    clear hN4 hb3 hb4 hb34 hoA hkA hH3
    rintro W5 ⟨hb5, ho5, hT5⟩
    obtain ⟨tb, htb⟩ : ∃ q, w4.heap.size = q := ⟨_, rfl⟩
    rw [htb] at hT5 hl4 ⊢
    clear htb
    simp only [Act.put]
    have hb5a : Below W5.heap.size W5 (W5.alloc (.cells #[] 5)) := (Below.refl _ _).alloc (Nat.le_refl _) _
    have hyT := (hT5.bytes (n := 32) hTl.symm (by omega)).below hb5a
    have hoE := OwnB.empty W5 W5.heap.size (Nat.le_refl _)
    have hoL : ∀ g, Value.ownBlock (.slice xv nv cv) = some g → g < W5.heap.size := fun g h => own_lt ho5 h
    go_upto_region 11 with (at_builtin; refine wpList_app rfl _ _ rfl W5.heap.size _ [] rfl hoE _ 32 32 T rfl hyT (by simp) (by simp) ?_; intro v6 w6 ho6 hg6; rw [List.nil_append] at ho6; have hb6 : Below W5.heap.size W5 w6 := below_grown hb5a hoE hg6 (by simp))
    have ho7 := ho5.belowM hb6
    obtain ⟨x6, n6, c6, hv6, hn6⟩ := ho6.isSlice
    subst hv6
    have hy6 := ho6.bytes.2
    have hge := own_ge ho6
    obtain rfl : n6 = 32 := by omega
    have hs6 := hb6.size
    have hs5 := hb5.size
    have hTb := hT5.lt
    clear hg6 ho6 hb5a hyT hoE ho5 hT5 hn6
    go_wp2_with (at_builtin; refine wpList_app rfl _ _ rfl (w.heap.size + 1) _ Z rfl ho7 x6 32 c6 T rfl hy6 (by omega) (by omega) ?_; intro v8 w8 ho8 hg8)
    refine ⟨⟨j + 1, by omega, ?_, by rw [HO.out]; exact ho8, ⟨x6, 32, c6, rfl, ?_⟩, ?_⟩, ?_⟩
    · rw [← HC.out]; go_num
    · rw [HT.out]
      exact bytes_grown hy6 hg8 (fun bb off hx he => by
       have h1 := hge bb off hx
       have h2 := hoL bb he
       omega)
    · exact below_grown ((hB.trans (hb5.mono hsw)).trans (hb6.mono (by omega))) ho7 hg8 (by omega)
    · obtain ⟨x8, n8, c8, rfl, hn8⟩ := ho8.isSlice
      rw [List.length_append] at hn8
      simp only [lenOf]
      omega
  · subst hv
    have hje : j = (n + 31) / 32 := by omega
    have hE : (outK k b j).take n = expL k b n := by unfold expL; rw [← hje]
    have hyo := (ho.bytes.2).fewM n
    rw [hE, Nat.min_eq_right (by omega)] at hyo
    have hcv := ho.bytes.2.le
    have htop := ho.bytes.2.top
    have hnc : (n : Int) ≤ (cv : Int) := by omega
    have hnvi : ¬ ((nv : Int) < (n : Int)) := by omega
    clear hE hje hl ho hll htk hnv
    cases xv with
    | none =>
     have hcv0 := hyo.nil rfl
     subst hcv0
     obtain rfl : n = 0 := by omega
     go_wp2
     go_ret2
     exact ⟨_, _, rfl, hyo, hBw⟩
    | some ad =>
     go_wp2
     go_ret2
     exact ⟨_, _, rfl, hyo, hBw⟩
end Go.Proofs.YtflkhkmejnpapaaGreatDoor.S
namespace Go.Proofs.YtflkhkmejnpapaaGreatDoor
open Go.RowKit
set_option maxRecDepth 20000
set_option linter.unusedSimpArgs false
theorem rexpandK_any (k : List Int) (y : Option Addr) (lb cb : Nat) (b : List Int) (w : World) (hk : k.length = 32) (hy : Bytes w y lb cb b) (hlb : lb ≤ 100000) :
    Calls Tryz.prog 46 #[.agg (row .u8 k), .slice y lb cb, .int .i64 32] w fun e w' => ∃ x c, e = .returned (.tuple #[.slice x 32 c, .int .i64 0]) ∧ Bytes w' x 32 c (derL k b) ∧ Below w.heap.size w w' :=
 (S.refExpand_any k y lb cb b 32 w hk hy.toS hlb (by omega)).mono fun e w' ⟨x, c, h1, h2, h3⟩ => ⟨x, c, h1, ⟨h2.1, h2.2, h2.3, h2.4, h2.5⟩, h3⟩
set_option maxHeartbeats 4000000 in
theorem rderive_any (k : List Int) (ws : ByteArray) (x : Option Addr) (n c : Nat) (m : List Int) (w : World) (hk : k.length = 32) (hws : ws.size ≤ 1000) (hm : Bytes w x n c m) (hn : n ≤ 1000) :
    Calls Tryz.prog 32 #[.agg (row .u8 k), .string ws, .slice x n c] w fun e w' => e = .returned (.agg (row .u8 (derL k (wordL ws ++ m)))) ∧ Below w.heap.size w w' := by
 have hk0 := Holds.new w .u8 23 k
 have HML : Veil (n = m.length ∧ (wordL ws).length = ws.size) := ⟨hm.len_eq, wordL_length ws⟩
 obtain ⟨Z, hZl, hZ⟩ : ∃ Z : List Int, Z.length = 32 ∧ Z = List.replicate 32 0 := ⟨_, rfl, rfl⟩
 have hr0 := Holds.new (w.alloc (.cells (row .u8 k) 23)) .u8 23 Z
 rw [World.size_alloc] at hr0
 have hk1 := hk0.alloc (.cells (row .u8 Z) 23)
 have hB : Below w.heap.size w ((w.alloc (.cells (row .u8 k) 23)).alloc (.cells (row .u8 Z) 23)) := ((Below.refl _ _).alloc (Nat.le_refl _) _).alloc (by simp) _
 go_enter Tryz.func32, Tryz.ntmps32
 go_upto_region 1 with fail
 refine forget (p := fun y => Code.wp _ _ _ _ y) (fun W => Below w.heap.size w W ∧ Holds W w.heap.size .u8 23 k ∧ Holds W (w.heap.size + 1) .u8 23 Z) ⟨by rw [hZ] at hB; exact hB, by rw [hZ] at hk1; exact hk1, by rw [hZ] at hr0 ⊢; exact hr0⟩ ?_
 clear hB hk1 hr0 hk0 hZ
 rintro W ⟨hB, hk0, hr0⟩
 have uK : Tryz.prog.underlying 23 = _ := Tryz.underlying23
 have iK : (Tryz.prog.info? 23).map (·.size) = some (k.map (Value.int .u8)).length := by rw [List.length_map, hk]; exact sizeKeyD
 have HK : ∀ W' : World, Holds W' w.heap.size .u8 23 k → W'.rangeAt w.heap.size 0 (k.map (Value.int .u8)) := fun W' h => by
  have := h.cellsAt.range 0 32
  rw [List.drop_zero, List.take_of_length_le (by simp [hk])] at this
  exact this
 refine wp_region_gate (fun w' => w'.rangeAt w.heap.size 0 (k.map (Value.int .u8))) 5 (by kernel_rfl) ?_
 have hS := HK W.drew hk0
 refine wpAnyG_load (i := 0) (dst := some 12) (ty := 23) (x := .tmp 3) (b := w.heap.size) (o := (0)) (cs := (k.map (Value.int .u8))) (by kernel_rfl) (by kernel_rfl) (by kernel_rfl) (by kernel_rfl) (by kernel_rfl) (fun _ _ _ h => h) (by kernel_rfl) (by kernel_rfl) (by kernel_rfl) hS (by kernel_rfl) (fun _ h => h) uK rfl iK ?_
 simp only [Act.put, gA, gS, gZ, sI, sZ, sS]
 refine gaA 1 _ hS ?_
 simp only [Act.put, gA, gS, gZ, sI, sZ, sS]
 refine gaA 3 _ hS ?_
 simp only [Act.put, gA, gS, gZ, sI, sZ, sS]
 refine wpAnyG_one (i := 2) rfl (by kernel_rfl) (by kernel_rfl) (fun K hK => ?_)
 obtain ⟨c2, W2, hrun2, hc2, hcm2, hrow2, hB2, hs2⟩ := conv_word2 ws W.drew hws
 refine wpx_conv _ _ _ rfl _ _ _ rfl hrun2 ?_
 have hb02 : Below W.heap.size W W2 := Below.trans (Below.refl _ W).drew hB2
 have hk2 := hk0.below hb02 hk0.lt
 have hr2 := hr0.below hb02 hr0.lt
 have hBw2 : Below w.heap.size w W2 := hB.trans (hb02.mono hB.size)
 have hg2w : w.heap.size + 1 < W.drew.heap.size := hr0.lt
 obtain ⟨g2, hg2⟩ : ∃ g2, W.drew.heap.size = g2 := ⟨_, rfl⟩
 rw [hg2] at hrow2 hs2 hg2w ⊢
 clear hrun2 hB2 hb02 hk0 hr0 hB hg2
 replace hS := HK W2 hk2
 refine hK.out _ _ (fun _ => hS) ?_
 clear hK K
 try simp only [Act.put, gA, gS, gZ, sI, sZ, sS]
 refine wpAnyG_one (i := 4) rfl (by kernel_rfl) (by kernel_rfl) (fun K hK => ?_)
 obtain ⟨x3, n3, c3, W3, hrun3, hb3, hB3⟩ := app_word ws W2 g2 c2 _ hrow2 hc2 hcm2 x n c m (hm.below hBw2) hn hws (fun b off hx hn0 => by
  rcases hm.at_ with h0 | ⟨b', off', hx', hcs⟩
  · omega
  · rw [hx] at hx'; cases hx'
    have := block_lt_of_cell (hcs 0 hn0)
    simp at this
    omega)
 refine wpx_app _ _ _ _ rfl _ _ _ _ rfl rfl hrun3 ?_
 have hk3 := hk2.below hB3 (by omega)
 have hr3 := hr2.below hB3 (by omega)
 have hBw3 : Below w.heap.size w W3 := hBw2.trans (hB3.mono (by omega))
 replace hS := HK W3 hk3
 refine hK.out _ _ (fun _ => hS) ?_
 clear hK K
 try simp only [Act.put, gA, gS, gZ, sI, sZ, sS]
 have hn3 : n3 ≤ 100000 := by have := hb3.len_eq; rw [List.length_append] at this; have := HML.out; omega
 have he := rexpandK_any k x3 n3 c3 _ W3 hk hb3 hn3
 clear hk2 hr2 hrow2 hrun3 hb3 hB3
 refine wpAnyG_one (i := 5) rfl (by kernel_rfl) (by kernel_rfl) (fun K hK => ?_)
 refine wpx_call _ _ (by kernel_rfl) (he.mono ?_)
 rintro e W6 ⟨x6, c6, rfl, hby, hb6⟩
 refine ⟨_, rfl, ?_⟩
 have hB6 := hBw3.trans (hb6.mono hBw3.size)
 have hr6 := hr3.below hb6 hr3.lt
 refine hK.out _ _ (fun h => absurd (show true = false from h) (by decide)) ?_
 clear hK K
 try simp only [Act.put, gA, gS, gZ, sI, sZ, sS]
 refine wpAnyG_any (i := 6) (v := ?_) rfl (by kernel_rfl) (by kernel_rfl) (by kernel_rfl) (fun _ _ _ h => h) (by kernel_rfl) (fun h => absurd (show true = false from h) (by decide)) (by kernel_rfl) ?_ ?_
 rotate_left
 · intro _; go_simp; try with_reducible rfl
 simp only [Act.put, gA, gS, gZ, sI, sZ, sS]
 refine wpAnyG_any (i := 7) (v := ?_) rfl (by kernel_rfl) (by kernel_rfl) (by kernel_rfl) (fun _ _ _ h => h) (by kernel_rfl) (fun h => absurd (show true = false from h) (by decide)) (by kernel_rfl) ?_ ?_
 rotate_left
 · intro _; go_simp; try with_reducible rfl
 simp only [Act.put, gA, gS, gZ, sI, sZ, sS]
 refine wpAnyG_any (i := 8) (v := ?_) rfl (by kernel_rfl) (by kernel_rfl) (by kernel_rfl) (fun _ _ _ h => h) (by kernel_rfl) (fun h => absurd (show true = false from h) (by decide)) (by kernel_rfl) ?_ ?_
 rotate_left
 · intro _; go_simp; try with_reducible rfl
 simp only [Act.put, gA, gS, gZ, sI, sZ, sS]
 refine wpAnyG_any (i := 9) (v := ?_) rfl (by kernel_rfl) (by kernel_rfl) (by kernel_rfl) (fun _ _ _ h => h) (by kernel_rfl) (fun h => absurd (show true = false from h) (by decide)) (by kernel_rfl) ?_ ?_
 rotate_left
 · intro _; go_simp; try with_reducible rfl
 simp only [Act.put, gA, gS, gZ, sI, sZ, sS]
 refine wpAnyG_any (i := 10) (v := ?_) rfl (by kernel_rfl) (by kernel_rfl) (by kernel_rfl) (fun _ _ _ h => h) (by kernel_rfl) (fun h => absurd (show true = false from h) (by decide)) (by kernel_rfl) ?_ ?_
 rotate_left
 · intro _; go_simp; try with_reducible rfl
 simp only [Act.put, gA, gS, gZ, sI, sZ, sS]
 refine wpAnyG_done (by kernel_rfl) ?_ _
 have hdl := derL_length k (wordL ws ++ m)
 obtain ⟨DK, hDK⟩ : ∃ q, derL k (wordL ws ++ m) = q := ⟨_, rfl⟩
 have HDK := Veil.mk hDK
 rw [hDK] at hby hdl
 obtain ⟨g6, o6, rfl, hcs6⟩ : ∃ b off, x6 = some ⟨b, off, none⟩ ∧ ∀ j, j < 32 → W6.cell? ⟨b, off + j, none⟩ = some (.int .u8 (DK[j]?.getD 0)) := by
  rcases hby.at_ with h0 | h
  · omega
  · exact h
 have HDL := Veil.mk hdl
 have hl6 : w.heap.size + 1 < W6.heap.size := hr6.lt
 clear hDK he hk3 hr3 hS hBw3 hb6 iK uK HK hdl
 go_upto_region 3 with fail
 have hbn : Below W6.heap.size W6 (W6.alloc (.cells (row .u8 (List.replicate 32 0)) 23)) := (Below.refl _ _).alloc (Nat.le_refl _) _
 have hgn := Holds.new W6 .u8 23 (List.replicate 32 0)
 refine forget (p := fun y => Code.wp _ _ _ _ y) (fun V => Below w.heap.size w V ∧ Holds V (w.heap.size + 1) .u8 23 Z ∧ Bytes V (some ⟨g6, o6, none⟩) 32 c6 DK ∧ Holds V W6.heap.size .u8 23 (List.replicate 32 0)) ⟨hB6.trans (hbn.mono hB6.size), hr6.below hbn hr6.lt, hby.below hbn, hgn⟩ ?_
 have hg6l : g6 ≠ W6.heap.size := fun e => by
  have := block_lt_of_cell (hcs6 0 (by omega))
  simp at this
  omega
 obtain ⟨G, hG⟩ : ∃ q, W6.heap.size = q := ⟨_, rfl⟩
 rw [hG] at hl6 hg6l ⊢
 clear hbn hby hr6 hB6 hG hgn hcs6
 rintro V ⟨hB, hr, hb, hg⟩
 go_wp2_with fail
 go_loopw [10] (fun iv wr => ∃ i : Nat, i ≤ 32 ∧ iv = .int .i64 i ∧ Below w.heap.size w wr ∧ Holds wr (w.heap.size + 1) .u8 23 Z ∧ Bytes wr (some ⟨g6, o6, none⟩) 32 c6 DK ∧ Holds wr G .u8 23 (DK.take i ++ List.replicate (32 - i) 0)) (fun iv _ => 32 - (intOf iv).toNat)
 case atStart => exact ⟨0, by omega, rfl, hB, hr, hb, by rw [List.take_zero, List.nil_append]; exact hg⟩
 case round =>
  clear hB hr hb hg
  obtain ⟨i, hi, rfl, hB, hr, hb, hg⟩ := hrel
  by_cases hlt : i < 32
  · have hcap := hb.le
    have hc1 : wr.cell? ⟨g6, o6 + i, none⟩ = some (.int .u8 (DK[i]?.getD 0)) := by
     rcases hb.at_ with h0 | ⟨b', off', hx', hcs⟩
     · omega
     · cases hx'
       exact hcs i hlt
    have hgl : (DK.take i ++ List.replicate (32 - i) 0).length = 32 := by rw [List.length_append, List.length_take, List.length_replicate, HDL.out]; omega
    have hc2 := hg.cell i (by omega)
    have hf2 := hg.frozen i
    have hi0 : (0 : Int) ≤ (i : Int) := by omega
    have hi1 : (i : Int) < 32 := by omega
    have HST : Veil ((DK.take i ++ List.replicate (32 - i) 0).set i (DK[i]?.getD 0) = DK.take (i + 1) ++ List.replicate (32 - (i + 1)) 0) := ⟨by
     have hl := HDL.out
     rw [take_next DK i (by omega), show 32 - i = (32 - (i + 1)) + 1 by omega]
     have := set_next (DK.take i) (32 - (i + 1)) (DK[i]?.getD 0)
     rw [List.length_take, show min i DK.length = i by omega] at this
     exact this⟩
    obtain ⟨q, hq⟩ : ∃ q, DK[i]?.getD 0 = q := ⟨_, rfl⟩
    rw [hq] at hc1 HST
    have hs1 := hg.set i q
    rw [HST.out] at hs1
    have hr1 := hr.setOther ⟨G, i, none⟩ (.int .u8 q) (by simp; omega)
    have hb1 : Bytes (wr.setCell ⟨G, i, none⟩ (.int .u8 q)) (some ⟨g6, o6, none⟩) 32 c6 DK := ⟨hb.len_eq, hb.le, hb.top, hb.nil, by
     rcases hb.at_ with h0 | ⟨b', off', hx', hcs⟩
     · exact .inl h0
     · cases hx'
       exact .inr ⟨_, _, rfl, fun j hj => by rw [World.cell?_of_block (w := wr) (Below.heap_setCell wr _ _ _ hg6l)]; exact hcs j hj⟩⟩
    have hB1 := hB.setCell (p := ⟨G, i, none⟩) (by show w.heap.size ≤ G; omega) (.int .u8 q)
    clear hq hb HST
    go_wp2
    go_roundw
    case rel => exact ⟨i + 1, by omega, by go_num, hB1, hr1, hb1, hs1⟩
    case measure => simp [intOf]; omega
  · obtain rfl : i = 32 := by omega
    have hl := HDL.out
    rw [show DK.take 32 ++ List.replicate (32 - 32) 0 = DK by rw [List.take_of_length_le (by omega)]; simp] at hg
    go_wp2_with (first
     | (refine wpList_ld rfl 23 _ rfl _ rfl hg Tryz.underlying23 sizeKeyD hl ?_)
     | (refine wpList_st rfl 23 _ _ rfl _ rfl rfl hr (by rw [hl]; exact sizeKeyD) (by rw [hZl, hl]) ?_))
    refine bodyPost_ret (results_holds (Tryz.results32) _ rfl (hr.setRow _) Tryz.underlying23 sizeKeyD hl) rfl ⟨?_, ?_⟩
    · rw [HDK.out]
    · exact below_setRow hB (by omega) _
def rringC (own : Int) (seed : List Int) (v : Value) : List Value := [.int .u8 own] ++ seed.map (Value.int .u8) ++ [v]
theorem rringC_seed (own : Int) (seed : List Int) (v : Value) (hs : seed.length = 32) : ((rringC own seed v).drop 1).take 32 = seed.map (Value.int .u8) := by
 show (seed.map (Value.int .u8) ++ [v]).take 32 = _
 rw [List.take_left' (by simp [hs])]
theorem rringC_list (own : Int) (seed : List Int) (v : Value) (hs : seed.length = 32) : (rringC own seed v)[33]? = some v := by
 show (seed.map (Value.int .u8) ++ [v])[32]? = _
 rw [List.getElem?_append_right (by simp [hs])]; simp [hs]
theorem rringC_set (own : Int) (seed : List Int) (v v' : Value) (hs : seed.length = 32) : (rringC own seed v).set 33 v' = rringC own seed v' := by
 show (([.int .u8 own] : List Value) ++ seed.map (Value.int .u8) ++ [v]).set 33 v' = _
 rw [List.set_append_right _ _ (by simp [hs])]
 simp [hs, rringC]
section
variable (H : Nat) (own : Int) (seed : List Int) (v : Value) (w : World)
set_option maxHeartbeats 4000000 in
theorem refPair_any (p q : Int) (hR : CellsAt w H 69 (rringC own seed v)) (hs32 : seed.length = 32) :
    Calls Tryz.prog 41 #[.pointer (some ⟨H, 0, none⟩), .int .u8 p, .int .u8 q] w fun e w' => e = .returned (.agg (row .u8 (pairL seed p q))) ∧ Below w.heap.size w w' := by
 obtain ⟨Z, hZl, hZ⟩ : ∃ Z : List Int, Z.length = 32 ∧ Z = List.replicate 32 0 := ⟨_, rfl, rfl⟩
 have hB : Below w.heap.size w (w.alloc (.cells (row .u8 Z) 23)) := (Below.refl _ _).alloc (Nat.le_refl _) _
 have hr0 := Holds.new w .u8 23 Z
 have hPl : (pairL seed p q).length = 32 := derL_length _ _
 have HD : Veil (∀ W : World, Calls Tryz.prog 32 #[.agg (row .u8 seed), .string ⟨#[112, 97, 105, 114]⟩, .slice (some ⟨W.heap.size, 0, none⟩) 2 2] (W.alloc (.cells (row .u8 [minB p q, maxB p q]) 5)) fun e w' => e = .returned (.agg (row .u8 (pairL seed p q))) ∧ Below (W.alloc (.cells (row .u8 [minB p q, maxB p q]) 5)).heap.size (W.alloc (.cells (row .u8 [minB p q, maxB p q]) 5)) w') := ⟨fun W => rderive_any seed ⟨#[112, 97, 105, 114]⟩ _ 2 2 [minB p q, maxB p q] _ hs32 (by decide) (newB W [minB p q, maxB p q] 2 rfl (by simp)) (by omega)⟩
 obtain ⟨PL, hPL⟩ : ∃ z, pairL seed p q = z := ⟨_, rfl⟩
 rw [hPL] at HD hPl
 have HPL := Veil.mk hPL
 obtain ⟨mn, hmn⟩ : ∃ z, minB p q = z := ⟨_, rfl⟩
 obtain ⟨mx, hmx⟩ : ∃ z, maxB p q = z := ⟨_, rfl⟩
 rw [hmn, hmx] at HD
 have hmn' : (if q < p then q else p) = mn := hmn
 have hmx' : (if p < q then q else p) = mx := hmx
 clear hPL hmn hmx
 by_cases hpq : q < p
 · have em : mn = q := by rw [← hmn', if_pos hpq]
   have ex : mx = p := by rw [← hmx', if_neg (by omega)]
   rw [em, ex] at HD
   clear hmn' hmx' em ex
   go_enter Tryz.func41, Tryz.ntmps41
   go_upto_region 5 with fail
   refine forget (p := fun y => Code.wp _ _ _ _ y) (fun W => Below w.heap.size w W ∧ CellsAt W H 69 (rringC own seed v) ∧ Holds W w.heap.size .u8 23 Z) ⟨by rw [hZ] at hB; exact hB, by rw [hZ] at hB; exact hR.congr (hB.block _ hR.lt), by rw [hZ] at hr0 ⊢; exact hr0⟩ ?_
   clear hB hr0 hZ
   rintro W ⟨hB, hR0, hr0⟩
   have rS := hR0.range 1 32
   rw [rringC_seed _ _ _ hs32] at rS
   have iK : (Tryz.prog.info? 23).map (·.size) = some (seed.map (Value.int .u8)).length := by rw [List.length_map, hs32]; exact sizeKeyD
   have hd := HD.out W
   have hB2 := hB.alloc hB.size (.cells (row .u8 [q, p]) 5)
   have hr2 := hr0.alloc (.cells (row .u8 [q, p]) 5)
   clear hR0
   go_wp2_with (first
    | (refine wpList_ldv rfl 23 _ rfl _ _ rfl (seed.map (Value.int .u8)) rS Tryz.underlying23 rfl iK ?_)
    | (go_at_call 32; refine hd.mono ?_; rintro e w1 ⟨rfl, hb1⟩; have hr3 := hr2.below hb1 hr2.lt)
    | (refine wpList_st rfl 23 _ _ rfl _ rfl rfl hr3 (by rw [hPl]; exact sizeKeyD) (by rw [hZl, hPl]) ?_))
   refine bodyPost_ret (results_holds (Tryz.results41) _ rfl (hr3.setRow _) Tryz.underlying23 sizeKeyD hPl) rfl ⟨?_, ?_⟩
   · rw [HPL.out]
   · exact below_setRow (hB2.trans (hb1.mono hB2.size)) (Nat.le_refl _) _
 · have em : mn = p := by rw [← hmn', if_neg hpq]
   have ex : mx = q := by rw [← hmx']; split <;> omega
   rw [em, ex] at HD
   clear hmn' hmx' em ex
   go_enter Tryz.func41, Tryz.ntmps41
   go_upto_region 5 with fail
   refine forget (p := fun y => Code.wp _ _ _ _ y) (fun W => Below w.heap.size w W ∧ CellsAt W H 69 (rringC own seed v) ∧ Holds W w.heap.size .u8 23 Z) ⟨by rw [hZ] at hB; exact hB, by rw [hZ] at hB; exact hR.congr (hB.block _ hR.lt), by rw [hZ] at hr0 ⊢; exact hr0⟩ ?_
   clear hB hr0 hZ
   rintro W ⟨hB, hR0, hr0⟩
   have rS := hR0.range 1 32
   rw [rringC_seed _ _ _ hs32] at rS
   have iK : (Tryz.prog.info? 23).map (·.size) = some (seed.map (Value.int .u8)).length := by rw [List.length_map, hs32]; exact sizeKeyD
   have hd := HD.out W
   have hB2 := hB.alloc hB.size (.cells (row .u8 [p, q]) 5)
   have hr2 := hr0.alloc (.cells (row .u8 [p, q]) 5)
   clear hR0
   go_wp2_with (first
    | (refine wpList_ldv rfl 23 _ rfl _ _ rfl (seed.map (Value.int .u8)) rS Tryz.underlying23 rfl iK ?_)
    | (go_at_call 32; refine hd.mono ?_; rintro e w1 ⟨rfl, hb1⟩; have hr3 := hr2.below hb1 hr2.lt)
    | (refine wpList_st rfl 23 _ _ rfl _ rfl rfl hr3 (by rw [hPl]; exact sizeKeyD) (by rw [hZl, hPl]) ?_))
   refine bodyPost_ret (results_holds (Tryz.results41) _ rfl (hr3.setRow _) Tryz.underlying23 sizeKeyD hPl) rfl ⟨?_, ?_⟩
   · rw [HPL.out]
   · exact below_setRow (hB2.trans (hb1.mono hB2.size)) (Nat.le_refl _) _
end
def rringZ : List Value := rringC 0 (List.replicate 32 0) (.slice none 0 0)
theorem rring_zero : (Tryz.prog.info? 69).map (·.zero) = some (some (.agg rringZ.toArray)) := by kernel_rfl
theorem rring_built (own : Int) (seed : List Int) (hs : seed.length = 32) (w : World) : (Instr.build 69 #[(0, .int .u8 own), (1, .agg (row .u8 seed))]).run Tryz.prog w = .ok (.agg (rringC own seed (.slice none 0 0)).toArray) w := by
 refine run_build w _ _ _ ?_
 rw [built_of rring_zero Tryz.underlying69 (by kernel_rfl) (places := [(0, 1), (1, 32), (33, 1)])]
 rw [fill_cons _ _ [.int .u8 own] 0 0 1 _ _ rfl rfl rfl (by decide), show rringZ.take 0 ++ [.int .u8 own] ++ rringZ.drop (0 + 1) = [Value.int .u8 own] ++ (List.replicate 32 (0 : Int)).map (Value.int .u8) ++ [.slice none 0 0] from rfl]
 rw [fill_cons _ _ (seed.map (Value.int .u8)) 1 1 32 _ _ rfl rfl (by simp [hs]) (Nat.le_of_ble_eq_true rfl), Instr.fill]
 rfl
theorem epoch_info : (Tryz.prog.info? 72).map (fun i => (i.zero, i.size, i.bytes)) = some (some (.agg (dotC 0 0 ++ (List.replicate 32 (0 : Int)).map (Value.int .u8)).toArray), 34, 40) := by kernel_rfl
theorem epoch_zero : (Tryz.prog.info? 72).map (·.zero) = some (some (.agg (dotC 0 0 ++ (List.replicate 32 (0 : Int)).map (Value.int .u8)).toArray)) := by kernel_rfl
def epC (a s : Int) (k : List Int) : List Value := dotC a s ++ k.map (Value.int .u8)
theorem epoch_built (a s : Int) (k : List Int) (hk : k.length = 32) (w : World) : (Instr.build 72 #[(0, .agg (dotC a s).toArray), (1, .agg (row .u8 k))]).run Tryz.prog w = .ok (.agg (epC a s k).toArray) w := by
 refine run_build w _ _ _ ?_
 rw [built_of epoch_zero Tryz.underlying72 (by kernel_rfl) (places := [(0, 2), (2, 32)])]
 rw [fill_cons _ _ (dotC a s) 0 0 2 _ _ rfl rfl rfl (Nat.le_of_ble_eq_true rfl), show (dotC 0 0 ++ (List.replicate 32 (0 : Int)).map (Value.int .u8)).take 0 ++ dotC a s ++ (dotC 0 0 ++ (List.replicate 32 (0 : Int)).map (Value.int .u8)).drop (0 + 2) = dotC a s ++ (List.replicate 32 (0 : Int)).map (Value.int .u8) from rfl]
 rw [fill_cons _ _ (k.map (Value.int .u8)) 1 2 32 _ _ rfl rfl (by simp [hk]) (Nat.le_of_ble_eq_true rfl), Instr.fill]
 show some ((dotC a s ++ k.map (Value.int .u8)) ++ []).toArray = _
 simp [epC]
end Go.Proofs.YtflkhkmejnpapaaGreatDoor
