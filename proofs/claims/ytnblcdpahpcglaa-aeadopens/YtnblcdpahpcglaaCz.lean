/- The reference's 'Xor'. (Written by mkcz.py.) -/
import Derived.Test.YtnblcdpahpcglaaCr
import Derived.Test.YtnblcdpahpcglaaCy
import Derived.Test.YtnblcdpahpcglaaGate2
namespace Go.Proofs.Ytnblcdpahpcglaa
open Go.RowKit
set_option maxRecDepth 20000
set_option linter.unusedSimpArgs false

theorem OwnB.keep {w w' : World} {base : Nat} {v : Value} {z : List Int} (h : OwnB w base v z) (hk : ∀ g, base ≤ g → g < w.heap.size → w'.heap[g]? = w.heap[g]?) : OwnB w' base v z := by
  refine ⟨h.1, ?_⟩
  rcases h.2 with h' | ⟨g, cap, cur, h1, h2, h3, h4⟩
  · exact .inl h'
  · refine .inr ⟨g, cap, cur, h1, h2, ?_, h4⟩
    rw [hk g h2 (Array.getElem?_eq_some_iff.1 h3).1]; exact h3
theorem OwnB.less {w : World} {base base' : Nat} {v : Value} {z : List Int} (h : OwnB w base v z) (hb : base' ≤ base) : OwnB w base' v z := by
  refine ⟨h.1, ?_⟩
  rcases h.2 with h' | ⟨g, cap, cur, h1, h2, h3⟩
  · exact .inl h'
  · exact .inr ⟨g, cap, cur, h1, by omega, h3⟩

set_option maxHeartbeats 4000000 in
theorem refXor_any (k n : List Int) (c : Int) (x : Option Addr) (len cap : Nat) (z : List Int) (w : World) (hk : k.length = 32) (hn : n.length = 12) (hz : Bytes w x len cap z) (hln : len ≤ 1000000) :
    Calls Try.prog 36 #[.agg (row .u8 k), .agg (row .u8 n), .int .u32 c, .slice x len cap] w fun e w' => ∃ v, e = .returned v ∧ OwnB w' w.heap.size v (xorL k n c z) ∧ Below w.heap.size w w' := by
  have hzl := hz.len_eq
  have hle := hz.le
  have htop := hz.top
  have hXl : (xorL k n c z).length = len := by rw [xorL_length, hzl]
  have HX : Veil (∀ i, i < len → (xorL k n c z)[i]?.getD 0 = bits .xor .u8 (z[i]?.getD 0) (strm k n c i)) := ⟨fun i hi => xorL_get _ _ _ _ _ (by omega)⟩
  obtain ⟨XL, hXL⟩ : ∃ X, xorL k n c z = X := ⟨_, rfl⟩
  have HXL : Veil (xorL k n c z = XL) := ⟨hXL⟩
  rw [hXL] at HX hXl
  clear hXL hzl
  go_enter Try.func36, Try.ntmps36
  go_upto_region 3 with fail
  refine forget (p := fun y => Code.wp _ _ _ _ y) (fun W0 => Below w.heap.size w W0 ∧ W0.heap.size = w.heap.size + 1 + 1 + 1 ∧ Holds W0 w.heap.size .u8 23 k ∧ Holds W0 (w.heap.size + 1) .u8 32 n ∧ Holds W0 (w.heap.size + 1 + 1) .u8 69 (List.replicate 64 0)) ⟨?_, by simp, ?_, ?_, ?_⟩ ?_
  · exact (((Below.refl _ _).alloc (Nat.le_refl _) _).alloc (by simp) _).alloc (by simp; omega) _
  · exact ((Holds.new w .u8 23 k).alloc _).alloc _
  · have := (Holds.new (w.alloc (.cells (row .u8 k) 23)) .u8 32 n)
    rw [World.size_alloc] at this
    exact this.alloc _
  · have := (Holds.new ((w.alloc (.cells (row .u8 k) 23)).alloc (.cells (row .u8 n) 32)) .u8 69 (List.replicate 64 0))
    rw [World.size_alloc, World.size_alloc] at this
    exact this
  rintro W0 ⟨hB0, hs0, hK0, hN0, hF0⟩
  go_wp2_with fail
  go_loopw [9, 11] (fun v p wr => ∃ i : Nat, i ≤ len ∧ p = .int .i64 i ∧ OwnB wr (w.heap.size + 1 + 1 + 1) v (XL.take i) ∧ Below w.heap.size w wr ∧ w.heap.size + 1 + 1 + 1 ≤ wr.heap.size ∧ Holds wr w.heap.size .u8 23 k ∧ Holds wr (w.heap.size + 1) .u8 32 n ∧ ∃ bl : List Int, bl.length = 64 ∧ Holds wr (w.heap.size + 1 + 1) .u8 69 bl ∧ (i % 64 ≠ 0 → bl = blockL k n ((c + ((i / 64 : Nat) : Int)) % 4294967296)))
    (fun _ p _ => len - (intOf p).toNat)
  case atStart => exact ⟨0, by omega, rfl, OwnB.nil _ _, hB0, by omega, hK0, hN0, _, by simp, hF0, fun h => absurd rfl h⟩
  case round =>
    clear hB0 hs0 hK0 hN0 hF0
    obtain ⟨i, hi, rfl, hO, hB, hs, hK, hN, bl, hbl, hF, hbe⟩ := hrel
    by_cases hlt : i < len
    · obtain ⟨b, off, hx, hcell⟩ : ∃ b off, x = some ⟨b, off, none⟩ ∧ ∀ j, j < len → w.cell? ⟨b, off + j, none⟩ = some (.int .u8 (z[j]?.getD 0)) := by
        rcases hz.at_ with h0 | h
        · omega
        · exact h
      subst hx
      have hlb : b < w.heap.size := block_lt_of_cell (hcell 0 (by omega))
      have HNX' : ∀ bl : List Int, bl = blockL k n ((c + ((i / 64 : Nat) : Int)) % 4294967296) → (i + 1) % 64 ≠ 0 → bl = blockL k n ((c + (((i + 1) / 64 : Nat) : Int)) % 4294967296) := fun bl h h' => by
        rw [show (i + 1) / 64 = i / 64 by omega]; exact h
      obtain ⟨J, hJ⟩ : ∃ J, i / 64 = J := ⟨_, rfl⟩
      obtain ⟨r, hr⟩ : ∃ r, i % 64 = r := ⟨_, rfl⟩
      have hst : strm k n c i = (blockL k n ((c + (J : Int)) % 4294967296))[r]?.getD 0 := by unfold strm; rw [hJ, hr]
      have hXi := HX.out i hlt
      rw [hst] at hXi
      rw [hJ] at HNX' hbe
      rw [hr] at hbe
      have hbll := blockL_length k n ((c + (J : Int)) % 4294967296)
      have hrb := fun wx => refBlock_any k n ((c + (J : Int)) % 4294967296) wx hk hn
      obtain ⟨BL, hBLe⟩ : ∃ B, blockL k n ((c + (J : Int)) % 4294967296) = B := ⟨_, rfl⟩
      rw [hBLe] at HNX' hbe hXi hbll hrb
      have HNX : Veil ((i + 1) % 64 ≠ 0 → BL = blockL k n ((c + (((i + 1) / 64 : Nat) : Int)) % 4294967296)) := ⟨HNX' BL rfl⟩
      obtain ⟨ZV, hZV⟩ : ∃ x, z[i]?.getD 0 = x := ⟨_, rfl⟩
      obtain ⟨BV, hBV⟩ : ∃ x, BL[r]?.getD 0 = x := ⟨_, rfl⟩
      obtain ⟨XV, hXV⟩ : ∃ x, bits .xor .u8 ZV BV = x := ⟨_, rfl⟩
      have hcb := hcell i hlt
      rw [hZV] at hcb hXi
      rw [hBV, hXV] at hXi
      obtain ⟨zs, hzs⟩ : ∃ x, XL.take i = x := ⟨_, rfl⟩
      have hzl : zs.length = i := by rw [← hzs, List.length_take]; omega
      have HZS : Veil (zs ++ [XV] = XL.take (i + 1)) := ⟨by rw [take_next XL i (by omega), hzs, hXi]⟩
      rw [hzs] at hO
      have r1 : (i : Int) % 64 = (r : Int) := by omega
      have r2 : (i : Int).tmod 64 = (r : Int) := by rw [Int.tmod_eq_emod_of_nonneg (by omega)]; exact r1
      have r3 : (r : Int) < 64 := by omega
      have q1 : (i : Int) / 64 = (J : Int) := by omega
      have ii : (i : Int) < (len : Int) := by omega
      have hr64 : r < 64 := by omega
      obtain ⟨CC, hCC⟩ : ∃ X, (c + (J : Int)) % 4294967296 = X := ⟨_, rfl⟩
      have hwJ : (J : Int) % 4294967296 = (J : Int) := by omega
      have hBr : BL[r]?.getD 0 = BV := hBV
      clear hst hBLe hZV hBV HNX' hzs hXi hJ
      by_cases h64 : r = 0
      · rw [hCC] at hrb
        have t1 : ((r : Int) == 0) = true := by simp [h64]
        clear hbe hr h64
        go_upto_region 8 with (first
          | (refine wpList_ld rfl 23 _ rfl _ rfl hK Try.underlying23 sizeKey hk ?_)
          | (refine wpList_ld rfl 32 _ rfl _ rfl hN Try.underlying32 sizeNonce hn ?_)
          | (go_at_call 41; refine (hrb _).mono ?_; rintro e w3 ⟨rfl, hb3⟩; have hF3 := hF.below hb3 hF.lt)
          | (refine wpList_st rfl 69 _ _ rfl _ rfl rfl hF3 (by rw [hbll]; exact size64) (by simp [hbl, hbll]) ?_))
        have hsz3 := hb3.size
        refine forget (p := fun y => Code.wp _ _ _ _ y) (fun W4 => Below w.heap.size w W4 ∧ w.heap.size + 1 + 1 + 1 ≤ W4.heap.size ∧ Holds W4 w.heap.size .u8 23 k ∧ Holds W4 (w.heap.size + 1) .u8 32 n ∧ Holds W4 (w.heap.size + 1 + 1) .u8 69 BL ∧ OwnB W4 (w.heap.size + 1 + 1 + 1) u9 zs) ⟨below_setRow (hB.trans (hb3.mono hB.size)) (by omega) _, by simp; omega, (hK.below hb3 hK.lt).setRowOther _ (by omega), (hN.below hb3 hN.lt).setRowOther _ (by omega), hF3.setRow _, hO.keep (fun g h1 h2 => by rw [setRow_other _ _ _ _ (by omega)]; exact hb3.block g h2)⟩ ?_
        clear hF3 hb3 hsz3 hB hs hK hN hF hO hrb hCC hwJ hbl
        rintro W4 ⟨hB4, hsz4, hK4, hN4, hF4, hO4⟩
        simp only [Act.put]
        have hBl4 := hbll
        have cb : W4.cell? ⟨b, off + i, none⟩ = some (.int .u8 ZV) := (hB4.cell (p := ⟨b, off + i, none⟩) hlb).trans hcb
        have cB : W4.cell? ⟨w.heap.size + 1 + 1, r, none⟩ = some (.int .u8 BV) := by rw [← hBr]; exact hF4.cell r (by omega)
        clear hcb hcell
        refine wp_region_gate (fun w' => w'.cell? ⟨b, off + i, none⟩ = some (.int .u8 ZV) ∧ w'.cell? ⟨w.heap.size + 1 + 1, r, none⟩ = some (.int .u8 BV)) 12 (by kernel_rfl) ?_
        have keepS : ∀ w' : World, Below (w.heap.size + 1 + 1 + 1) W4 w' → (w'.cell? ⟨b, off + i, none⟩ = some (.int .u8 ZV) ∧ w'.cell? ⟨w.heap.size + 1 + 1, r, none⟩ = some (.int .u8 BV)) := fun w' hb =>
          ⟨(hb.cell (p := ⟨b, off + i, none⟩) (by show b < _; omega)).trans cb, (hb.cell (p := ⟨w.heap.size + 1 + 1, r, none⟩) (by show w.heap.size + 1 + 1 < _; omega)).trans cB⟩
        have hS := keepS W4.drew (Below.refl _ _).drew
        refine wpAnyG_any (i := 0) (v := ?_) rfl (by kernel_rfl) (by kernel_rfl) (by kernel_rfl) (fun _ _ _ h => h) (by kernel_rfl) (fun _ => hS) (by kernel_rfl) ?_ ?_
        rotate_left
        · intro _; go_simp; try with_reducible rfl
        simp only [Act.put, List.setIfInBounds_toArray, List.set_cons_zero, List.set_cons_succ]
        refine wpAnyG_any (i := 1) (v := ?_) rfl (by kernel_rfl) (by kernel_rfl) (by kernel_rfl) (fun _ _ _ h => h) (by kernel_rfl) (fun _ => hS) (by kernel_rfl) ?_ ?_
        rotate_left
        · intro _; go_simp; try with_reducible rfl
        simp only [Act.put, List.setIfInBounds_toArray, List.set_cons_zero, List.set_cons_succ]
        refine wpAnyG_any (i := 2) (v := ?_) rfl (by kernel_rfl) (by kernel_rfl) (by kernel_rfl) (fun _ _ _ h => h) (by kernel_rfl) (fun _ => hS) (by kernel_rfl) ?_ ?_
        rotate_left
        · intro _; go_simp; try with_reducible rfl
        simp only [Act.put, List.setIfInBounds_toArray, List.set_cons_zero, List.set_cons_succ]
        refine wpAnyG_any (i := 3) (v := ?_) rfl (by kernel_rfl) (by kernel_rfl) (by kernel_rfl) (fun _ _ _ h => h) (by kernel_rfl) (fun _ => hS) (by kernel_rfl) ?_ ?_
        rotate_left
        · intro _; go_simp; try with_reducible rfl
        simp only [Act.put, List.setIfInBounds_toArray, List.set_cons_zero, List.set_cons_succ]
        refine wpAnyG_read (i := 4) (v := ?_) rfl (by kernel_rfl) (by kernel_rfl) (by kernel_rfl) (fun _ _ _ h => h) (by kernel_rfl) (by kernel_rfl) (by kernel_rfl) hS (by kernel_rfl) ?_ ?_
        rotate_left
        · intro wx hSw; go_split_ands; go_simp; try with_reducible rfl
        simp only [Act.put, List.setIfInBounds_toArray, List.set_cons_zero, List.set_cons_succ]
        refine wpAnyG_any (i := 5) (v := ?_) rfl (by kernel_rfl) (by kernel_rfl) (by kernel_rfl) (fun _ _ _ h => h) (by kernel_rfl) (fun _ => hS) (by kernel_rfl) ?_ ?_
        rotate_left
        · intro _; go_simp; try with_reducible rfl
        simp only [Act.put, List.setIfInBounds_toArray, List.set_cons_zero, List.set_cons_succ]
        refine wpAnyG_any (i := 6) (v := .int .i64 (r : Int)) rfl (by kernel_rfl) (by kernel_rfl) (by kernel_rfl) (fun _ _ _ h => h) (by kernel_rfl) (fun _ => hS) (by kernel_rfl) ?_ ?_
        · intro _; go_simp
        simp only [Act.put, List.setIfInBounds_toArray, List.set_cons_zero, List.set_cons_succ]
        refine wpAnyG_any (i := 7) (v := ?_) rfl (by kernel_rfl) (by kernel_rfl) (by kernel_rfl) (fun _ _ _ h => h) (by kernel_rfl) (fun _ => hS) (by kernel_rfl) ?_ ?_
        rotate_left
        · intro _; go_simp; try with_reducible rfl
        simp only [Act.put, List.setIfInBounds_toArray, List.set_cons_zero, List.set_cons_succ]
        refine wpAnyG_read (i := 8) (v := ?_) rfl (by kernel_rfl) (by kernel_rfl) (by kernel_rfl) (fun _ _ _ h => h) (by kernel_rfl) (by kernel_rfl) (by kernel_rfl) hS (by kernel_rfl) ?_ ?_
        rotate_left
        · intro wx hSw; go_split_ands; go_simp; try with_reducible rfl
        simp only [Act.put, List.setIfInBounds_toArray, List.set_cons_zero, List.set_cons_succ]
        refine wpAnyG_any (i := 9) (v := .int .u8 XV) rfl (by kernel_rfl) (by kernel_rfl) (by kernel_rfl) (fun _ _ _ h => h) (by kernel_rfl) (fun _ => hS) (by kernel_rfl) ?_ ?_
        · intro _; go_simp
        simp only [Act.put, List.setIfInBounds_toArray, List.set_cons_zero, List.set_cons_succ]
        refine wpAnyG_one (i := 10) rfl (by kernel_rfl) (by kernel_rfl) (fun K hK => ?_)
        go_simp
        replace hS := keepS (W4.drew.alloc (.cells #[.int .u8 XV] 5)) ((Below.refl _ _).drew.alloc (by simpa using hsz4) _)
        refine hK.out _ _ (fun _ => hS) ?_
        clear hK K
        refine wpAnyG_one (i := 11) rfl (by kernel_rfl) (by kernel_rfl) (fun K hK => ?_)
        have hO5 : OwnB (W4.drew.alloc (.cells #[.int .u8 XV] 5)) (w.heap.size + 1 + 1 + 1) u9 zs := (hO4.keep (fun g _ _ => rfl)).alloc _
        obtain ⟨i0, hi0, hz0, hz1, hz2⟩ := info_parts infoU8
        refine wp_append_own _ (.tmp 29) (.tmp 39) 24 (by kernel_rfl) (w.heap.size + 1 + 1 + 1) 5 i0 (.int .u8 0) 1 1 Try.underlying24 hi0 hz0 hz1 hz2 rfl (by decide) u9 zs.length (zs.map (Value.int .u8)) (by kernel_rfl) hO5 ⟨W4.heap.size, 0, none⟩ 1 1 [.int .u8 XV] (by kernel_rfl) rfl (cell_one_new _ _ _) (by simp [Value.oneCell']) (by simp [maxLen]; omega) (by omega) (by simp; omega) ?_
        intro v' w6 ho6 hgr _
        have hO6 : OwnB w6 (w.heap.size + 1 + 1 + 1) v' (zs ++ [XV]) := OwnB.cast ho6 (by simp) (by simp)
        have hB6 : Below (w.heap.size + 1 + 1 + 1) W4 w6 := below_grown ((Below.refl _ _).drew.alloc (by simpa using hsz4) _) hO5 hgr (by simp; omega)
        clear ho6 hgr hO5 hz0 hz1 hz2
        replace hS := keepS w6 hB6
        refine hK.out _ _ (fun _ => hS) ?_
        clear hK K
        simp only [Act.put, List.setIfInBounds_toArray, List.set_cons_zero, List.set_cons_succ]
        refine wpAnyG_one (i := 12) rfl (by kernel_rfl) (by kernel_rfl) (fun K hK => ?_)
        go_simp
        refine hK.out _ _ (fun h => absurd (show true = false from h) (by decide)) ?_
        clear hK K
        refine wpAnyG_done (by kernel_rfl) ?_ _
        clear hS keepS
        go_wp2
        go_roundw
        case rel =>
          refine ⟨i + 1, by omega, by go_num, ?_, hB4.trans (hB6.mono (by omega)), by have := hB6.size; omega, hK4.below hB6 (by omega), hN4.below hB6 (by omega), BL, hBl4, hF4.below hB6 (by omega), HNX.out⟩
          rw [HZS.out] at hO6
          exact hO6
        case measure => simp [intOf]; omega
      · have hb0 := hbe h64
        subst hb0
        have t1 : ((r : Int) == 0) = false := by simp; omega
        clear hbe hr hrb hCC hwJ
        go_upto_region 8 with fail
        refine forget (p := fun y => Code.wp _ _ _ _ y) (fun W4 => Below w.heap.size w W4 ∧ w.heap.size + 1 + 1 + 1 ≤ W4.heap.size ∧ Holds W4 w.heap.size .u8 23 k ∧ Holds W4 (w.heap.size + 1) .u8 32 n ∧ Holds W4 (w.heap.size + 1 + 1) .u8 69 bl ∧ OwnB W4 (w.heap.size + 1 + 1 + 1) u9 zs) ⟨hB, hs, hK, hN, hF, hO⟩ ?_
        clear hB hs hK hN hF hO h64
        rintro W4 ⟨hB4, hsz4, hK4, hN4, hF4, hO4⟩
        have hBl4 := hbl
        have cb : W4.cell? ⟨b, off + i, none⟩ = some (.int .u8 ZV) := (hB4.cell (p := ⟨b, off + i, none⟩) hlb).trans hcb
        have cB : W4.cell? ⟨w.heap.size + 1 + 1, r, none⟩ = some (.int .u8 BV) := by rw [← hBr]; exact hF4.cell r (by omega)
        clear hcb hcell
        refine wp_region_gate (fun w' => w'.cell? ⟨b, off + i, none⟩ = some (.int .u8 ZV) ∧ w'.cell? ⟨w.heap.size + 1 + 1, r, none⟩ = some (.int .u8 BV)) 12 (by kernel_rfl) ?_
        have keepS : ∀ w' : World, Below (w.heap.size + 1 + 1 + 1) W4 w' → (w'.cell? ⟨b, off + i, none⟩ = some (.int .u8 ZV) ∧ w'.cell? ⟨w.heap.size + 1 + 1, r, none⟩ = some (.int .u8 BV)) := fun w' hb =>
          ⟨(hb.cell (p := ⟨b, off + i, none⟩) (by show b < _; omega)).trans cb, (hb.cell (p := ⟨w.heap.size + 1 + 1, r, none⟩) (by show w.heap.size + 1 + 1 < _; omega)).trans cB⟩
        have hS := keepS W4.drew (Below.refl _ _).drew
        refine wpAnyG_any (i := 0) (v := ?_) rfl (by kernel_rfl) (by kernel_rfl) (by kernel_rfl) (fun _ _ _ h => h) (by kernel_rfl) (fun _ => hS) (by kernel_rfl) ?_ ?_
        rotate_left
        · intro _; go_simp; try with_reducible rfl
        simp only [Act.put, List.setIfInBounds_toArray, List.set_cons_zero, List.set_cons_succ]
        refine wpAnyG_any (i := 1) (v := ?_) rfl (by kernel_rfl) (by kernel_rfl) (by kernel_rfl) (fun _ _ _ h => h) (by kernel_rfl) (fun _ => hS) (by kernel_rfl) ?_ ?_
        rotate_left
        · intro _; go_simp; try with_reducible rfl
        simp only [Act.put, List.setIfInBounds_toArray, List.set_cons_zero, List.set_cons_succ]
        refine wpAnyG_any (i := 2) (v := ?_) rfl (by kernel_rfl) (by kernel_rfl) (by kernel_rfl) (fun _ _ _ h => h) (by kernel_rfl) (fun _ => hS) (by kernel_rfl) ?_ ?_
        rotate_left
        · intro _; go_simp; try with_reducible rfl
        simp only [Act.put, List.setIfInBounds_toArray, List.set_cons_zero, List.set_cons_succ]
        refine wpAnyG_any (i := 3) (v := ?_) rfl (by kernel_rfl) (by kernel_rfl) (by kernel_rfl) (fun _ _ _ h => h) (by kernel_rfl) (fun _ => hS) (by kernel_rfl) ?_ ?_
        rotate_left
        · intro _; go_simp; try with_reducible rfl
        simp only [Act.put, List.setIfInBounds_toArray, List.set_cons_zero, List.set_cons_succ]
        refine wpAnyG_read (i := 4) (v := ?_) rfl (by kernel_rfl) (by kernel_rfl) (by kernel_rfl) (fun _ _ _ h => h) (by kernel_rfl) (by kernel_rfl) (by kernel_rfl) hS (by kernel_rfl) ?_ ?_
        rotate_left
        · intro wx hSw; go_split_ands; go_simp; try with_reducible rfl
        simp only [Act.put, List.setIfInBounds_toArray, List.set_cons_zero, List.set_cons_succ]
        refine wpAnyG_any (i := 5) (v := ?_) rfl (by kernel_rfl) (by kernel_rfl) (by kernel_rfl) (fun _ _ _ h => h) (by kernel_rfl) (fun _ => hS) (by kernel_rfl) ?_ ?_
        rotate_left
        · intro _; go_simp; try with_reducible rfl
        simp only [Act.put, List.setIfInBounds_toArray, List.set_cons_zero, List.set_cons_succ]
        refine wpAnyG_any (i := 6) (v := .int .i64 (r : Int)) rfl (by kernel_rfl) (by kernel_rfl) (by kernel_rfl) (fun _ _ _ h => h) (by kernel_rfl) (fun _ => hS) (by kernel_rfl) ?_ ?_
        · intro _; go_simp
        simp only [Act.put, List.setIfInBounds_toArray, List.set_cons_zero, List.set_cons_succ]
        refine wpAnyG_any (i := 7) (v := ?_) rfl (by kernel_rfl) (by kernel_rfl) (by kernel_rfl) (fun _ _ _ h => h) (by kernel_rfl) (fun _ => hS) (by kernel_rfl) ?_ ?_
        rotate_left
        · intro _; go_simp; try with_reducible rfl
        simp only [Act.put, List.setIfInBounds_toArray, List.set_cons_zero, List.set_cons_succ]
        refine wpAnyG_read (i := 8) (v := ?_) rfl (by kernel_rfl) (by kernel_rfl) (by kernel_rfl) (fun _ _ _ h => h) (by kernel_rfl) (by kernel_rfl) (by kernel_rfl) hS (by kernel_rfl) ?_ ?_
        rotate_left
        · intro wx hSw; go_split_ands; go_simp; try with_reducible rfl
        simp only [Act.put, List.setIfInBounds_toArray, List.set_cons_zero, List.set_cons_succ]
        refine wpAnyG_any (i := 9) (v := .int .u8 XV) rfl (by kernel_rfl) (by kernel_rfl) (by kernel_rfl) (fun _ _ _ h => h) (by kernel_rfl) (fun _ => hS) (by kernel_rfl) ?_ ?_
        · intro _; go_simp
        simp only [Act.put, List.setIfInBounds_toArray, List.set_cons_zero, List.set_cons_succ]
        refine wpAnyG_one (i := 10) rfl (by kernel_rfl) (by kernel_rfl) (fun K hK => ?_)
        go_simp
        replace hS := keepS (W4.drew.alloc (.cells #[.int .u8 XV] 5)) ((Below.refl _ _).drew.alloc (by simpa using hsz4) _)
        refine hK.out _ _ (fun _ => hS) ?_
        clear hK K
        refine wpAnyG_one (i := 11) rfl (by kernel_rfl) (by kernel_rfl) (fun K hK => ?_)
        have hO5 : OwnB (W4.drew.alloc (.cells #[.int .u8 XV] 5)) (w.heap.size + 1 + 1 + 1) u9 zs := (hO4.keep (fun g _ _ => rfl)).alloc _
        obtain ⟨i0, hi0, hz0, hz1, hz2⟩ := info_parts infoU8
        refine wp_append_own _ (.tmp 29) (.tmp 39) 24 (by kernel_rfl) (w.heap.size + 1 + 1 + 1) 5 i0 (.int .u8 0) 1 1 Try.underlying24 hi0 hz0 hz1 hz2 rfl (by decide) u9 zs.length (zs.map (Value.int .u8)) (by kernel_rfl) hO5 ⟨W4.heap.size, 0, none⟩ 1 1 [.int .u8 XV] (by kernel_rfl) rfl (cell_one_new _ _ _) (by simp [Value.oneCell']) (by simp [maxLen]; omega) (by omega) (by simp; omega) ?_
        intro v' w6 ho6 hgr _
        have hO6 : OwnB w6 (w.heap.size + 1 + 1 + 1) v' (zs ++ [XV]) := OwnB.cast ho6 (by simp) (by simp)
        have hB6 : Below (w.heap.size + 1 + 1 + 1) W4 w6 := below_grown ((Below.refl _ _).drew.alloc (by simpa using hsz4) _) hO5 hgr (by simp; omega)
        clear ho6 hgr hO5 hz0 hz1 hz2
        replace hS := keepS w6 hB6
        refine hK.out _ _ (fun _ => hS) ?_
        clear hK K
        simp only [Act.put, List.setIfInBounds_toArray, List.set_cons_zero, List.set_cons_succ]
        refine wpAnyG_one (i := 12) rfl (by kernel_rfl) (by kernel_rfl) (fun K hK => ?_)
        go_simp
        refine hK.out _ _ (fun h => absurd (show true = false from h) (by decide)) ?_
        clear hK K
        refine wpAnyG_done (by kernel_rfl) ?_ _
        clear hS keepS
        go_wp2
        go_roundw
        case rel =>
          refine ⟨i + 1, by omega, by go_num, ?_, hB4.trans (hB6.mono (by omega)), by have := hB6.size; omega, hK4.below hB6 (by omega), hN4.below hB6 (by omega), bl, hBl4, hF4.below hB6 (by omega), HNX.out⟩
          rw [HZS.out] at hO6
          exact hO6
        case measure => simp [intOf]; omega
    · obtain rfl : i = len := by omega
      have hO' : OwnB wr w.heap.size u9 (xorL k n c z) := by
        rw [HXL.out]
        rw [List.take_of_length_le (by omega)] at hO
        exact hO.less (by omega)
      have nle : ¬ ((i : Int) < (i : Int)) := by omega
      go_wp2
      go_ret
      exact ⟨_, rfl, hO', hB⟩
end Go.Proofs.Ytnblcdpahpcglaa
