/- Ch Ci Cx -/
import Derived.Test.YtflkhkmejnpapaaGreatDoorK11
import Derived.Test.YtflkhkmejnpapaaGreatDoorK12
import Derived.Test.YtflkhkmejnpapaaGreatDoorK13
namespace Go.Proofs.YtflkhkmejnpapaaGreatDoor
open Go.RowKit
set_option maxRecDepth 20000
def bytesL (v : Int) : List Int := [v % 256, v / 256 % 256, v / 65536 % 256, v / 16777216 % 256]
def joinK (s : List Int) : Nat → List Int
 | 0 => []
 | k + 1 => joinK s k ++ bytesL (at' s k)
theorem joinK_length (s : List Int) (k : Nat) : (joinK s k).length = 4 * k := by
 induction k with
 | zero => rfl
 | succ k ih => simp only [joinK, List.length_append, ih, bytesL, List.length_cons, List.length_nil]; omega
theorem size64 : (Tryz.prog.info? 98).map (·.size) = some 64 := by kernel_rfl
theorem size1u32 : (Tryz.prog.info? 31).map (·.size) = some 1 := by kernel_rfl
set_option maxHeartbeats 1000000 in
theorem bytes_any (s : List Int) (w : World) (hs : s.length = 16) :
    Calls Tryz.prog 77 #[.agg (row .u32 s)] w fun e w' => e = .returned (.agg (row .u8 (joinK s 16))) ∧ Below w.heap.size w w' := by
 have h0 : ∀ o1 o2, Holds (((w.alloc (.cells (row .u32 s) 113)).alloc o1).alloc o2) w.heap.size .u32 113 s := fun o1 o2 => ((Holds.new w .u32 113 s).alloc o1).alloc o2
 go_enter Tryz.func77, Tryz.ntmps77
 go_wp2_with (refine wpList_ld rfl 113 _ rfl _ rfl (h0 _ _) Tryz.underlying113 sizeState hs ?_)
 refine forget (p := fun y => Code.wp _ _ _ _ y) (fun W0 => Below w.heap.size w W0 ∧ Holds W0 (w.heap.size + 1) .u8 98 (List.replicate 64 0) ∧ Holds W0 (w.heap.size + 1 + 1) .u8 98 (List.replicate 64 0)) ⟨?_, ?_, ?_⟩ ?_
 · exact (((Below.refl _ _).alloc (Nat.le_refl _) _).alloc (by simp) _).alloc (by simp; omega) _
 · have := (Holds.new (w.alloc (.cells (row .u32 s) 113)) .u8 98 (List.replicate 64 0))
   rw [World.size_alloc] at this
   exact this.alloc _
 · have := (Holds.new ((w.alloc (.cells (row .u32 s) 113)).alloc (.cells (row .u8 (List.replicate 64 0)) 98)) .u8 98 (List.replicate 64 0))
   rw [World.size_alloc, World.size_alloc] at this
   exact this
 clear h0
 rintro W0 ⟨hB0, hR0, hb0⟩
 go_loopw [8] (fun i wr => ∃ k : Nat, k ≤ 16 ∧ i = .int .i64 k ∧ Below w.heap.size w wr ∧ Holds wr (w.heap.size + 1) .u8 98 (List.replicate 64 0) ∧ Holds wr (w.heap.size + 1 + 1) .u8 98 (joinK s k ++ List.replicate (64 - 4 * k) 0))
  (fun i _ => 16 - (intOf i).toNat)
 case atStart => exact ⟨0, by omega, rfl, hB0, hR0, hb0⟩
 case round =>
  clear hB0 hR0 hb0
  obtain ⟨k, hk, rfl, hB, hR, hb⟩ := hrel
  by_cases hlt : k < 16
  · have hix := fun wx => run_index_row (P := Tryz.prog) wx 113 31 16 .u32 s k Tryz.underlying113 Tryz.underlying31 size1u32 hs (by omega)
    have hN : Hid (s[k]?.getD 0 = at' s k) := rfl
    obtain ⟨V, hV⟩ : ∃ V, s[k]?.getD 0 = V := ⟨_, rfl⟩
    rw [hV] at hix
    have HV : Hid (at' s k = V) := hV
    clear hV hN
    obtain ⟨I, hI⟩ : ∃ I : Nat, 4 * k = I := ⟨_, rfl⟩
    have hlen : (joinK s k ++ List.replicate (64 - 4 * k) 0).length = 64 := by rw [List.length_append, joinK_length, List.length_replicate]; omega
    have c0 := hb.cell I (by omega)
    have c1 := hb.cell (I + 1) (by omega)
    have c2 := hb.cell (I + 2) (by omega)
    have c3 := hb.cell (I + 3) (by omega)
    have hf := hb.frozen
    have hI' : (k : Int) * 4 = (I : Int) := by omega
    have i4 : (I : Int) + 3 < 64 := by omega
    have i3 : (I : Int) + 2 < 64 := by omega
    have i2 : (I : Int) + 1 < 64 := by omega
    have i1 : (I : Int) < 64 := by omega
    have j1 : IntKind.i64.wrap ((I : Int) + 1) = (I : Int) + 1 := by rw [IntKind.wrap_i64]; omega
    have j2 : IntKind.i64.wrap ((I : Int) + 2) = (I : Int) + 2 := by rw [IntKind.wrap_i64]; omega
    have j3 : IntKind.i64.wrap ((I : Int) + 3) = (I : Int) + 3 := by rw [IntKind.wrap_i64]; omega
    have n1 : (0 : Int) ≤ (I : Int) + 1 := by omega
    have n2 : (0 : Int) ≤ (I : Int) + 2 := by omega
    have n3 : (0 : Int) ≤ (I : Int) + 3 := by omega
    have t1 : ((I : Int) + 1).toNat = I + 1 := by omega
    have t2 : ((I : Int) + 2).toNat = I + 2 := by omega
    have t3 : ((I : Int) + 3).toNat = I + 3 := by omega
    have HI : Hid (4 * k = I) := hI
    clear hI hlen
    go_wp2
    go_roundw
    case rel =>
     have hI := HI.out
     refine ⟨k + 1, by omega, by go_num, (((hB.setCell (by simp; omega) _).setCell (by simp; omega) _).setCell (by simp; omega) _).setCell (by simp; omega) _, (((hR.setOther _ _ (by simp)).setOther _ _ (by simp)).setOther _ _ (by simp)).setOther _ _ (by simp), ?_⟩
     have := (((hb.set I (V % 256)).set (I + 1) (V / 256 % 256)).set (I + 2) (V / 65536 % 256)).set (I + 3) (V / 16777216 % 256)
     rw [show 64 - 4 * k = (64 - 4 * (k + 1)) + 4 by omega, set_four _ _ _ _ _ _ _ (by rw [joinK_length]; exact hI)] at this
     have e : joinK s (k + 1) = joinK s k ++ [V % 256, V / 256 % 256, V / 65536 % 256, V / 16777216 % 256] := by
      show joinK s k ++ bytesL (at' s k) = _
      rw [HV.out]; rfl
     rw [e]
     exact this
    case measure => simp [intOf]; omega
  · obtain rfl : k = 16 := by omega
    have hb' : Holds wr (w.heap.size + 1 + 1) .u8 98 (joinK s 16) := by simpa using hb
    have hl := joinK_length s 16
    obtain ⟨L, hL⟩ : ∃ L, joinK s 16 = L := ⟨_, rfl⟩
    have HL : Hid (joinK s 16 = L) := hL
    rw [hL] at hb' hl
    clear hb hL
    go_wp2_with (first | (refine wpList_ld rfl 98 _ rfl _ rfl hb' Tryz.underlying98 size64 hl ?_) | (refine wpList_st rfl 98 _ _ rfl _ rfl rfl hR (by rw [hl]; exact size64) (by simp [hl]) ?_))
    refine bodyPost_ret (results_holds (Tryz.results77) _ rfl (hR.setRow _) Tryz.underlying98 size64 hl) rfl ⟨by rw [HL.out], ?_⟩
    exact below_setRow hB (by omega) _
def downL (s : List Int) : List Int := qAt (qAt (qAt (qAt s 0 4 8 12) 1 5 9 13) 2 6 10 14) 3 7 11 15
def slantL (s : List Int) : List Int := qAt (qAt (qAt (qAt s 0 5 10 15) 1 6 11 12) 2 7 8 13) 3 4 9 14
theorem downL_length (s : List Int) : (downL s).length = s.length := by simp only [downL, qAt_length]
theorem slantL_length (s : List Int) : (slantL s).length = s.length := by simp only [slantL, qAt_length]
def roundsL (s : List Int) : Nat → List Int
 | 0 => s
 | k + 1 => slantL (downL (roundsL s k))
theorem roundsL_length (s : List Int) (k : Nat) : (roundsL s k).length = s.length := by
 induction k with
 | zero => rfl
 | succ k ih => simp only [roundsL, slantL_length, downL_length, ih]
def addKC (r s : List Int) (k : Nat) : List Int := (List.range 16).map fun i => if i < k then (at' r i + at' s i) % 4294967296 else at' r i
theorem addKC_length (r s : List Int) (k : Nat) : (addKC r s k).length = 16 := by simp [addKC]
theorem addKC_zero (r s : List Int) (h : r.length = 16) : addKC r s 0 = r := by
 apply List.ext_getElem (by simp [addKC, h])
 intro i h1 h2
 simp [addKC, at', h2]
theorem addKC_get (r s : List Int) (k j : Nat) (h : j < 16) : at' (addKC r s k) j = if j < k then (at' r j + at' s j) % 4294967296 else at' r j := by
 simp [addKC, at', h]
theorem addKC_set (r s : List Int) (k : Nat) : (addKC r s k).set k ((at' r k + at' s k) % 4294967296) = addKC r s (k + 1) := by
 apply List.ext_getElem (by simp [addKC])
 intro i h1 h2
 simp only [addKC, List.length_set, List.length_map, List.length_range] at h1
 by_cases hik : k = i
 · subst hik
   simp [addKC]
 · rw [List.getElem_set_ne hik]
   simp only [addKC, List.getElem_map, List.getElem_range]
   by_cases hlt : i < k
   · rw [if_pos hlt, if_pos (by omega)]
   · rw [if_neg hlt, if_neg (by omega)]
def blockW (b : List Int) : List Int := addKC (roundsL b 10) b 16
def blockL (k n : List Int) (c : Int) : List Int := joinK (blockW (beginL k n c)) 16
theorem blockL_length (k n : List Int) (c : Int) : (blockL k n c).length = 64 := joinK_length _ 16
set_option maxHeartbeats 1000000 in
theorem block_any (k n : List Int) (c : Int) (w : World) (hk : k.length = 32) (hn : n.length = 12) :
    Calls Tryz.prog 59 #[.agg (row .u8 k), .agg (row .u8 n), .int .u32 c] w fun e w' => e = .returned (.agg (row .u8 (blockL k n c))) ∧ Below w.heap.size w w' := by
 have hbg := begin_any k n c
 have hBl := beginL_length k n c
 obtain ⟨B, hBe⟩ : ∃ B, beginL k n c = B := ⟨_, rfl⟩
 have HB : Veil (blockL k n c = joinK (blockW B) 16) := ⟨by unfold blockL; rw [hBe]⟩
 rw [hBe] at hbg hBl
 clear hBe
 go_enter Tryz.func59, Tryz.ntmps59
 go_upto_region 1 with fail
 refine forget (p := fun y => Code.wp _ _ _ _ y) (fun W0 => Below w.heap.size w W0 ∧ W0.heap.size = w.heap.size + 1 + 1 + 1 ∧ Holds W0 w.heap.size .u8 23 k ∧ Holds W0 (w.heap.size + 1) .u8 78 n ∧ Holds W0 (w.heap.size + 1 + 1) .u8 98 (List.replicate 64 0)) ⟨?_, by simp, ?_, ?_, ?_⟩ ?_
 · exact (((Below.refl _ _).alloc (Nat.le_refl _) _).alloc (by simp) _).alloc (by simp; omega) _
 · exact ((Holds.new w .u8 23 k).alloc _).alloc _
 · have := (Holds.new (w.alloc (.cells (row .u8 k) 23)) .u8 78 n)
   rw [World.size_alloc] at this
   exact this.alloc _
 · have := (Holds.new ((w.alloc (.cells (row .u8 k) 23)).alloc (.cells (row .u8 n) 78)) .u8 98 (List.replicate 64 0))
   rw [World.size_alloc, World.size_alloc] at this
   exact this
 rintro W0 ⟨hB0, hs0, hK0, hN0, hR0⟩
 go_upto_region 2 with (first
  | (refine wpList_ld rfl 23 _ rfl _ rfl hK0 Tryz.underlying23 sizeKey hk ?_)
  | (refine wpList_ld rfl 78 _ rfl _ rfl hN0 Tryz.underlying78 sizeNonce hn ?_)
  | (go_at_call 74; refine (hbg _ hk hn).mono ?_; rintro e w1 ⟨rfl, hb1⟩; have hF0 := Holds.new w1 .u32 113 (List.replicate 16 0))
  | (refine wpList_st rfl 113 _ _ rfl _ rfl rfl hF0 (by rw [hBl]; exact sizeState) (by simp [hBl]) ?_))
 have hsz1 := hb1.size
 refine forget (p := fun y => Code.wp _ _ _ _ y) (fun W2 => Below w.heap.size w W2 ∧ W2.heap.size = w1.heap.size + 1 ∧ Holds W2 (w.heap.size + 1 + 1) .u8 98 (List.replicate 64 0) ∧ Holds W2 w1.heap.size .u32 113 B) ⟨?_, by simp, ?_, hF0.setRow _⟩ ?_
 · exact below_setRow ((hB0.trans (hb1.mono hB0.size)).alloc (by omega) _) (by omega) _
 · exact ((hR0.below hb1 (by omega)).alloc _).setRowOther _ (by omega)
 clear hF0 hB0 hK0 hN0 hR0 hbg
 rintro W2 ⟨hB2, hs2, hR2, hF2⟩
 have hL0 := Holds.new W2 .u32 113 (List.replicate 16 0)
 rw [hs2] at hL0
 go_upto_region 3 with (first
  | (refine wpList_ld rfl 113 _ rfl _ rfl hF2 Tryz.underlying113 sizeState hBl ?_)
  | (refine wpList_st rfl 113 _ _ rfl _ rfl rfl hL0 (by rw [hBl]; exact sizeState) (by simp [hBl]) ?_))
 refine forget (p := fun y => Code.wp _ _ _ _ y) (fun W3 => Below w.heap.size w W3 ∧ Holds W3 (w.heap.size + 1 + 1) .u8 98 (List.replicate 64 0) ∧ Holds W3 w1.heap.size .u32 113 B ∧ Holds W3 (w1.heap.size + 1) .u32 113 B) ⟨?_, ?_, ?_, ?_⟩ ?_
 · exact below_setRow (hB2.alloc (by omega) _) (by omega) _
 · exact (hR2.alloc _).setRowOther _ (by omega)
 · exact (hF2.alloc _).setRowOther _ (by omega)
 · exact hL0.setRow B
 clear hL0 hB2 hR2 hF2 hs2
 rintro W3 ⟨hB3, hR3, hF3, hL3⟩
 go_wp2_with fail
 go_loopw [15] (fun i wr => ∃ j : Nat, j ≤ 10 ∧ i = .int .i64 j ∧ Below w.heap.size w wr ∧ Holds wr (w.heap.size + 1 + 1) .u8 98 (List.replicate 64 0) ∧ Holds wr w1.heap.size .u32 113 B ∧ Holds wr (w1.heap.size + 1) .u32 113 (roundsL B j))
  (fun i _ => 10 - (intOf i).toNat)
 case atStart => exact ⟨0, by omega, rfl, hB3, hR3, hF3, hL3⟩
 case round =>
  clear hB3 hR3 hF3 hL3
  obtain ⟨j, hj, rfl, hB, hR, hF, hL⟩ := hrel
  by_cases hlt : j < 10
  · have hl : (roundsL B j).length = 16 := by rw [roundsL_length, hBl]
    have HN : Veil (roundsL B (j + 1) = slantL (downL (roundsL B j))) := ⟨rfl⟩
    obtain ⟨S, hS⟩ : ∃ S, roundsL B j = S := ⟨_, rfl⟩
    rw [hS] at hl hL HN
    clear hS
    obtain ⟨D, hD⟩ : ∃ D, downL S = D := ⟨_, rfl⟩
    obtain ⟨T, hT⟩ : ∃ T, slantL D = T := ⟨_, rfl⟩
    have hDl : D.length = 16 := by rw [← hD, downL_length, hl]
    have hd : Calls Tryz.prog 75 #[.pointer (some ⟨w1.heap.size + 1, 0, none⟩)] wr fun e w' => (∃ v, e = .returned v) ∧ Below (w1.heap.size + 1) wr w' ∧ Holds w' (w1.heap.size + 1) .u32 113 D := by
     rw [← hD]
     exact down_any S (w1.heap.size + 1) (w1.heap.size + 1) wr wr hl hL (Nat.le_refl _) (Below.refl _ _)
    have hsl : ∀ wx, Below (w1.heap.size + 1) wr wx → Holds wx (w1.heap.size + 1) .u32 113 D → Calls Tryz.prog 76 #[.pointer (some ⟨w1.heap.size + 1, 0, none⟩)] wx fun e w' => (∃ v, e = .returned v) ∧ Below (w1.heap.size + 1) wr w' ∧ Holds w' (w1.heap.size + 1) .u32 113 T := fun wx hx h => by
     rw [← hT]
     exact slant_any D (w1.heap.size + 1) (w1.heap.size + 1) wx wr hDl h (Nat.le_refl _) hx
    rw [hD, hT] at HN
    clear hD hT hDl
    go_wp2_with (first
     | (go_at_call 75; refine hd.mono ?_; rintro e w4 ⟨⟨v4, rfl⟩, hb4, hL4⟩)
     | (go_at_call 76; refine (hsl _ hb4 hL4).mono ?_; rintro e w5 ⟨⟨v5, rfl⟩, hb5, hL5⟩))
    go_roundw
    case rel => exact ⟨j + 1, by omega, by go_num, hB.trans (hb5.mono (by omega)), hR.below hb5 (by omega), hF.below hb5 (by omega), by rw [HN.out]; exact hL5⟩
    case measure => simp [intOf]; omega
  · obtain rfl : j = 10 := by omega
    have hl : (roundsL B 10).length = 16 := by rw [roundsL_length, hBl]
    obtain ⟨S, hS⟩ : ∃ S, roundsL B 10 = S := ⟨_, rfl⟩
    have HW : Veil (blockW B = addKC S B 16) := ⟨by unfold blockW; rw [hS]⟩
    rw [hS] at hl hL
    clear hS
    have hL0 : Holds wr (w1.heap.size + 1) .u32 113 (addKC S B 0) := by rw [addKC_zero _ _ hl]; exact hL
    clear hL
    go_wp2_with fail
    go_loopw [20] (fun i wr => ∃ j : Nat, j ≤ 16 ∧ i = .int .i64 j ∧ Below w.heap.size w wr ∧ Holds wr (w.heap.size + 1 + 1) .u8 98 (List.replicate 64 0) ∧ Holds wr w1.heap.size .u32 113 B ∧ Holds wr (w1.heap.size + 1) .u32 113 (addKC S B j))
     (fun i _ => 16 - (intOf i).toNat)
    case atStart => exact ⟨0, by omega, rfl, hB, hR, hF, hL0⟩
    case round =>
     clear hB hR hF hL0
     obtain ⟨j, hj, rfl, hB, hR, hF, hL⟩ := hrel
     by_cases hlt2 : j < 16
     · have cF := hF.at j (by omega)
       have cL := hL.at j (by rw [addKC_length]; omega)
       rw [addKC_get S B j j hlt2, if_neg (Nat.lt_irrefl _)] at cL
       have fL := hL.frozen j
       have HA : Veil ((addKC S B j).set j ((at' S j + at' B j) % 4294967296) = addKC S B (j + 1)) := ⟨addKC_set S B j⟩
       obtain ⟨X, hX⟩ : ∃ X, at' S j = X := ⟨_, rfl⟩
       obtain ⟨Y, hY⟩ : ∃ Y, at' B j = Y := ⟨_, rfl⟩
       rw [hX, hY] at HA
       rw [hX] at cL
       rw [hY] at cF
       clear hX hY
       have hji : (j : Int) < 16 := by omega
       have hne : ¬ (w1.heap.size + 1 = w1.heap.size) := by omega
       go_upto_region 11 with fail
       go_region
       all_goals go_wp2
       all_goals go_roundw
       all_goals first
        | (refine ⟨j + 1, by omega, by go_num, (hB.setCell (by simp; omega) _).drew, (hR.setOther _ _ (by simp; omega)).drew, (hF.setOther _ _ (by simp)).drew, ?_⟩; rw [← HA.out]; exact (hL.set j _).drew)
        | (simp [intOf]; omega)
     · obtain rfl : j = 16 := by omega
       have hl2 := addKC_length S B 16
       rw [← HW.out] at hl2 hL
       obtain ⟨V, hV⟩ : ∃ V, blockW B = V := ⟨_, rfl⟩
       have hby := fun wx => bytes_any V wx
       have hjl := joinK_length V 16
       rw [hV] at hl2 hL HB
       obtain ⟨Z, hZ⟩ : ∃ Z, joinK V 16 = Z := ⟨_, rfl⟩
       rw [hZ] at hby hjl HB
       clear hV hZ HW
       go_wp2_with (first
        | (refine wpList_ld rfl 113 _ rfl _ rfl hL Tryz.underlying113 sizeState hl2 ?_)
        | (go_at_call 77; refine (hby _ hl2).mono ?_; rintro e w6 ⟨rfl, hb6⟩; have hR6 := hR.below hb6 hR.lt)
        | (refine wpList_st rfl 98 _ _ rfl _ rfl rfl hR6 (by rw [hjl]; exact size64) (by simp [hjl]) ?_))
       refine bodyPost_ret (results_holds (Tryz.results59) _ rfl (hR6.setRow _) Tryz.underlying98 size64 hjl) rfl ⟨by rw [HB.out], ?_⟩
       exact below_setRow (hB.trans (hb6.mono hB.size)) (by omega) _
def strm (k n : List Int) (c : Int) (i : Nat) : Int := (blockL k n ((c + (i / 64 : Nat)) % 4294967296))[i % 64]?.getD 0
def xorK (k n : List Int) (c : Int) (z : List Int) (i : Nat) : List Int := (List.range z.length).map fun p => if p < i then bits .xor .u8 (z[p]?.getD 0) (strm k n c p) else 0
def xorL (k n : List Int) (c : Int) (z : List Int) : List Int := xorK k n c z z.length
theorem xorK_length (k n : List Int) (c : Int) (z : List Int) (i : Nat) : (xorK k n c z i).length = z.length := by simp [xorK]
theorem xorL_length (k n : List Int) (c : Int) (z : List Int) : (xorL k n c z).length = z.length := xorK_length _ _ _ _ _
theorem xorK_zero (k n : List Int) (c : Int) (z : List Int) : xorK k n c z 0 = List.replicate z.length 0 := by
 apply List.ext_getElem (by simp [xorK])
 intro i h1 h2
 simp [xorK]
theorem xorK_end (k n : List Int) (c : Int) (z : List Int) (i : Nat) (h : z.length ≤ i) : xorK k n c z i = xorL k n c z := by
 unfold xorL xorK
 apply List.map_congr_left
 intro p hp
 have := List.mem_range.1 hp
 rw [if_pos (by omega), if_pos (by omega)]
theorem xorK_set (k n : List Int) (c : Int) (z : List Int) (i : Nat) : (xorK k n c z i).set i (bits .xor .u8 (z[i]?.getD 0) (strm k n c i)) = xorK k n c z (i + 1) := by
 apply List.ext_getElem (by simp [xorK])
 intro p h1 h2
 by_cases hip : i = p
 · subst hip
   simp [xorK]
 · rw [List.getElem_set_ne hip]
   simp only [xorK, List.getElem_map, List.getElem_range]
   by_cases hlt : p < i
   · rw [if_pos hlt, if_pos (by omega)]
   · rw [if_neg hlt, if_neg (by omega)]
set_option maxHeartbeats 1000000 in
theorem xor_any (k n : List Int) (c : Int) (x : Option Addr) (len cap : Nat) (z : List Int) (w : World) (hk : k.length = 32) (hn : n.length = 12) (hc : U32 c) (hz : Bytes w x len cap z) (hln : len ≤ 1000000) :
    Calls Tryz.prog 48 #[.agg (row .u8 k), .agg (row .u8 n), .int .u32 c, .slice x len cap] w fun e w' => ∃ g, e = .returned (.slice (some ⟨g, 0, none⟩) len len) ∧ w.heap.size ≤ g ∧ Holds w' g .u8 5 (xorL k n c z) ∧ Below w.heap.size w w' := by
 have hmk : ∀ wx : World, (Instr.makeSlice 74 (.int .i64 (len : Int)) (.int .i64 (len : Int))).run Tryz.prog wx = .ok (.slice (some ⟨wx.heap.size, 0, none⟩) len len) (wx.alloc (.cells (row .u8 (List.replicate len 0)) 5)) := fun wx => by
  have := run_make_row' (P := Tryz.prog) 74 5 (.int .u8 0) 1 Tryz.underlying74 infoU8 rfl .i64 .i64 len (by omega) (by omega) wx
  rw [made_row] at this
  exact this
 have hzl := hz.len_eq
 have hle := hz.le
 have htop := hz.top
 have HZ : Veil (len = z.length) := ⟨hzl⟩
 clear hzl
 go_enter Tryz.func48, Tryz.ntmps48
 go_upto_region 2 with fail
 refine forget (p := fun y => Code.wp _ _ _ _ y) (fun W0 => Below w.heap.size w W0 ∧ W0.heap.size = w.heap.size + 1 + 1 + 1 ∧ Holds W0 w.heap.size .u8 23 k ∧ Holds W0 (w.heap.size + 1) .u8 78 n ∧ Holds W0 (w.heap.size + 1 + 1) .u8 5 (xorK k n c z 0)) ⟨?_, by simp, ?_, ?_, ?_⟩ ?_
 · exact (((Below.refl _ _).alloc (Nat.le_refl _) _).alloc (by simp) _).alloc (by simp; omega) _
 · exact ((Holds.new w .u8 23 k).alloc _).alloc _
 · have := (Holds.new (w.alloc (.cells (row .u8 k) 23)) .u8 78 n)
   rw [World.size_alloc] at this
   exact this.alloc _
 · have := (Holds.new ((w.alloc (.cells (row .u8 k) 23)).alloc (.cells (row .u8 n) 78)) .u8 5 (List.replicate len 0))
   rw [World.size_alloc, World.size_alloc] at this
   rw [xorK_zero, ← HZ.out]
   exact this
 rintro W0 ⟨hB0, hs0, hK0, hN0, hO0⟩
 clear hmk
 go_wp2_with fail
 go_loopw [2, 10] (fun cv p wr => ∃ j : Nat, 64 * j < len + 64 ∧ cv = .int .u32 ((c + (j : Int)) % 4294967296) ∧ p = .int .i64 ((64 * j : Nat) : Int) ∧ Below w.heap.size w wr ∧ w.heap.size + 1 + 1 + 1 ≤ wr.heap.size ∧ Holds wr w.heap.size .u8 23 k ∧ Holds wr (w.heap.size + 1) .u8 78 n ∧ Holds wr (w.heap.size + 1 + 1) .u8 5 (xorK k n c z (64 * j)))
  (fun _ p _ => len + 64 - (intOf p).toNat)
 case atStart => exact ⟨0, by omega, by congr 1; have := hc.1; have := hc.2; omega, rfl, hB0, by omega, hK0, hN0, hO0⟩
 case round =>
  clear hB0 hs0 hK0 hN0 hO0
  obtain ⟨j, hj, rfl, rfl, hB, hsz, hK, hN, hO⟩ := hrel
  by_cases hlt : 64 * j < len
  · obtain ⟨b, off, hx, hcell⟩ : ∃ b off, x = some ⟨b, off, none⟩ ∧ ∀ j, j < len → w.cell? ⟨b, off + j, none⟩ = some (.int .u8 (z[j]?.getD 0)) := by
     rcases hz.at_ with h0 | h
     · omega
     · exact h
    subst hx
    have hbl := fun wx => block_any k n ((c + (j : Int)) % 4294967296) wx hk hn
    have hbll := blockL_length k n ((c + (j : Int)) % 4294967296)
    obtain ⟨BL, hBL⟩ : ∃ BL, blockL k n ((c + (j : Int)) % 4294967296) = BL := ⟨_, rfl⟩
    have HBL : Veil (blockL k n ((c + (j : Int)) % 4294967296) = BL) := ⟨hBL⟩
    rw [hBL] at hbl hbll
    clear hBL
    obtain ⟨A, hA⟩ : ∃ A : Nat, 64 * j = A := ⟨_, rfl⟩
    have HA : Veil (64 * j = A) := ⟨hA⟩
    obtain ⟨CC, hCC⟩ : ∃ CC, (c + (j : Int)) % 4294967296 = CC := ⟨_, rfl⟩
    have HC : Veil ((c + (j : Int)) % 4294967296 = CC) := ⟨hCC⟩
    rw [hCC] at hbl ⊢
    rw [hA] at hlt hO ⊢
    clear hA hCC
    have hai : (A : Int) < (len : Int) := by omega
    have hs1 : IntKind.i64.wrap ((len : Int) - (A : Int)) = (len : Int) - (A : Int) := by rw [IntKind.wrap_i64]; omega
    go_upto_region 6 with (first
     | (refine wpList_ld rfl 23 _ rfl _ rfl hK Tryz.underlying23 sizeKey hk ?_)
     | (refine wpList_ld rfl 78 _ rfl _ rfl hN Tryz.underlying78 sizeNonce hn ?_)
     | (go_at_call 59; refine (hbl _).mono ?_; rintro e w1 ⟨rfl, hb1⟩; have hF0 := Holds.new w1 .u8 98 (List.replicate 64 0))
     | (refine wpList_st rfl 98 _ _ rfl _ rfl rfl hF0 (by rw [hbll]; exact size64) (by simp [hbll]) ?_))
    have hsz1 := hb1.size
    have hlb : b < w.heap.size := block_lt_of_cell (hcell 0 (by omega))
    refine forget (p := fun y => Code.wp _ _ _ _ y) (fun W2 => Below w.heap.size w W2 ∧ w1.heap.size + 1 ≤ W2.heap.size ∧ Holds W2 w.heap.size .u8 23 k ∧ Holds W2 (w.heap.size + 1) .u8 78 n ∧ Holds W2 (w.heap.size + 1 + 1) .u8 5 (xorK k n c z A) ∧ Holds W2 w1.heap.size .u8 98 BL) ⟨?_, by simp, ?_, ?_, ?_, hF0.setRow _⟩ ?_
    · exact below_setRow ((hB.trans (hb1.mono hB.size)).alloc (by have := hB.size; omega) _) (by have := hB.size; omega) _
    · exact ((hK.below hb1 (by omega)).alloc _).setRowOther _ (by omega)
    · exact ((hN.below hb1 (by omega)).alloc _).setRowOther _ (by omega)
    · exact ((hO.below hb1 (by omega)).alloc _).setRowOther _ (by omega)
    clear hF0 hB hK hN hO hbl
    rintro W2 ⟨hB2, hs2, hK2, hN2, hO2, hF2⟩
    simp only [Act.put]
    go_cut [30, 31] (fun v u wx => ∃ M : Nat, v = .int .i64 M ∧ u = .int .i64 0 ∧ wx = W2 ∧ M ≤ 64 ∧ A + M ≤ len ∧ (M = 64 ∨ A + M = len))
    case first =>
     go_wp2_with fail
     all_goals go_meet
     · exact ⟨len - A, by congr 1; omega, rfl, rfl, by omega, by omega, by omega⟩
     · exact ⟨64, rfl, rfl, rfl, by omega, by omega, by omega⟩
    case rest =>
     obtain ⟨M, rfl, rfl, rfl, hM1, hM2, hM3⟩ := hcut
     have HM3 : Veil (M = 64 ∨ A + M = len) := ⟨hM3⟩
     clear hM3
     go_wp2_with fail
     go_loopw [31] (fun i wr => ∃ r : Nat, r ≤ M ∧ i = .int .i64 r ∧ Below w.heap.size w wr ∧ w1.heap.size + 1 ≤ wr.heap.size ∧ Holds wr w.heap.size .u8 23 k ∧ Holds wr (w.heap.size + 1) .u8 78 n ∧ Holds wr (w.heap.size + 1 + 1) .u8 5 (xorK k n c z (A + r)) ∧ Holds wr w1.heap.size .u8 98 BL)
      (fun i _ => M - (intOf i).toNat)
     case atStart => exact ⟨0, by omega, rfl, hB2, hs2, hK2, hN2, hO2, hF2⟩
     case round =>
      clear hB2 hs2 hK2 hN2 hO2 hF2
      obtain ⟨r, hr, rfl, hB, hs, hK, hN, hO, hF⟩ := hrel
      by_cases hlt3 : r < M
      · have cb : wr.cell? ⟨b, off + (A + r), none⟩ = some (.int .u8 (z[A + r]?.getD 0)) := (hB.cell (p := ⟨b, off + (A + r), none⟩) hlb).trans (hcell (A + r) (by omega))
        have cF := hF.cell r (by omega)
        have cO := hO.cell (A + r) (by rw [xorK_length, ← HZ.out]; omega)
        have fO := hO.frozen (A + r)
        have HX : Veil ((xorK k n c z (A + r)).set (A + r) (bits .xor .u8 (z[A + r]?.getD 0) (BL[r]?.getD 0)) = xorK k n c z (A + r + 1)) := ⟨by
         have := xorK_set k n c z (A + r)
         have e : strm k n c (A + r) = BL[r]?.getD 0 := by
          have hA := HA.out
          unfold strm
          rw [show (A + r) / 64 = j by omega, show (A + r) % 64 = r by omega, HBL.out]
         rw [e] at this
         exact this⟩
        obtain ⟨ZV, hZV⟩ : ∃ v, z[A + r]?.getD 0 = v := ⟨_, rfl⟩
        obtain ⟨BV, hBV⟩ : ∃ v, BL[r]?.getD 0 = v := ⟨_, rfl⟩
        obtain ⟨P, hP⟩ : ∃ P, A + r = P := ⟨_, rfl⟩
        rw [hZV, hBV] at HX
        rw [hZV] at cb
        rw [hBV] at cF
        rw [hP] at HX cb cO fO hO
        have HP : Veil (A + r = P) := ⟨hP⟩
        have p1 : IntKind.i64.wrap ((A : Int) + (r : Int)) = (P : Int) := by rw [IntKind.wrap_i64]; omega
        have p2 : (P : Int) < (len : Int) := by omega
        have p6 : IntKind.i64.wrap (P : Int) = (P : Int) := by rw [IntKind.wrap_i64]; omega
        have p3 : (r : Int) < 64 := by omega
        have p4 : (r : Int) < (M : Int) := by omega
        have nb1 : ¬ (w.heap.size + 1 + 1 = b) := by omega
        have nb2 : ¬ (w.heap.size + 1 + 1 = w1.heap.size) := by omega
        have p5 : (A : Int) + (r : Int) = (P : Int) := by omega
        clear hZV hBV hP
        go_upto_region 9 with fail
        go_region_held3 (fun w' => w'.cell? ⟨b, off + P, none⟩ = some (.int .u8 ZV) ∧ w'.cell? ⟨w1.heap.size, r, none⟩ = some (.int .u8 BV)) (go_keep) (fail)
        go_wp2
        go_roundw
        case rel =>
         have hP := HP.out
         refine ⟨r + 1, by omega, by go_num, (hB.setCell (by simp; omega) _).drew, by simpa using hs, (hK.setOther _ _ (by simp; omega)).drew, (hN.setOther _ _ (by simp)).drew, ?_, (hF.setOther _ _ (by simp; omega)).drew⟩
         rw [← Nat.add_assoc, hP, ← HX.out]
         exact (hO.set P _).drew
        case measure => simp [intOf]; omega
      · obtain rfl : r = M := by omega
        have hM3 := HM3.out
        have hnext : Holds wr (w.heap.size + 1 + 1) .u8 5 (xorK k n c z (64 * (j + 1))) := by
         have hA := HA.out
         have hZ := HZ.out
         rcases hM3 with h | h
         · subst h
           rw [show 64 * (j + 1) = A + 64 by omega]; exact hO
         · rw [xorK_end k n c z (64 * (j + 1)) (by omega), ← xorK_end k n c z (A + r) (by omega)]; exact hO
        clear hM3 hO
        have hj64 : IntKind.i64.wrap ((A : Int) + 64) = (A : Int) + 64 := by rw [IntKind.wrap_i64]; omega
        go_wp2
        go_roundw
        case rel =>
         have hA := HA.out
         have hC := HC.out
         exact ⟨j + 1, by omega, by congr 1; omega, by congr 1; omega, hB, by omega, hK, hN, hnext⟩
        case measure => simp [intOf]; omega
  · rw [xorK_end k n c z (64 * j) (by rw [← HZ.out]; omega)] at hO
    have nle : ¬ (((64 * j : Nat) : Int) < (len : Int)) := by omega
    go_wp2
    go_ret
    exact ⟨_, rfl, by omega, hO, hB⟩
end Go.Proofs.YtflkhkmejnpapaaGreatDoor
