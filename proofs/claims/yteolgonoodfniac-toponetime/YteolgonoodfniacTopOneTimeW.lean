/- The statement TopOneTime, walked. -/
import Derived.Test.YteolgonoodfniacTopOneP
import Derived.Test.YteolgonoodfniacFewT
import Derived.Test.YteolgonoodfniacGate4
namespace Go.Proofs.Yteolgonoodfniac
open Go.RowKit
set_option maxRecDepth 20000
set_option linter.unusedSimpArgs false

set_option maxHeartbeats 4000000 in
theorem onetime_walk (k n : List Int) (x : Option Addr) (len cap : Nat) (z : List Int) (w : World) (hk : k.length = 32) (hn : n.length = 12) (hz : Bytes w x len cap z) (huz : ∀ v ∈ z, 0 ≤ v ∧ v ≤ 255) :
    Calls Try.prog 4 #[.agg (row .u8 k), .agg (row .u8 n), .slice x len cap] w fun e w' => e = .returned (.bool true) ∧ Below w.heap.size w w' := by
  have hf0 := fun wx h => fewT_any x len cap 300 z wx h (by omega) (by omega)
  have hz5 := hz.few 300
  have huz5 : ∀ v ∈ z.take 300, isB v := fun v hv => huz v (List.mem_of_mem_take hv)
  obtain ⟨m, hm⟩ : ∃ m, min len 300 = m := ⟨_, rfl⟩
  obtain ⟨y, hy⟩ : ∃ y, z.take 300 = y := ⟨_, rfl⟩
  have hm5 : m ≤ 300 := by omega
  rw [hm] at hf0 hz5
  rw [hy] at hz5 huz5
  have hf : ∀ wx, Below w.heap.size w wx → Calls Try.prog 11 #[.slice x len cap, .int .i64 300] wx fun e w' => e = .returned (.slice x m cap) ∧ wx = w' := fun wx hb => hf0 wx (hz.below hb)
  clear hm hy hf0 hz huz
  have uK := Try.underlying23
  have uN := Try.underlying33
  have uT := Try.underlying28
  have iK : (Try.prog.info? 23).map (·.size) = some (k.map (Value.int .u8)).length := by rw [List.length_map, hk]; exact sizeKeyP
  have iN : (Try.prog.info? 33).map (·.size) = some (n.map (Value.int .u8)).length := by rw [List.length_map, hn]; kernel_rfl
  have iT : (Try.prog.info? 28).map (·.size) = some ((List.replicate 16 (0 : Int)).map (Value.int .u8)).length := by rw [List.length_map, List.length_replicate]; exact sizeTag
  have hgd : Try.prog.eqGuardType Try.prog.depth 28 = false := guardTag
  -- what is called
  have hblk : ∀ wx, Calls Try.prog 9 #[.agg (List.map (Value.int .u8) k).toArray, .agg (List.map (Value.int .u8) n).toArray, .int .u32 0] wx fun e w' => e = .returned (.agg (row .u8 (blockL k n 0))) ∧ Below wx.heap.size wx w' := fun wx => block_any k n 0 wx hk hn
  have hxor : ∀ (g : Nat) (wx : World), Bytes wx (some ⟨g, 0, none⟩) 64 64 (blockL k n 0) → Calls Try.prog 12 #[.agg (List.map (Value.int .u8) k).toArray, .agg (List.map (Value.int .u8) n).toArray, .int .u32 0, .slice (some ⟨g, 0, none⟩) 64 64] wx fun e w' => ∃ g', e = .returned (.slice (some ⟨g', 0, none⟩) 64 64) ∧ wx.heap.size ≤ g' ∧ Holds w' g' .u8 5 (xorL k n 0 (blockL k n 0)) ∧ Below wx.heap.size wx w' := fun g wx h =>
    xor_any k n 0 (some ⟨g, 0, none⟩) 64 64 (blockL k n 0) wx hk hn ⟨by decide, by decide⟩ h (by omega)
  have hx5 := one_xor k n
  have hXl : (xorL k n 0 (blockL k n 0)).length = 64 := by rw [xorL_length, blockL_length]
  have hSl := blockL_length k n 0
  have hSb := blockL_isB k n 0
  obtain ⟨XL, hXe⟩ : ∃ q, xorL k n 0 (blockL k n 0) = q := ⟨_, rfl⟩
  rw [hXe] at hxor hx5 hXl
  obtain ⟨SS, hSe⟩ : ∃ q, blockL k n 0 = q := ⟨_, rfl⟩
  rw [hSe] at hblk hxor hSl hSb
  clear hXe hSe
  have hOl : (SS.take 32).length = 32 := by rw [List.length_take]; omega
  have hOb : ∀ v ∈ SS.take 32, isB v := fun v hv => hSb v (List.mem_of_mem_take hv)
  have p1 := poly_none (SS.take 32) hOl hOb
  have hs1 : ∀ wx, Calls Try.prog 7 #[.agg (List.map (Value.int .u8) (SS.take 32)).toArray, .slice none 0 0] wx fun e w' => e = .returned (.agg (row .u8 ((SS.take 32).drop 16))) ∧ Below wx.heap.size wx w' := fun wx => by
    have := psum_any (SS.take 32) none 0 0 [] wx hOl (bytes_nil wx) (by omega)
    rw [p1] at this
    exact this
  have HTE : Veil ((SS.take 32).drop 16 = (SS.drop 16).take 16) := ⟨by rw [List.drop_take]⟩
  have hTl : ((SS.take 32).drop 16).length = 16 := by rw [List.length_drop]; omega
  have hcl : ∀ wx, Calls Try.prog 10 #[.agg (List.map (Value.int .u8) (SS.take 32)).toArray] wx fun e w' => e = .returned (.agg (row .u8 (clampL (SS.take 32)))) ∧ Below wx.heap.size wx w' := fun wx => clamp_any (SS.take 32) wx hOl
  have hCl := clampL_length (SS.take 32) hOl
  obtain ⟨c3, c4, hc3, hc4, h30, h31, h40, h41, h42⟩ := clamp_34 (SS.take 32) hOl hOb
  obtain ⟨C, hCe⟩ : ∃ q, clampL (SS.take 32) = q := ⟨_, rfl⟩
  rw [hCe] at hcl hCl hc3 hc4
  obtain ⟨TT, hTe⟩ : ∃ q, (SS.take 32).drop 16 = q := ⟨_, rfl⟩
  rw [hTe] at hs1 HTE hTl
  obtain ⟨ON, hOe⟩ : ∃ q, SS.take 32 = q := ⟨_, rfl⟩
  have HOE : Veil (SS.take 32 = ON) := ⟨hOe⟩
  rw [hOe] at hs1 hcl hOl
  have p2 := poly_zero (List.replicate 32 0) y (by simp) (fun v hv => by have := (List.mem_replicate.1 hv).2; subst this; exact ⟨by omega, by omega⟩) huz5 rfl
  have hs2 : ∀ wx, Below w.heap.size w wx → Calls Try.prog 7 #[.agg (row .u8 (List.replicate 32 0)), .slice x m cap] wx fun e w' => e = .returned (.agg (row .u8 (List.replicate 16 0))) ∧ Below wx.heap.size wx w' := fun wx hx => by
    have := psum_any (List.replicate 32 0) x m cap y wx (by simp) (hz5.below hx) (by omega)
    rw [p2] at this
    exact this
  have hZl : (List.replicate 16 (0 : Int)).length = 16 := by simp
  obtain ⟨ZT, hZT⟩ : ∃ q, List.replicate 16 (0 : Int) = q := ⟨_, rfl⟩
  rw [hZT] at hs2 hZl iT
  have HZT : Veil (List.replicate 16 (0 : Int) = ZT) := ⟨hZT⟩
  have hE : ∀ wx, (Op.equalIn 10000 28 (.agg (List.map (Value.int .u8) ZT).toArray) (.agg (row .u8 ZT))).run Try.prog wx = .ok true wx := fun wx => by
    have := eqTag ZT ZT hZl hZl wx
    rw [beq_self_eq_true] at this
    exact this
  have HCP : Veil (∀ i, i < 32 → (SS.take i ++ List.replicate (31 - i + 1) 0).set i (SS[i]?.getD 0) = SS.take (i + 1) ++ List.replicate (31 - i) 0) := ⟨fun i hi => copyK_setP SS (31 - i) i (by omega)⟩
  clear p1 p2 hCe hTe hOe hOb hSb huz5 hz5 hZT
  go_enter Try.func4, Try.ntmps4
  go_upto_region 1 with fail
  refine forget (p := fun y => Code.wp _ _ _ _ y) (fun W0 => Below w.heap.size w W0 ∧ W0.heap.size = w.heap.size + 1 + 1 ∧ Holds W0 w.heap.size .u8 23 k ∧ Holds W0 (w.heap.size + 1) .u8 33 n) ⟨?_, by simp, ?_, ?_⟩ ?_
  · exact ((Below.refl _ _).alloc (Nat.le_refl _) _).alloc (by simp) _
  · exact (Holds.new w .u8 23 k).alloc _
  · have := (Holds.new (w.alloc (.cells (row .u8 k) 23)) .u8 33 n)
    rw [World.size_alloc] at this
    exact this
  rintro W0 ⟨hB0, hs0, hK0, hN0⟩
  go_upto_region 2 with (first
    | (refine wpList_ld rfl 23 _ rfl _ rfl hK0 uK sizeKeyP hk ?_)
    | (refine wpList_ld rfl 33 _ rfl _ rfl hN0 uN (by kernel_rfl) hn ?_)
    | (go_at_call 9; refine (hblk _).mono ?_; rintro e w1 ⟨rfl, hb1⟩; have hF1 := Holds.new w1 .u8 34 (List.replicate 64 0))
    | (refine wpList_st rfl 34 _ _ rfl _ rfl rfl hF1 (by rw [hSl]; exact size64) (by simp [hSl]) ?_))
  have hl1 : w.heap.size + 1 < w1.heap.size := by have := hb1.size; omega
  refine forget (p := fun y => Code.wp _ _ _ _ y) (fun W2 => Below w.heap.size w W2 ∧ Holds W2 w.heap.size .u8 23 k ∧ Holds W2 (w.heap.size + 1) .u8 33 n ∧ Holds W2 w1.heap.size .u8 34 SS) ⟨below_setRow ((hB0.trans (hb1.mono hB0.size)).alloc (by omega) _) (by omega) _, ((hK0.below hb1 hK0.lt).alloc _).setRowOther _ (by omega), ((hN0.below hb1 hN0.lt).alloc _).setRowOther _ (by omega), hF1.setRow _⟩ ?_
  clear hF1 hb1 hK0 hN0 hB0 hblk hs0
  rintro W2 ⟨hB2, hK2, hN2, hS2⟩
  obtain ⟨sb, hsb⟩ : ∃ q, w1.heap.size = q := ⟨_, rfl⟩
  rw [hsb] at hS2 hl1 ⊢
  clear hsb
  simp only [Act.put]
  have hF2 := Holds.new W2 .u8 23 (List.replicate 32 0)
  have hl2 : sb < W2.heap.size := hS2.lt
  go_upto_region 3 with fail
  refine forget (p := fun y => Code.wp _ _ _ _ y) (fun W3 => Below w.heap.size w W3 ∧ Holds W3 w.heap.size .u8 23 k ∧ Holds W3 (w.heap.size + 1) .u8 33 n ∧ Holds W3 sb .u8 34 SS ∧ Holds W3 W2.heap.size .u8 23 (List.replicate 32 0)) ⟨hB2.alloc hB2.size _, hK2.alloc _, hN2.alloc _, hS2.alloc _, hF2⟩ ?_
  clear hF2 hB2 hK2 hN2 hS2
  rintro W3 ⟨hB3, hK3, hN3, hS3, hO3⟩
  obtain ⟨ob, hob⟩ : ∃ q, W2.heap.size = q := ⟨_, rfl⟩
  rw [hob] at hO3 hl2 ⊢
  clear hob
  go_wp2_with fail
  go_loopw [9] (fun q wr => ∃ i : Nat, i ≤ 32 ∧ q = .int .i64 i ∧ Below w.heap.size w wr ∧ Holds wr w.heap.size .u8 23 k ∧ Holds wr (w.heap.size + 1) .u8 33 n ∧ Holds wr sb .u8 34 SS ∧ Holds wr ob .u8 23 (SS.take i ++ List.replicate (32 - i) 0)) (fun q _ => 32 - (intOf q).toNat)
  case atStart => exact ⟨0, by omega, rfl, hB3, hK3, hN3, hS3, hO3⟩
  case round =>
    clear hB3 hK3 hN3 hS3 hO3
    obtain ⟨i, hi, rfl, hB, hKy, hNy, hSy, hOy⟩ := hrel
    by_cases hlt : i < 32
    · have c1 := hSy.cell i (by omega)
      have hst := HCP.out i hlt
      rw [show 32 - i = 31 - i + 1 by omega] at hOy
      have hAl : (SS.take i ++ List.replicate (31 - i + 1) 0).length = 32 := by rw [List.length_append, List.length_take, List.length_replicate]; omega
      have HS : Veil ((SS.take i ++ List.replicate (31 - i + 1) 0).set i (SS[i]?.getD 0) = SS.take (i + 1) ++ List.replicate (32 - (i + 1)) 0) := ⟨by rw [hst, show 32 - (i + 1) = 31 - i by omega]⟩
      obtain ⟨A, hAe⟩ : ∃ q, SS.take i ++ List.replicate (31 - i + 1) 0 = q := ⟨_, rfl⟩
      rw [hAe] at hOy HS hAl
      have c2 := hOy.cell i (by omega)
      have f2 := hOy.frozen i
      obtain ⟨v, hv⟩ : ∃ q, SS[i]?.getD 0 = q := ⟨_, rfl⟩
      rw [hv] at c1 HS
      have hi0 : (0 : Int) ≤ (i : Int) := by omega
      have hi6 : (i : Int) < 32 := by omega
      have hi64 : (i : Int) < 64 := by omega
      clear hAe hv hst
      go_wp2
      go_roundw
      case rel => exact ⟨i + 1, by omega, by go_num, hB.setCell (by show w.heap.size ≤ ob; omega) _, hKy.setOther _ _ (by simp; omega), hNy.setOther _ _ (by simp; omega), hSy.setOther _ _ (by simp; omega), by rw [← HS.out]; exact hOy.set i _⟩
      case measure => simp [intOf]; omega
    · obtain rfl : i = 32 := by omega
      rw [show ((32 : Nat) : Int) = 32 from rfl]
      have hO4 : Holds wr ob .u8 23 ON := by
        rw [Nat.sub_self, List.replicate_zero, List.append_nil, HOE.out] at hOy; exact hOy
      clear hOy HCP HOE
      go_upto_region 8 with (first
        | (refine wpList_ld rfl 23 _ rfl _ rfl hO4 uK sizeKeyP hOl ?_)
        | (go_at_call 7; refine (hs1 _).mono ?_; rintro e w5 ⟨rfl, hb5⟩; have hF5 := Holds.new w5 .u8 28 (List.replicate 16 0))
        | (refine wpList_st rfl 28 _ _ rfl _ rfl rfl hF5 (by rw [hTl]; exact sizeTag) (by simp [hTl]) ?_))
      have hl5 : ob < w5.heap.size := (hO4.below hb5 hO4.lt).lt
      refine forget (p := fun y => Code.wp _ _ _ _ y) (fun W6 => Below w.heap.size w W6 ∧ Holds W6 w.heap.size .u8 23 k ∧ Holds W6 (w.heap.size + 1) .u8 33 n ∧ Holds W6 sb .u8 34 SS ∧ Holds W6 ob .u8 23 ON ∧ Holds W6 w5.heap.size .u8 28 TT) ⟨below_setRow ((hB.trans (hb5.mono hB.size)).alloc (by omega) _) (by omega) _, ((hKy.below hb5 hKy.lt).alloc _).setRowOther _ (by omega), ((hNy.below hb5 hNy.lt).alloc _).setRowOther _ (by omega), ((hSy.below hb5 hSy.lt).alloc _).setRowOther _ (by omega), ((hO4.below hb5 hO4.lt).alloc _).setRowOther _ (by omega), hF5.setRow _⟩ ?_
      clear hF5 hb5 hB hKy hNy hSy hO4 hs1
      rintro W6 ⟨hB6, hK6, hN6, hS6, hO6, hT6⟩
      obtain ⟨tb, htb⟩ : ∃ q, w5.heap.size = q := ⟨_, rfl⟩
      rw [htb] at hT6 hl5 ⊢
      clear htb
      simp only [Act.put]
      go_upto_region 9 with (first
        | (refine wpList_ld rfl 23 _ rfl _ rfl hO6 uK sizeKeyP hOl ?_)
        | (go_at_call 10; refine (hcl _).mono ?_; rintro e w7 ⟨rfl, hb7⟩; have hF7 := Holds.new w7 .u8 27 (List.replicate 16 0))
        | (refine wpList_st rfl 27 _ _ rfl _ rfl rfl hF7 (by rw [hCl]; exact size16b) (by simp [hCl]) ?_))
      have hl7 : tb < w7.heap.size := (hT6.below hb7 hT6.lt).lt
      refine forget (p := fun y => Code.wp _ _ _ _ y) (fun W8 => Below w.heap.size w W8 ∧ Holds W8 w.heap.size .u8 23 k ∧ Holds W8 (w.heap.size + 1) .u8 33 n ∧ Holds W8 sb .u8 34 SS ∧ Holds W8 tb .u8 28 TT ∧ Holds W8 w7.heap.size .u8 27 C) ⟨below_setRow ((hB6.trans (hb7.mono hB6.size)).alloc (by omega) _) (by omega) _, ((hK6.below hb7 hK6.lt).alloc _).setRowOther _ (by omega), ((hN6.below hb7 hN6.lt).alloc _).setRowOther _ (by omega), ((hS6.below hb7 hS6.lt).alloc _).setRowOther _ (by omega), ((hT6.below hb7 hT6.lt).alloc _).setRowOther _ (by omega), hF7.setRow _⟩ ?_
      clear hF7 hb7 hB6 hK6 hN6 hS6 hO6 hT6 hcl
      rintro W8 ⟨hB8, hK8, hN8, hS8, hT8, hC8⟩
      obtain ⟨cb, hcb⟩ : ∃ q, w7.heap.size = q := ⟨_, rfl⟩
      rw [hcb] at hC8 hl7 ⊢
      clear hcb
      simp only [Act.put]
      go_upto_region 10 with (first
        | (refine wpList_buildO rfl 23 _ rfl (.agg (row .u8 (List.replicate 32 0))) (fun _ => by kernel_rfl) ?_)
        | (go_at_call 11; refine (hf _ hB8).mono ?_; rintro e w' ⟨rfl, rfl⟩)
        | (go_at_call 7; refine (hs2 _ hB8).mono ?_; rintro e w9 ⟨rfl, hb9⟩; have hF9 := Holds.new w9 .u8 28 (List.replicate 16 0))
        | (refine wpList_st rfl 28 _ _ rfl _ rfl rfl hF9 (by rw [hZl]; exact sizeTag) (by simp [hZl]) ?_))
      have hl9 : cb < w9.heap.size := (hC8.below hb9 hC8.lt).lt
      refine forget (p := fun y => Code.wp _ _ _ _ y) (fun W => Below w.heap.size w W ∧ Holds W w.heap.size .u8 23 k ∧ Holds W (w.heap.size + 1) .u8 33 n ∧ Holds W sb .u8 34 SS ∧ Holds W tb .u8 28 TT ∧ Holds W cb .u8 27 C ∧ Holds W w9.heap.size .u8 28 ZT) ⟨below_setRow ((hB8.trans (hb9.mono hB8.size)).alloc (by omega) _) (by omega) _, ((hK8.below hb9 hK8.lt).alloc _).setRowOther _ (by omega), ((hN8.below hb9 hN8.lt).alloc _).setRowOther _ (by omega), ((hS8.below hb9 hS8.lt).alloc _).setRowOther _ (by omega), ((hT8.below hb9 hT8.lt).alloc _).setRowOther _ (by omega), ((hC8.below hb9 hC8.lt).alloc _).setRowOther _ (by omega), hF9.setRow _⟩ ?_
      clear hF9 hb9 hB8 hK8 hN8 hS8 hT8 hC8 hs2 hf
      rintro W ⟨hB, hKw, hNw, hSw, hTw, hCw, hZw⟩
      obtain ⟨zb, hzb⟩ : ∃ q, w9.heap.size = q := ⟨_, rfl⟩
      rw [hzb] at hZw hl9 ⊢
      clear hzb
      simp only [Act.put]
      obtain ⟨SI, hSI⟩ : ∃ s, strOfNums TT = s := ⟨_, rfl⟩
      have keep : ∀ w', Below W.heap.size W w' → w'.rangeAt w.heap.size 0 (k.map (Value.int .u8)) ∧ w'.rangeAt (w.heap.size + 1) 0 (n.map (Value.int .u8)) ∧ w'.rangeAt zb 0 (ZT.map (Value.int .u8)) ∧ (convert 24 9 (.slice (some ⟨tb, 0, none⟩) 16 16)).run Try.prog w' = .ok (.string SI) w' ∧ (convert 24 9 (.slice (some ⟨sb, 16, none⟩) 16 48)).run Try.prog w' = .ok (.string SI) w' ∧ w'.cell? ⟨cb, 3, none⟩ = some (.int .u8 c3) ∧ w'.cell? ⟨cb, 4, none⟩ = some (.int .u8 c4) := fun w' hb => by
        refine ⟨(hKw.below hb hKw.lt).rangeAll, (hNw.below hb hNw.lt).rangeAll, (hZw.below hb hZw.lt).rangeAll, ?_, ?_, ?_, ?_⟩
        · rw [← hSI]; exact conv_bytes ((hTw.below hb hTw.lt).bytes hTl.symm (by omega))
        · rw [← hSI, HTE.out]; exact conv_bytes ((hSw.below hb hSw.lt).mid 16 16 48 (by omega) (by omega) (by omega))
        · rw [← hc3]; exact (hCw.below hb hCw.lt).cell 3 (by omega)
        · rw [← hc4]; exact (hCw.below hb hCw.lt).cell 4 (by omega)
      have hxor' : ∀ wx, Below W.heap.size W wx → Calls Try.prog 12 #[.agg (List.map (Value.int .u8) k).toArray, .agg (List.map (Value.int .u8) n).toArray, .int .u32 0, .slice (some ⟨sb, 0, none⟩) 64 64] wx fun e w' => ∃ g', e = .returned (.slice (some ⟨g', 0, none⟩) 64 64) ∧ wx.heap.size ≤ g' ∧ Holds w' g' .u8 5 XL ∧ Below wx.heap.size wx w' := fun wx hb => hxor sb wx ((hSw.below hb hSw.lt).bytes hSl.symm (by omega))
      have HX5 : Veil (XL[5]?.getD 0 = 0 ∧ XL.length = 64) := ⟨hx5, hXl⟩
      clear hxor hSI HTE hKw hNw hSw hTw hCw hZw hc3 hc4 hx5 hXl hSl hTl hCl hOl
      refine wp_region_gateT (fun w' => w'.rangeAt w.heap.size 0 (k.map (Value.int .u8)) ∧ w'.rangeAt (w.heap.size + 1) 0 (n.map (Value.int .u8)) ∧ w'.rangeAt zb 0 (ZT.map (Value.int .u8)) ∧ (convert 24 9 (.slice (some ⟨tb, 0, none⟩) 16 16)).run Try.prog w' = .ok (.string SI) w' ∧ (convert 24 9 (.slice (some ⟨sb, 16, none⟩) 16 48)).run Try.prog w' = .ok (.string SI) w' ∧ w'.cell? ⟨cb, 3, none⟩ = some (.int .u8 c3) ∧ w'.cell? ⟨cb, 4, none⟩ = some (.int .u8 c4)) (fun _ => True) 38 (by kernel_rfl) ?_
      have hS := trivial
      have hT := keep _ (Below.refl _ _).drew
      refine wpAnyT_held (i := 0) (v := ?_) rfl (by kernel_rfl) (by kernel_rfl) (by kernel_rfl) (fun _ _ _ h => h) (by kernel_rfl) hT (fun _ => hS) (by kernel_rfl) ?_ ?_
      rotate_left
      · intro wx hSw; go_split_ands; go_simp; try with_reducible rfl
      simp only [Act.put, List.setIfInBounds_toArray, List.set_cons_zero, List.set_cons_succ]
      refine wpAnyT_held (i := 2) (v := ?_) rfl (by kernel_rfl) (by kernel_rfl) (by kernel_rfl) (fun _ _ _ h => h) (by kernel_rfl) hT (fun _ => hS) (by kernel_rfl) ?_ ?_
      rotate_left
      · intro wx hSw; go_split_ands; go_simp; try with_reducible rfl
      simp only [Act.put, List.setIfInBounds_toArray, List.set_cons_zero, List.set_cons_succ]
      refine wpAnyT_held (i := 1) (v := ?_) rfl (by kernel_rfl) (by kernel_rfl) (by kernel_rfl) (fun _ _ _ h => h) (by kernel_rfl) hT (fun _ => hS) (by kernel_rfl) ?_ ?_
      rotate_left
      · intro wx hSw; go_split_ands; go_simp; try with_reducible rfl
      simp only [Act.put, List.setIfInBounds_toArray, List.set_cons_zero, List.set_cons_succ]
      refine wpAnyT_held (i := 3) (v := ?_) rfl (by kernel_rfl) (by kernel_rfl) (by kernel_rfl) (fun _ _ _ h => h) (by kernel_rfl) hT (fun _ => hS) (by kernel_rfl) ?_ ?_
      rotate_left
      · intro wx hSw; go_split_ands; go_simp; try with_reducible rfl
      simp only [Act.put, List.setIfInBounds_toArray, List.set_cons_zero, List.set_cons_succ]
      refine wpAnyT_held (i := 4) (v := .bool true) rfl (by kernel_rfl) (by kernel_rfl) (by kernel_rfl) (fun _ _ _ h => h) (by kernel_rfl) hT (fun _ => hS) (by kernel_rfl) ?_ ?_
      · intro wx hSw; go_split_ands; go_simp
      simp only [Act.put, List.setIfInBounds_toArray, List.set_cons_zero, List.set_cons_succ]
      refine wpAnyT_held (i := 5) (v := ?_) rfl (by kernel_rfl) (by kernel_rfl) (by kernel_rfl) (fun _ _ _ h => h) (by kernel_rfl) hT (fun _ => hS) (by kernel_rfl) ?_ ?_
      rotate_left
      · intro wx hSw; go_split_ands; go_simp; try with_reducible rfl
      simp only [Act.put, List.setIfInBounds_toArray, List.set_cons_zero, List.set_cons_succ]
      refine wpAnyT_held (i := 6) (v := ?_) rfl (by kernel_rfl) (by kernel_rfl) (by kernel_rfl) (fun _ _ _ h => h) (by kernel_rfl) hT (fun _ => hS) (by kernel_rfl) ?_ ?_
      rotate_left
      · intro wx hSw; go_split_ands; go_simp; try with_reducible rfl
      simp only [Act.put, List.setIfInBounds_toArray, List.set_cons_zero, List.set_cons_succ]
      refine wpAnyT_held (i := 7) (v := ?_) rfl (by kernel_rfl) (by kernel_rfl) (by kernel_rfl) (fun _ _ _ h => h) (by kernel_rfl) hT (fun _ => hS) (by kernel_rfl) ?_ ?_
      rotate_left
      · intro wx hSw; go_split_ands; go_simp; try with_reducible rfl
      simp only [Act.put, List.setIfInBounds_toArray, List.set_cons_zero, List.set_cons_succ]
      refine wpAnyT_held (i := 8) (v := .bool true) rfl (by kernel_rfl) (by kernel_rfl) (by kernel_rfl) (fun _ _ _ h => h) (by kernel_rfl) hT (fun _ => hS) (by kernel_rfl) ?_ ?_
      · intro wx hSw; go_split_ands; go_simp
      simp only [Act.put, List.setIfInBounds_toArray, List.set_cons_zero, List.set_cons_succ]
      refine wpAnyT_held (i := 9) (v := .bool true) rfl (by kernel_rfl) (by kernel_rfl) (by kernel_rfl) (fun _ _ _ h => h) (by kernel_rfl) hT (fun _ => hS) (by kernel_rfl) ?_ ?_
      · intro wx hSw; go_split_ands; go_simp
      simp only [Act.put, List.setIfInBounds_toArray, List.set_cons_zero, List.set_cons_succ]
      refine wpAnyT_held (i := 10) (v := ?_) rfl (by kernel_rfl) (by kernel_rfl) (by kernel_rfl) (fun _ _ _ h => h) (by kernel_rfl) hT (fun _ => hS) (by kernel_rfl) ?_ ?_
      rotate_left
      · intro wx hSw; go_split_ands; go_simp; try with_reducible rfl
      simp only [Act.put, List.setIfInBounds_toArray, List.set_cons_zero, List.set_cons_succ]
      refine wpAnyT_held (i := 11) (v := ?_) rfl (by kernel_rfl) (by kernel_rfl) (by kernel_rfl) (fun _ _ _ h => h) (by kernel_rfl) hT (fun _ => hS) (by kernel_rfl) ?_ ?_
      rotate_left
      · intro wx hSw; go_split_ands; go_simp; try with_reducible rfl
      simp only [Act.put, List.setIfInBounds_toArray, List.set_cons_zero, List.set_cons_succ]
      refine wpAnyT_held (i := 12) (v := ?_) rfl (by kernel_rfl) (by kernel_rfl) (by kernel_rfl) (fun _ _ _ h => h) (by kernel_rfl) hT (fun _ => hS) (by kernel_rfl) ?_ ?_
      rotate_left
      · intro wx hSw; go_split_ands; go_simp; try with_reducible rfl
      simp only [Act.put, List.setIfInBounds_toArray, List.set_cons_zero, List.set_cons_succ]
      refine wpAnyT_held (i := 13) (v := .int .u8 0) rfl (by kernel_rfl) (by kernel_rfl) (by kernel_rfl) (fun _ _ _ h => h) (by kernel_rfl) hT (fun _ => hS) (by kernel_rfl) ?_ ?_
      · intro wx hSw; go_split_ands; go_simp
      simp only [Act.put, List.setIfInBounds_toArray, List.set_cons_zero, List.set_cons_succ]
      refine wpAnyT_held (i := 14) (v := .bool true) rfl (by kernel_rfl) (by kernel_rfl) (by kernel_rfl) (fun _ _ _ h => h) (by kernel_rfl) hT (fun _ => hS) (by kernel_rfl) ?_ ?_
      · intro wx hSw; go_split_ands; go_simp
      simp only [Act.put, List.setIfInBounds_toArray, List.set_cons_zero, List.set_cons_succ]
      refine wpAnyT_held (i := 15) (v := .bool true) rfl (by kernel_rfl) (by kernel_rfl) (by kernel_rfl) (fun _ _ _ h => h) (by kernel_rfl) hT (fun _ => hS) (by kernel_rfl) ?_ ?_
      · intro wx hSw; go_split_ands; go_simp
      simp only [Act.put, List.setIfInBounds_toArray, List.set_cons_zero, List.set_cons_succ]
      refine wpAnyT_held (i := 16) (v := ?_) rfl (by kernel_rfl) (by kernel_rfl) (by kernel_rfl) (fun _ _ _ h => h) (by kernel_rfl) hT (fun _ => hS) (by kernel_rfl) ?_ ?_
      rotate_left
      · intro wx hSw; go_split_ands; go_simp; try with_reducible rfl
      simp only [Act.put, List.setIfInBounds_toArray, List.set_cons_zero, List.set_cons_succ]
      refine wpAnyT_load (i := 17) (dst := some 50) (ty := 28) (x := .tmp 12) (b := zb) (o := 0) (cs := (ZT.map (Value.int .u8))) (by kernel_rfl) (by kernel_rfl) (by kernel_rfl) (by kernel_rfl) (by kernel_rfl) (fun _ _ _ h => h) (by kernel_rfl) hT (fun _ => hS) (by kernel_rfl) (fun _ h => h.2.2.1) uT rfl iT ?_
      simp only [Act.put, List.setIfInBounds_toArray, List.set_cons_zero, List.set_cons_succ]
      refine wpAnyT_held (i := 18) (v := .agg (row .u8 ZT)) rfl (by kernel_rfl) (by kernel_rfl) (by kernel_rfl) (fun _ _ _ h => h) (by kernel_rfl) hT (fun _ => hS) (by kernel_rfl) ?_ ?_
      · intro wx hSw; go_split_ands; go_simp; (rw [← HZT.out]; rfl)
      simp only [Act.put, List.setIfInBounds_toArray, List.set_cons_zero, List.set_cons_succ]
      refine wpAnyT_held (i := 19) (v := .bool true) rfl (by kernel_rfl) (by kernel_rfl) (by kernel_rfl) (fun _ _ _ h => h) (by kernel_rfl) hT (fun _ => hS) (by kernel_rfl) ?_ ?_
      · intro wx hSw; go_split_ands; go_simp
      simp only [Act.put, List.setIfInBounds_toArray, List.set_cons_zero, List.set_cons_succ]
      refine wpAnyT_held (i := 20) (v := .bool true) rfl (by kernel_rfl) (by kernel_rfl) (by kernel_rfl) (fun _ _ _ h => h) (by kernel_rfl) hT (fun _ => hS) (by kernel_rfl) ?_ ?_
      · intro wx hSw; go_split_ands; go_simp
      simp only [Act.put, List.setIfInBounds_toArray, List.set_cons_zero, List.set_cons_succ]
      refine wpAnyT_held (i := 21) (v := ?_) rfl (by kernel_rfl) (by kernel_rfl) (by kernel_rfl) (fun _ _ _ h => h) (by kernel_rfl) hT (fun _ => hS) (by kernel_rfl) ?_ ?_
      rotate_left
      · intro wx hSw; go_split_ands; go_simp; try with_reducible rfl
      simp only [Act.put, List.setIfInBounds_toArray, List.set_cons_zero, List.set_cons_succ]
      refine wpAnyT_load (i := 22) (dst := some 55) (ty := 23) (x := .tmp 3) (b := w.heap.size) (o := 0) (cs := (k.map (Value.int .u8))) (by kernel_rfl) (by kernel_rfl) (by kernel_rfl) (by kernel_rfl) (by kernel_rfl) (fun _ _ _ h => h) (by kernel_rfl) hT (fun _ => hS) (by kernel_rfl) (fun _ h => h.1) uK rfl iK ?_
      simp only [Act.put, List.setIfInBounds_toArray, List.set_cons_zero, List.set_cons_succ]
      refine wpAnyT_load (i := 23) (dst := some 56) (ty := 33) (x := .tmp 4) (b := (w.heap.size + 1)) (o := 0) (cs := (n.map (Value.int .u8))) (by kernel_rfl) (by kernel_rfl) (by kernel_rfl) (by kernel_rfl) (by kernel_rfl) (fun _ _ _ h => h) (by kernel_rfl) hT (fun _ => hS) (by kernel_rfl) (fun _ h => h.2.1) uN rfl iN ?_
      simp only [Act.put, List.setIfInBounds_toArray, List.set_cons_zero, List.set_cons_succ]
      refine wpAnyT_held (i := 24) (v := ?_) rfl (by kernel_rfl) (by kernel_rfl) (by kernel_rfl) (fun _ _ _ h => h) (by kernel_rfl) hT (fun _ => hS) (by kernel_rfl) ?_ ?_
      rotate_left
      · intro wx hSw; go_split_ands; go_simp; try with_reducible rfl
      simp only [Act.put, List.setIfInBounds_toArray, List.set_cons_zero, List.set_cons_succ]
      refine wpAnyT_one (i := 25) rfl (by kernel_rfl) (by kernel_rfl) (fun K hK => ?_)
      go_wp2_with (go_at_call 12; refine (hxor' _ (Below.refl _ _).drew).mono ?_; rintro e w3 ⟨g3, rfl, hg3, hX3, hb3⟩)
      have hB3 : Below W.heap.size W w3 := ((Below.refl _ _).drew).trans hb3
      replace hT := keep _ hB3
      clear hX3
      refine hK.out _ _ hT (fun _ => hS) ?_
      clear hK K
      refine wpAnyT_held (i := 26) (v := ?_) rfl (by kernel_rfl) (by kernel_rfl) (by kernel_rfl) (fun _ _ _ h => h) (by kernel_rfl) hT (fun _ => hS) (by kernel_rfl) ?_ ?_
      rotate_left
      · intro wx hSw; go_split_ands; go_simp; try with_reducible rfl
      simp only [Act.put, List.setIfInBounds_toArray, List.set_cons_zero, List.set_cons_succ]
      refine wpAnyT_held (i := 27) (v := .bool true) rfl (by kernel_rfl) (by kernel_rfl) (by kernel_rfl) (fun _ _ _ h => h) (by kernel_rfl) hT (fun _ => hS) (by kernel_rfl) ?_ ?_
      · intro wx hSw; go_split_ands; go_simp
      simp only [Act.put, List.setIfInBounds_toArray, List.set_cons_zero, List.set_cons_succ]
      refine wpAnyT_held (i := 28) (v := .bool true) rfl (by kernel_rfl) (by kernel_rfl) (by kernel_rfl) (fun _ _ _ h => h) (by kernel_rfl) hT (fun _ => hS) (by kernel_rfl) ?_ ?_
      · intro wx hSw; go_split_ands; go_simp
      simp only [Act.put, List.setIfInBounds_toArray, List.set_cons_zero, List.set_cons_succ]
      refine wpAnyT_held (i := 29) (v := ?_) rfl (by kernel_rfl) (by kernel_rfl) (by kernel_rfl) (fun _ _ _ h => h) (by kernel_rfl) hT (fun _ => hS) (by kernel_rfl) ?_ ?_
      rotate_left
      · intro wx hSw; go_split_ands; go_simp; try with_reducible rfl
      simp only [Act.put, List.setIfInBounds_toArray, List.set_cons_zero, List.set_cons_succ]
      refine wpAnyT_load (i := 30) (dst := some 63) (ty := 23) (x := .tmp 3) (b := w.heap.size) (o := 0) (cs := (k.map (Value.int .u8))) (by kernel_rfl) (by kernel_rfl) (by kernel_rfl) (by kernel_rfl) (by kernel_rfl) (fun _ _ _ h => h) (by kernel_rfl) hT (fun _ => hS) (by kernel_rfl) (fun _ h => h.1) uK rfl iK ?_
      simp only [Act.put, List.setIfInBounds_toArray, List.set_cons_zero, List.set_cons_succ]
      refine wpAnyT_load (i := 31) (dst := some 64) (ty := 33) (x := .tmp 4) (b := (w.heap.size + 1)) (o := 0) (cs := (n.map (Value.int .u8))) (by kernel_rfl) (by kernel_rfl) (by kernel_rfl) (by kernel_rfl) (by kernel_rfl) (fun _ _ _ h => h) (by kernel_rfl) hT (fun _ => hS) (by kernel_rfl) (fun _ h => h.2.1) uN rfl iN ?_
      simp only [Act.put, List.setIfInBounds_toArray, List.set_cons_zero, List.set_cons_succ]
      refine wpAnyT_held (i := 32) (v := ?_) rfl (by kernel_rfl) (by kernel_rfl) (by kernel_rfl) (fun _ _ _ h => h) (by kernel_rfl) hT (fun _ => hS) (by kernel_rfl) ?_ ?_
      rotate_left
      · intro wx hSw; go_split_ands; go_simp; try with_reducible rfl
      simp only [Act.put, List.setIfInBounds_toArray, List.set_cons_zero, List.set_cons_succ]
      refine wpAnyT_one (i := 33) rfl (by kernel_rfl) (by kernel_rfl) (fun K hK => ?_)
      go_wp2_with (go_at_call 12; refine (hxor' _ hB3).mono ?_; rintro e w4 ⟨g4, rfl, hg4, hX4, hb4⟩)
      have hB4 : Below W.heap.size W w4 := hB3.trans (hb4.mono hB3.size)
      replace hT := keep _ hB4
      have c5 : w4.cell? ⟨g4, 5, none⟩ = some (.int .u8 0) := by
        have := hX4.cell 5 (by rw [HX5.out.2]; omega)
        rw [HX5.out.1] at this
        exact this
      clear hX4
      refine hK.out _ _ hT (fun _ => hS) ?_
      clear hK K
      refine wpAnyT_one (i := 34) rfl (by kernel_rfl) (by kernel_rfl) (fun K hK => ?_)
      go_simp
      refine hK.out _ _ hT (fun _ => hS) ?_
      clear hK K
      refine wpAnyT_one (i := 35) rfl (by kernel_rfl) (by kernel_rfl) (fun K hK => ?_)
      go_simp
      refine hK.out _ _ hT (fun _ => hS) ?_
      clear hK K
      refine wpAnyT_one (i := 36) rfl (by kernel_rfl) (by kernel_rfl) (fun K hK => ?_)
      go_simp
      refine hK.out _ _ hT (fun _ => hS) ?_
      clear hK K
      refine wpAnyT_one (i := 37) rfl (by kernel_rfl) (by kernel_rfl) (fun K hK => ?_)
      go_simp
      refine hK.out _ _ hT (fun _ => hS) ?_
      clear hK K
      refine wpAnyT_one (i := 38) rfl (by kernel_rfl) (by kernel_rfl) (fun K hK => ?_)
      go_simp
      refine hK.out _ _ hT (fun _ => trivial) ?_
      clear hK K
      refine wpAnyT_done (by kernel_rfl) ?_ _
      clear hT hS keep c5
      go_wp2
      go_ret
      exact ⟨rfl, hB.trans (hB4.mono hB.size)⟩
end Go.Proofs.Yteolgonoodfniac
