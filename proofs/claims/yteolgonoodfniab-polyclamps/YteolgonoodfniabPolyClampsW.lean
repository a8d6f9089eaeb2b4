/- The statement PolyClamps, walked. -/
import Derived.Test.YteolgonoodfniabPk
namespace Go.Proofs.Yteolgonoodfniab
open Go.RowKit
set_option maxRecDepth 20000
set_option linter.unusedSimpArgs false

theorem copyK_set (c : List Int) (m i : Nat) (h : i < c.length) : (c.take i ++ List.replicate (m + 1) 0).set i (c[i]?.getD 0) = c.take (i + 1) ++ List.replicate m 0 := by
  rw [List.set_append_right _ _ (by rw [List.length_take]; omega), List.length_take, show i - min i c.length = 0 by omega, List.replicate_succ, List.set_cons_zero, take_next c i h, List.append_assoc]
  rfl

set_option maxHeartbeats 4000000 in
theorem clamps_walk (k : List Int) (w : World) (hk : k.length = 32) (hu : ∀ v ∈ k, 0 ≤ v ∧ v ≤ 255) :
    Calls Try.prog 4 #[.agg (row .u8 k)] w fun e w' => e = .returned (.bool true) ∧ Below w.heap.size w w' := by
  have hcl := clampL_length k hk
  have hAG : (clampL k ++ List.replicate 16 0).length = 32 := by rw [List.length_append, hcl]; rfl
  have htw : clampL (clampL k ++ List.replicate 16 0) = clampL k := clamp_twice k _ hk hu (by rw [List.take_append_of_le_length (by omega), List.take_of_length_le (by omega)])
  have h1 := fun wx => clamp_any k wx hk
  have h2 : ∀ wx, Calls Try.prog 13 #[.agg (List.map (Value.int .u8) k).toArray] wx fun e w' => e = .returned (.agg (row .u8 (clampL k))) ∧ Below wx.heap.size wx w' := fun wx => refClamp_any k wx hk hu
  have h3 := fun wx => clamp_any (clampL k ++ List.replicate 16 0) wx hAG
  rw [htw] at h3
  obtain ⟨C, hC⟩ : ∃ q, clampL k = q := ⟨_, rfl⟩
  rw [hC] at h1 h2 h3 hcl hAG
  have HF : Veil (∀ i, i < 16 → (C.take i ++ List.replicate (31 - i + 1) 0).set i (C[i]?.getD 0) = C.take (i + 1) ++ List.replicate (31 - i) 0) := ⟨fun i hi => copyK_set C (31 - i) i (by omega)⟩
  have HG : Veil (C.take 16 ++ List.replicate (32 - 16) 0 = C ++ List.replicate 16 0) := ⟨by rw [List.take_of_length_le (by omega)]⟩
  obtain ⟨AG, hAGe⟩ : ∃ q, C ++ List.replicate 16 0 = q := ⟨_, rfl⟩
  rw [hAGe] at h3 hAG HG
  have h3' : ∀ wx, Calls Try.prog 12 #[.agg (List.map (Value.int .u8) AG).toArray] wx fun e w' => e = .returned (.agg (row .u8 C)) ∧ Below wx.heap.size wx w' := h3
  have hE : ∀ wx, (Op.equalIn 10000 27 (.agg (List.map (Value.int .u8) C).toArray) (.agg (row .u8 C))).run Try.prog wx = .ok true wx := fun wx => by
    have := eq16 C C hcl hcl wx
    rw [beq_self_eq_true] at this
    exact this
  have hE2 : ∀ wx, (Op.equalIn 10000 27 (.agg (row .u8 C)) (.agg (List.map (Value.int .u8) C).toArray)).run Try.prog wx = .ok true wx := hE
  have hgd := guard16
  have uTyS := Try.underlying27
  have uTyK := Try.underlying23
  have iTyS : (Try.prog.info? 27).map (·.size) = some (C.map (Value.int .u8)).length := by rw [List.length_map, hcl]; exact size16b
  have iTyK : (Try.prog.info? 23).map (·.size) = some (k.map (Value.int .u8)).length := by rw [List.length_map, hk]; exact sizeKeyP
  have iTyA : (Try.prog.info? 23).map (·.size) = some (AG.map (Value.int .u8)).length := by rw [List.length_map, hAG]; exact sizeKeyP
  have hN := Holds.new w .u8 23 k
  clear hC hAGe htw hu h3
  go_enter Try.func4, Try.ntmps4
  go_upto_region 2 with (first
    | (refine wpList_ld rfl 23 _ rfl _ rfl hN Try.underlying23 sizeKeyP hk ?_)
    | (go_at_call 12; refine (h1 _).mono ?_; rintro e w1 ⟨rfl, hb1⟩; have hN1 := Holds.new w1 .u8 27 (List.replicate 16 0))
    | (refine wpList_st rfl 27 _ _ rfl _ rfl rfl hN1 (by rw [hcl]; exact size16b) (by simp [hcl]) ?_))
  have hB1 : Below w.heap.size w w1 := ((Below.refl _ _).alloc (Nat.le_refl _) _).trans (hb1.mono (by simp))
  have hK1 := hN.below hb1 hN.lt
  have hs1 := hK1.lt
  go_upto_region 3 with fail
  refine forget (p := fun y => Code.wp _ _ _ _ y) (fun W2 => Below w.heap.size w W2 ∧ Holds W2 w.heap.size .u8 23 k ∧ Holds W2 w1.heap.size .u8 27 C ∧ Holds W2 (w1.heap.size + 1) .u8 23 (List.replicate 32 0)) ⟨(below_setRow (hB1.alloc hB1.size _) hB1.size _).alloc (by have := hB1.size; simp; omega) _, ((hK1.alloc _).setRowOther _ (by omega)).alloc _, (hN1.setRow _).alloc _, ?_⟩ ?_
  · have := Holds.new ((w1.alloc (.cells (row .u8 (List.replicate 16 0)) 27)).setRow w1.heap.size (row .u8 C)) .u8 23 (List.replicate 32 0)
    have hsz : ((w1.alloc (.cells (row .u8 (List.replicate 16 0)) 27)).setRow w1.heap.size (row .u8 C)).heap.size = w1.heap.size + 1 := by simp
    rw [hsz] at this
    exact this
  clear hN hN1 hb1 hB1 hK1 h1
  rintro W2 ⟨hB2, hK2, hC2, hA2⟩
  obtain ⟨cb, hcb⟩ : ∃ q, w1.heap.size = q := ⟨_, rfl⟩
  rw [hcb] at hC2 hA2 hs1 ⊢
  clear hcb
  go_wp2_with fail
  go_loopw [5] (fun q wr => ∃ i : Nat, i ≤ 16 ∧ q = .int .i64 i ∧ Below w.heap.size w wr ∧ Holds wr w.heap.size .u8 23 k ∧ Holds wr cb .u8 27 C ∧ Holds wr (cb + 1) .u8 23 (C.take i ++ List.replicate (32 - i) 0)) (fun q _ => 16 - (intOf q).toNat)
  case atStart => exact ⟨0, by omega, rfl, hB2, hK2, hC2, hA2⟩
  case round =>
    clear hB2 hK2 hC2 hA2
    obtain ⟨i, hi, rfl, hB, hKy, hCC, hA⟩ := hrel
    by_cases hlt : i < 16
    · have c1 := hCC.cell i (by omega)
      have hst := HF.out i hlt
      rw [show 32 - i = 31 - i + 1 by omega] at hA
      have hAl : (C.take i ++ List.replicate (31 - i + 1) 0).length = 32 := by rw [List.length_append, List.length_take, List.length_replicate]; omega
      have HS : Veil ((C.take i ++ List.replicate (31 - i + 1) 0).set i (C[i]?.getD 0) = C.take (i + 1) ++ List.replicate (32 - (i + 1)) 0) := ⟨by rw [hst, show 32 - (i + 1) = 31 - i by omega]⟩
      obtain ⟨A, hAe⟩ : ∃ q, C.take i ++ List.replicate (31 - i + 1) 0 = q := ⟨_, rfl⟩
      rw [hAe] at hA HS hAl
      have c2 := hA.cell i (by omega)
      have f2 := hA.frozen i
      obtain ⟨v, hv⟩ : ∃ q, C[i]?.getD 0 = q := ⟨_, rfl⟩
      rw [hv] at c1 HS
      have hi0 : (0 : Int) ≤ (i : Int) := by omega
      have hi6 : (i : Int) < 16 := by omega
      have hi32 : (i : Int) < 32 := by omega
      clear hAe hv hst
      go_wp2
      go_roundw
      case rel => exact ⟨i + 1, by omega, by go_num, hB.setCell (by simp; omega) _, hKy.setOther _ _ (by simp; omega), hCC.setOther _ _ (by simp), by rw [← HS.out]; exact hA.set i _⟩
      case measure => simp [intOf]; omega
    · obtain rfl : i = 16 := by omega
      rw [HG.out] at hA
      rw [show ((16 : Nat) : Int) = 16 from rfl]
      clear HF HG
      go_upto_region 7 with fail
      refine wp_region_gate (fun w' => w'.rangeAt cb 0 (C.map (Value.int .u8)) ∧ w'.rangeAt w.heap.size 0 (k.map (Value.int .u8)) ∧ w'.rangeAt (cb + 1) 0 (AG.map (Value.int .u8))) 13 (by kernel_rfl) ?_
      refine wpAnyG_one (i := 0) rfl (by kernel_rfl) (by kernel_rfl) (fun K hK => ?_)
      go_wp2_with (go_at_call 9; refine (live4_any _).mono ?_; rintro e w4 ⟨rfl, hb4⟩)
      have hb4' : Below wr.heap.size wr w4 := ((Below.refl _ _).drew).trans hb4
      have hS := And.intro (hCC.below hb4' hCC.lt).rangeAll (And.intro (hKy.below hb4' hKy.lt).rangeAll (hA.below hb4' hA.lt).rangeAll)
      refine hK.out _ _ (fun _ => hS) ?_
      clear hK K
      refine wpAnyG_any (i := 1) (v := ?_) rfl (by kernel_rfl) (by kernel_rfl) (by kernel_rfl) (fun _ _ _ h => h) (by kernel_rfl) (fun _ => hS) (by kernel_rfl) ?_ ?_
      rotate_left
      · intro _; go_simp; try with_reducible rfl
      simp only [Act.put, List.setIfInBounds_toArray, List.set_cons_zero, List.set_cons_succ]
      refine wpAnyG_load (i := 2) (dst := some 19) (ty := 27) (x := .tmp 3) (b := cb) (o := 0) (cs := (C.map (Value.int .u8))) (by kernel_rfl) (by kernel_rfl) (by kernel_rfl) (by kernel_rfl) (by kernel_rfl) (fun _ _ _ h => h) (by kernel_rfl) (by kernel_rfl) (by kernel_rfl) hS (by kernel_rfl) (fun _ h => h.1) uTyS rfl iTyS ?_
      simp only [Act.put, List.setIfInBounds_toArray, List.set_cons_zero, List.set_cons_succ]
      refine wpAnyG_load (i := 3) (dst := some 20) (ty := 23) (x := .tmp 1) (b := w.heap.size) (o := 0) (cs := (k.map (Value.int .u8))) (by kernel_rfl) (by kernel_rfl) (by kernel_rfl) (by kernel_rfl) (by kernel_rfl) (fun _ _ _ h => h) (by kernel_rfl) (by kernel_rfl) (by kernel_rfl) hS (by kernel_rfl) (fun _ h => h.2.1) uTyK rfl iTyK ?_
      simp only [Act.put, List.setIfInBounds_toArray, List.set_cons_zero, List.set_cons_succ]
      refine wpAnyG_one (i := 4) rfl (by kernel_rfl) (by kernel_rfl) (fun K hK => ?_)
      go_wp2_with (go_at_call 13; refine (h2 _).mono ?_; rintro e w5 ⟨rfl, hb5⟩)
      have hb5' : Below wr.heap.size wr w5 := hb4'.trans (hb5.mono hb4'.size)
      replace hS := And.intro (hCC.below hb5' hCC.lt).rangeAll (And.intro (hKy.below hb5' hKy.lt).rangeAll (hA.below hb5' hA.lt).rangeAll)
      refine hK.out _ _ (fun _ => hS) ?_
      clear hK K
      refine wpAnyG_any (i := 5) (v := .bool true) rfl (by kernel_rfl) (by kernel_rfl) (by kernel_rfl) (fun _ _ _ h => h) (by kernel_rfl) (fun _ => hS) (by kernel_rfl) ?_ ?_
      · intro _; go_simp
      simp only [Act.put, List.setIfInBounds_toArray, List.set_cons_zero, List.set_cons_succ]
      refine wpAnyG_any (i := 6) (v := .bool true) rfl (by kernel_rfl) (by kernel_rfl) (by kernel_rfl) (fun _ _ _ h => h) (by kernel_rfl) (fun _ => hS) (by kernel_rfl) ?_ ?_
      · intro _; go_simp
      simp only [Act.put, List.setIfInBounds_toArray, List.set_cons_zero, List.set_cons_succ]
      refine wpAnyG_any (i := 7) (v := ?_) rfl (by kernel_rfl) (by kernel_rfl) (by kernel_rfl) (fun _ _ _ h => h) (by kernel_rfl) (fun _ => hS) (by kernel_rfl) ?_ ?_
      rotate_left
      · intro _; go_simp; try with_reducible rfl
      simp only [Act.put, List.setIfInBounds_toArray, List.set_cons_zero, List.set_cons_succ]
      refine wpAnyG_load (i := 8) (dst := some 25) (ty := 23) (x := .tmp 4) (b := (cb + 1)) (o := 0) (cs := (AG.map (Value.int .u8))) (by kernel_rfl) (by kernel_rfl) (by kernel_rfl) (by kernel_rfl) (by kernel_rfl) (fun _ _ _ h => h) (by kernel_rfl) (by kernel_rfl) (by kernel_rfl) hS (by kernel_rfl) (fun _ h => h.2.2) uTyK rfl iTyA ?_
      simp only [Act.put, List.setIfInBounds_toArray, List.set_cons_zero, List.set_cons_succ]
      refine wpAnyG_load (i := 10) (dst := some 27) (ty := 27) (x := .tmp 3) (b := cb) (o := 0) (cs := (C.map (Value.int .u8))) (by kernel_rfl) (by kernel_rfl) (by kernel_rfl) (by kernel_rfl) (by kernel_rfl) (fun _ _ _ h => h) (by kernel_rfl) (by kernel_rfl) (by kernel_rfl) hS (by kernel_rfl) (fun _ h => h.1) uTyS rfl iTyS ?_
      simp only [Act.put, List.setIfInBounds_toArray, List.set_cons_zero, List.set_cons_succ]
      refine wpAnyG_one (i := 9) rfl (by kernel_rfl) (by kernel_rfl) (fun K hK => ?_)
      go_wp2_with (go_at_call 12; refine (h3' _).mono ?_; rintro e w6 ⟨rfl, hb6⟩)
      have hb6' : Below wr.heap.size wr w6 := hb5'.trans (hb6.mono hb5'.size)
      replace hS := And.intro (hCC.below hb6' hCC.lt).rangeAll (And.intro (hKy.below hb6' hKy.lt).rangeAll (hA.below hb6' hA.lt).rangeAll)
      refine hK.out _ _ (fun _ => hS) ?_
      clear hK K
      refine wpAnyG_any (i := 11) (v := .bool true) rfl (by kernel_rfl) (by kernel_rfl) (by kernel_rfl) (fun _ _ _ h => h) (by kernel_rfl) (fun _ => hS) (by kernel_rfl) ?_ ?_
      · intro _; go_simp
      simp only [Act.put, List.setIfInBounds_toArray, List.set_cons_zero, List.set_cons_succ]
      refine wpAnyG_any (i := 12) (v := .bool true) rfl (by kernel_rfl) (by kernel_rfl) (by kernel_rfl) (fun _ _ _ h => h) (by kernel_rfl) (fun _ => hS) (by kernel_rfl) ?_ ?_
      · intro _; go_simp
      simp only [Act.put, List.setIfInBounds_toArray, List.set_cons_zero, List.set_cons_succ]
      refine wpAnyG_one (i := 13) rfl (by kernel_rfl) (by kernel_rfl) (fun K hK => ?_)
      go_simp
      refine hK.out _ _ (fun h => absurd (show true = false from h) (by decide)) ?_
      clear hK K
      refine wpAnyG_done (by kernel_rfl) ?_ _
      go_wp2
      go_ret
      exact ⟨rfl, hB.trans (hb6'.mono hB.size)⟩
end Go.Proofs.Yteolgonoodfniab
