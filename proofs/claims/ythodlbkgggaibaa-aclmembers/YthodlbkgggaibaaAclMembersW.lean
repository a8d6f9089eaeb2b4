/- AclMembers, walked. -/
import Derived.Test.YthodlbkgggaibaaRk6
namespace Go.Proofs.Ythodlbkgggaibaa
open Go.RowKit Go.Shelf
set_option maxRecDepth 20000
set_option linter.unusedSimpArgs false
theorem fold_le : ∀ (X : List Ev) (s : Int × Bool), (s.2 = true → s.1 ≤ 3) → (∀ e ∈ X, e.role ≤ 3) → (X.foldl leastS s).2 = true → (X.foldl leastS s).1 ≤ 3
  | [], s, h, _, h2 => h h2
  | e :: X, s, h, hX, h2 => by
    rw [List.foldl_cons] at h2 ⊢
    refine fold_le X _ ?_ (fun y hy => hX y (by simp [hy])) h2
    unfold leastS
    split
    · exact fun _ => hX e (by simp)
    · exact h
theorem leastX_le (X : List Ev) (hX : ∀ e ∈ X, e.role ≤ 3) : leastX X ≤ 3 := by
  unfold leastX
  split
  · rename_i h
    exact fold_le X _ (fun h => by cases h) hX h
  · decide
theorem roleP_le (L : List Ent) (hG : GoodB L) (who : Int) (v : List Int) : roleP L who v ≤ 3 := by
  by_cases h8 : 8 ≤ who
  · unfold roleP; rw [if_pos h8]; decide
  · rw [roleP_last L who v h8]
    split
    · decide
    · refine leastX_le _ (fun e he => ?_)
      rw [lastL_eq] at he
      have := hG.told who v e (List.mem_filter.1 he).1
      exact (good_role this.2.1 this.2.2).2.1
theorem members_get (L : List Ent) (v : List Int) (k : Nat) (hk : k < 8) : (membersL L v)[k]?.getD 0 = roleP L (k : Nat) v := by
  unfold membersL
  rw [List.getElem?_map, List.getElem?_range hk]; rfl
set_option maxHeartbeats 16000000 in
theorem ame_walk (x : Option Addr) (len cap : Nat) (ds : List Ev) (v : List Int) (w : World) (hd : EvsAt w x len cap ds) (hv : v.length = 8) :
    Calls Try.prog 4 #[.slice x len cap, .agg (row .u32 v)] w fun e w' => e = .returned (.bool true) ∧ Below w.heap.size w w' := by
  obtain ⟨VV, hVV⟩ : ∃ q, v.map (Value.int .u32) = q := ⟨_, rfl⟩
  have hrow : row .u32 v = VV.toArray := by rw [← hVV]; rfl
  have hB0 : Below w.heap.size w (w.alloc (.cells VV.toArray 25)) := (Below.refl _ _).alloc (Nat.le_refl _) _
  have hy0 := CellsAt.new w 25 VV
  have iV : (Try.prog.info? 25).map (·.size) = some VV.length := by rw [← hVV, List.length_map, hv]; kernel_rfl
  have uV := Try.underlying25
  have hpl := aplay_any x len cap ds _ (hd.below hB0)
  have HME : Veil (∀ H b L W, BookC W H b L → (Calls Try.prog 16 #[.pointer (some ⟨H, 0, none⟩), .agg VV.toArray] W fun e w' => e = .returned (.agg (row .u8 (membersL L v))) ∧ Below W.heap.size W w') ∧ ∀ who, Calls Try.prog 17 #[.pointer (some ⟨H, 0, none⟩), .int .u8 who, .agg VV.toArray] W fun e w' => e = .returned (.int .u8 (roleP L who v)) ∧ Below W.heap.size W w') := ⟨fun H b L W hC => ⟨by rw [← hrow]; exact members_any H b L v W hC hv, fun who => by rw [← hVV]; exact role_any H b L who v W hC hv⟩⟩
  rw [hrow]
  clear hd hrow hVV
  go_enter Try.func4, Try.ntmps4
  go_upto_region 4 with (first
    | (go_at_call 14; refine (live9_any w1).mono ?_; rintro e w2 ⟨rfl, g2⟩)
    | (go_at_call 13; refine hpl.mono ?_; rintro e w1 ⟨H, b, R, rfl, ⟨L, hBB, -⟩, hB1⟩))
  have hy2 := (hy0.congr (hB1.block _ hy0.lt)).farM g2
  have hBB2 := hBB.far g2
  have hB1' := hB0.trans (hB1.mono hB0.size)
  have hB2 := hB1'.trans (g2.mono hB1'.size)
  clear hB0 hy0 hpl hBB hB1 g2 hB1'
  have hr2 := hy2.wholeM
  have hme := (HME.out H b L w2 hBB2.code).1
  have HGD := Veil.mk hBB2.good
  have HC2 := Veil.mk hBB2.code
  have HB2 := Veil.mk hB2
  have HY2 := Veil.mk hy2
  obtain ⟨ML, hML⟩ : ∃ q, membersL L v = q := ⟨_, rfl⟩
  have HML := Veil.mk hML
  rw [hML] at hme
  have hM8 : ML.length = 8 := by rw [← hML]; exact membersL_len _ _
  have HM8 := Veil.mk hM8
  have hz5 := fun W5 => Holds.new W5 .u8 34 [0, 0, 0, 0, 0, 0, 0, 0]
  clear hBB2 hB2 hy2 hML
  go_upto_region 5 with (first
    | (refine wpList_ldv rfl 25 _ rfl w.heap.size 0 rfl VV hr2 uV rfl iV ?_)
    | (go_at_call 16; refine hme.mono ?_; rintro e W5 ⟨rfl, g5⟩; have hz := hz5 W5)
    | (refine wpList_st rfl 34 _ _ rfl _ rfl rfl hz (by rw [hM8]; exact sizeR8) (by rw [hM8]; rfl) ?_))
  have hC5 := HC2.out.far g5
  have hB5 := HB2.out.trans (g5.mono HB2.out.size)
  have hy5 := HY2.out.farM g5
  have hm5 := hz.setRow ML
  have hbA : Below W5.heap.size W5 ((W5.alloc (.cells (row .u8 [0, 0, 0, 0, 0, 0, 0, 0]) 34)).setRow W5.heap.size (row .u8 ML)) := below_setRow ((Below.refl _ _).alloc (Nat.le_refl _) _) (Nat.le_refl _) _
  refine forget (p := fun y => Code.wp _ _ _ _ y) (fun W => BookC W H b L ∧ Below w.heap.size w W ∧ CellsAt W w.heap.size 25 VV ∧ Holds W W5.heap.size .u8 34 ML) ⟨hC5.far hbA, hB5.trans (hbA.mono hB5.size), hy5.farM hbA, hm5⟩ ?_
  clear hC5 hB5 hy5 hm5 hbA hz hz5 hme hr2 HC2 HB2 HY2
  rintro W6 ⟨hC6, hB6, hy6, hm6⟩
  generalize W5.heap.size = mB at hm6 ⊢
  clear g5
  go_wp2_with fail
  go_loopw [9] (fun p wr => ∃ k : Nat, k ≤ 8 ∧ p = .int .i64 (k : Nat) ∧ BookC wr H b L ∧ Below w.heap.size w wr ∧ CellsAt wr w.heap.size 25 VV ∧ Holds wr mB .u8 34 ML) (fun p _ => 8 - (intOf p).toNat)
  case atStart => exact ⟨0, by omega, rfl, hC6, hB6, hy6, hm6⟩
  case round =>
    obtain ⟨k, hk, rfl, hC, hB, hy, hm⟩ := hrel
    clear hC6 hB6 hy6 hm6
    by_cases hlt : k < 8
    · have hki : (0 : Int) ≤ (k : Int) := by omega
      have hkl : (k : Int) < 8 := by omega
      have hkw : IntKind.u8.wrap (k : Int) = (k : Int) := by simp [IntKind.wrap, IntKind.bits, IntKind.signed]; omega
      have hw1 : IntKind.i64.wrap ((k : Int) + 1) = (k : Int) + 1 := by rw [IntKind.wrap_i64]; omega
      have cm := hm.cell k (by rw [HM8.out]; exact hlt)
      have hgt := members_get L v k hlt
      rw [HML.out] at hgt
      rw [hgt] at cm
      have hle := roleP_le L HGD.out (k : Nat) v
      have hro := (HME.out H b L wr.drew (hC.congr rfl rfl)).2 (k : Nat)
      generalize roleP L (k : Nat) v = RK at cm hle hro
      have HX : Veil (∀ W, Below wr.heap.size wr W → (W.cell? ⟨mB, k, none⟩ = some (.int .u8 RK) ∧ W.rangeAt w.heap.size 0 VV) ∧ BookC W H b L ∧ Below w.heap.size w W ∧ CellsAt W w.heap.size 25 VV ∧ Holds W mB .u8 34 ML) := ⟨fun W hb => ⟨⟨(hb.cell (p := ⟨mB, k, none⟩) (block_lt_of_cell cm)).trans cm, (hy.farM hb).wholeM⟩, hC.far hb, hB.trans (hb.mono hB.size), hy.farM hb, holds_farA hm hb⟩⟩
      have hr3 : ¬ (3 : Int) < RK := by omega
      have hne : (RK != RK) = false := by simp
      clear hC hB hy hm cm hgt hle
      go_upto_region 8 with fail
      refine wp_region_gateT (fun w' => w'.cell? ⟨mB, k, none⟩ = some (.int .u8 RK) ∧ w'.rangeAt w.heap.size 0 VV) (fun _ => True) 99 (by kernel_rfl) ?_
      have hT : (fun w' : World => w'.cell? ⟨mB, k, none⟩ = some (.int .u8 RK) ∧ w'.rangeAt w.heap.size 0 VV) wr.drew := (HX.out _ (Below.refl _ _).drew).1
      have hS : (fun _ : World => True) wr.drew := trivial
      refine wpAnyT_held (i := 0) (v := ?_) rfl (by kernel_rfl) (by kernel_rfl) (by kernel_rfl) (fun _ _ _ h => h) (by kernel_rfl) hT (fun _ => hS) (by kernel_rfl) ?_ ?_
      rotate_left
      · intro wx hSw; go_split_ands; go_simp; try with_reducible rfl
      simp only [Act.put, List.getElem_toArray, List.getElem_cons_succ, List.getElem_cons_zero, List.setIfInBounds_toArray, List.set_cons_zero, List.set_cons_succ]
      refine wpAnyT_held (i := 1) (v := ?_) rfl (by kernel_rfl) (by kernel_rfl) (by kernel_rfl) (fun _ _ _ h => h) (by kernel_rfl) hT (fun _ => hS) (by kernel_rfl) ?_ ?_
      rotate_left
      · intro wx hSw; go_split_ands; go_simp; try with_reducible rfl
      simp only [Act.put, List.getElem_toArray, List.getElem_cons_succ, List.getElem_cons_zero, List.setIfInBounds_toArray, List.set_cons_zero, List.set_cons_succ]
      refine wpAnyT_held (i := 2) (v := ?_) rfl (by kernel_rfl) (by kernel_rfl) (by kernel_rfl) (fun _ _ _ h => h) (by kernel_rfl) hT (fun _ => hS) (by kernel_rfl) ?_ ?_
      rotate_left
      · intro wx hSw; go_split_ands; go_simp; try with_reducible rfl
      simp only [Act.put, List.getElem_toArray, List.getElem_cons_succ, List.getElem_cons_zero, List.setIfInBounds_toArray, List.set_cons_zero, List.set_cons_succ]
      refine wpAnyT_held (i := 3) (v := ?_) rfl (by kernel_rfl) (by kernel_rfl) (by kernel_rfl) (fun _ _ _ h => h) (by kernel_rfl) hT (fun _ => hS) (by kernel_rfl) ?_ ?_
      rotate_left
      · intro wx hSw; go_split_ands; go_simp; try with_reducible rfl
      simp only [Act.put, List.getElem_toArray, List.getElem_cons_succ, List.getElem_cons_zero, List.setIfInBounds_toArray, List.set_cons_zero, List.set_cons_succ]
      refine wpAnyT_held (i := 4) (v := ?_) rfl (by kernel_rfl) (by kernel_rfl) (by kernel_rfl) (fun _ _ _ h => h) (by kernel_rfl) hT (fun _ => hS) (by kernel_rfl) ?_ ?_
      rotate_left
      · intro wx hSw; go_split_ands; go_simp; try with_reducible rfl
      simp only [Act.put, List.getElem_toArray, List.getElem_cons_succ, List.getElem_cons_zero, List.setIfInBounds_toArray, List.set_cons_zero, List.set_cons_succ]
      refine wpAnyT_held (i := 5) (v := ?_) rfl (by kernel_rfl) (by kernel_rfl) (by kernel_rfl) (fun _ _ _ h => h) (by kernel_rfl) hT (fun _ => hS) (by kernel_rfl) ?_ ?_
      rotate_left
      · intro wx hSw; go_split_ands; go_simp; try with_reducible rfl
      simp only [Act.put, List.getElem_toArray, List.getElem_cons_succ, List.getElem_cons_zero, List.setIfInBounds_toArray, List.set_cons_zero, List.set_cons_succ]
      refine wpAnyT_load (i := 6) (dst := some 35) (ty := 25) (x := .tmp 3) (b := w.heap.size) (o := (0)) (cs := VV) (by kernel_rfl) (by kernel_rfl) (by kernel_rfl) (by kernel_rfl) (by kernel_rfl) (fun _ _ _ h => h) (by kernel_rfl) hT (fun _ => hS) (by kernel_rfl) (fun _ h => h.2) uV rfl iV ?_
      simp only [Act.put, List.getElem_toArray, List.getElem_cons_succ, List.getElem_cons_zero, List.setIfInBounds_toArray, List.set_cons_zero, List.set_cons_succ]
      refine wpAnyT_one (i := 7) rfl (by kernel_rfl) (by kernel_rfl) (fun K hK => ?_)
      refine wpx_call _ _ (by kernel_rfl) (hro.mono ?_)
      rintro z W7 ⟨rfl, hb7⟩
      refine ⟨_, rfl, ?_⟩
      have hb8 : Below wr.heap.size wr W7 := ((Below.refl _ _).drew).trans (hb7.mono (Nat.le_refl _))
      replace hT : (fun w' : World => w'.cell? ⟨mB, k, none⟩ = some (.int .u8 RK) ∧ w'.rangeAt w.heap.size 0 VV) W7 := (HX.out _ hb8).1
      replace hS : (fun _ : World => True) W7 := trivial
      refine hK.out _ _ hT (fun _ => hS) ?_
      clear hK K
      try simp only [Act.put, List.getElem_toArray, List.getElem_cons_succ, List.getElem_cons_zero, List.setIfInBounds_toArray, List.set_cons_zero, List.set_cons_succ]
      refine wpAnyT_held (i := 8) (v := .bool false) rfl (by kernel_rfl) (by kernel_rfl) (by kernel_rfl) (fun _ _ _ h => h) (by kernel_rfl) hT (fun _ => hS) (by kernel_rfl) ?_ ?_
      · intro wx hSw; go_split_ands; go_simp
      simp only [Act.put, List.getElem_toArray, List.getElem_cons_succ, List.getElem_cons_zero, List.setIfInBounds_toArray, List.set_cons_zero, List.set_cons_succ]
      refine wpAnyT_held (i := 9) (v := ?_) rfl (by kernel_rfl) (by kernel_rfl) (by kernel_rfl) (fun _ _ _ h => h) (by kernel_rfl) hT (fun _ => hS) (by kernel_rfl) ?_ ?_
      rotate_left
      · intro wx hSw; go_split_ands; go_simp; try with_reducible rfl
      simp only [Act.put, List.getElem_toArray, List.getElem_cons_succ, List.getElem_cons_zero, List.setIfInBounds_toArray, List.set_cons_zero, List.set_cons_succ]
      refine wpAnyT_held (i := 10) (v := ?_) rfl (by kernel_rfl) (by kernel_rfl) (by kernel_rfl) (fun _ _ _ h => h) (by kernel_rfl) hT (fun _ => hS) (by kernel_rfl) ?_ ?_
      rotate_left
      · intro wx hSw; go_split_ands; go_simp; try with_reducible rfl
      simp only [Act.put, List.getElem_toArray, List.getElem_cons_succ, List.getElem_cons_zero, List.setIfInBounds_toArray, List.set_cons_zero, List.set_cons_succ]
      refine wpAnyT_held (i := 11) (v := ?_) rfl (by kernel_rfl) (by kernel_rfl) (by kernel_rfl) (fun _ _ _ h => h) (by kernel_rfl) hT (fun _ => hS) (by kernel_rfl) ?_ ?_
      rotate_left
      · intro wx hSw; go_split_ands; go_simp; try with_reducible rfl
      simp only [Act.put, List.getElem_toArray, List.getElem_cons_succ, List.getElem_cons_zero, List.setIfInBounds_toArray, List.set_cons_zero, List.set_cons_succ]
      refine wpAnyT_held (i := 12) (v := ?_) rfl (by kernel_rfl) (by kernel_rfl) (by kernel_rfl) (fun _ _ _ h => h) (by kernel_rfl) hT (fun _ => hS) (by kernel_rfl) ?_ ?_
      rotate_left
      · intro wx hSw; go_split_ands; go_simp; try with_reducible rfl
      simp only [Act.put, List.getElem_toArray, List.getElem_cons_succ, List.getElem_cons_zero, List.setIfInBounds_toArray, List.set_cons_zero, List.set_cons_succ]
      refine wpAnyT_held (i := 13) (v := .bool false) rfl (by kernel_rfl) (by kernel_rfl) (by kernel_rfl) (fun _ _ _ h => h) (by kernel_rfl) hT (fun _ => hS) (by kernel_rfl) ?_ ?_
      · intro wx hSw; go_split_ands; go_simp
      simp only [Act.put, List.getElem_toArray, List.getElem_cons_succ, List.getElem_cons_zero, List.setIfInBounds_toArray, List.set_cons_zero, List.set_cons_succ]
      refine wpAnyT_held (i := 14) (v := .bool false) rfl (by kernel_rfl) (by kernel_rfl) (by kernel_rfl) (fun _ _ _ h => h) (by kernel_rfl) hT (fun _ => hS) (by kernel_rfl) ?_ ?_
      · intro wx hSw; go_split_ands; go_simp
      simp only [Act.put, List.getElem_toArray, List.getElem_cons_succ, List.getElem_cons_zero, List.setIfInBounds_toArray, List.set_cons_zero, List.set_cons_succ]
      refine wpAnyT_done (by kernel_rfl) ?_ _
      clear hT hS hro hb7 hne
      obtain ⟨-, r1, r2, r3, r4⟩ := HX.out _ hb8
      clear HX hb8
      go_wp2
      go_roundw
      case rel => exact ⟨k + 1, by omega, by push_cast; rfl, r1, r2, r3, r4⟩
      case measure => simp [intOf]; omega
    · obtain rfl : k = 8 := by omega
      go_wp2
      go_ret
      exact ⟨rfl, hB⟩
end Go.Proofs.Ythodlbkgggaibaa

