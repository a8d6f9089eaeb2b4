/- disk: the reference's whole records. -/
import Derived.Test.YtknomnnbebhijabDoorDx1
import Derived.Test.YtknomnnbebhijabDoorMGate3Gate4
import Derived.Test.YtknomnnbebhijabDoorStrC
import Derived.Laws.BitsLemmas
namespace Go.Proofs.YtknomnnbebhijabDoor
open Go.RowKit Go.Shelf
set_option maxRecDepth 20000
set_option linter.unusedSimpArgs false

theorem or_i64D (a b : Nat) (ha : a < 256) (hb : b < 256) : bits .or .i64 ((a * 256 : Nat) : Int) (b : Int) = ((a * 256 + b : Nat) : Int) := by
  have h3 : a * 256 ||| b = a * 256 + b := by
    have := Nat.two_pow_add_eq_or_of_lt (i := 8) (b := b) (by omega) a
    rw [Nat.mul_comm] at this
    exact this.symm
  have hx : a * 256 ||| b < 2 ^ 64 := Nat.or_lt_two_pow (by omega) (by omega)
  have h1 : (BitVec.ofInt 64 ((a * 256 : Nat) : Int)).toNat = a * 256 := by
    rw [BitVec.ofInt_natCast, BitVec.toNat_ofNat]; exact Nat.mod_eq_of_lt (by omega)
  have h2 : (BitVec.ofInt 64 (b : Int)).toNat = b := by
    rw [BitVec.ofInt_natCast, BitVec.toNat_ofNat]; exact Nat.mod_eq_of_lt (by omega)
  show IntKind.i64.wrap ((BitVec.ofInt 64 ((a * 256 : Nat) : Int) ||| BitVec.ofInt 64 (b : Int)).toNat : Int) = _
  rw [BitVec.toNat_or, h1, h2]
  rw [h3] at hx ⊢
  rw [IntKind.wrap_i64]
  omega
/-- Whether the record at the beginning is whole, asked by all its bytes at once. -/
theorem firstN_all (y : List Int) (h1 : ¬ y.length < 10) (h2 : ¬ y.length < toldN y) : firstN y = if recL ((y.drop 10).take (toldN y - 10)) = y.take (toldN y) then toldN y else 0 := by
  have ht : 10 ≤ toldN y := by unfold toldN; omega
  unfold firstN
  rw [if_neg h1, if_neg h2]
  have e : y.take (toldN y) = y.take 10 ++ (y.drop 10).take (toldN y - 10) := by
    have := List.take_add (l := y) (i := 10) (j := toldN y - 10)
    rw [show 10 + (toldN y - 10) = toldN y by omega] at this
    exact this
  by_cases h : y.take 10 = headL ((y.drop 10).take (toldN y - 10))
  · rw [if_pos h, if_pos]
    rw [e, recL, ← h]
  · rw [if_neg h, if_neg]
    intro h'
    rw [e, recL] at h'
    exact h ((List.append_inj h' (by rw [headL_length, List.length_take]; omega)).1.symm)
section
variable (base R : Nat) (v : Value) (z : List Int) (s : Nat) (w : World)
set_option maxHeartbeats 8000000 in
theorem rWhole_any (hD : RefAt w base R v z s) :
    Calls Tryd.prog 33 #[.pointer (some ⟨R, 0, none⟩)] w fun e w' => ∃ v', e = .returned (.tuple #[v', .int .i64 (trimN z)]) ∧ RowsAt w' w.heap.size v' (recsL z) ∧ Below w.heap.size w w' := by
  obtain ⟨x, c, rfl, hb, hx⟩ := hD.buf.bytes
  have hz := hD.isb
  have hzl := hD.len
  have hRl := hD.box.lt
  have c0w : w.cell? ⟨R, 0, none⟩ = some (.slice x z.length c) := hD.box.cell 0
  have HZ : Veil (z.length ≤ 65536) := ⟨hzl⟩
  obtain ⟨zl, hzz⟩ : ∃ q, z.length = q := ⟨_, rfl⟩
  have HZL := Veil.mk hzz
  rw [hzz] at c0w hb hzl
  clear hD hzz
  go_enter Tryd.func33, Tryd.ntmps33
  go_wp2
  go_loopw [4, 5] (fun o p wr => ∃ (k : Nat) (oo : Value), k ≤ (wholeN z).length ∧ p = .int .i64 (sumK (wholeN z) k : Nat) ∧ oo = o ∧ RowsAt wr w.heap.size oo ((List.range k).map (dataK z)) ∧ Below w.heap.size w wr) (fun _ p _ => 65536 - (intOf p).toNat)
  case atStart => exact ⟨0, _, Nat.zero_le _, rfl, rfl, RowsAt.nil _ _, Below.refl _ _⟩
  case round =>
    obtain ⟨k, oo, hk, rfl, rfl, hrs, hB⟩ := hrel
    have c0 : wr.cell? ⟨R, 0, none⟩ = some (.slice x zl c) := (hB.cell (p := ⟨R, 0, none⟩) hRl).trans c0w
    have hat := (wholeN_at _ z rfl k).2.2 hk
    have hNk := wholeN_at _ z rfl k
    rw [HZL.out] at hat
    obtain ⟨at_, hatq⟩ : ∃ q, sumK (wholeN z) k = q := ⟨_, rfl⟩
    have HAT := Veil.mk hatq
    rw [hatq] at hat hNk ⊢
    clear hatq
    have HEX : Veil (firstN (z.drop at_) = 0 → recsL z = (List.range k).map (dataK z) ∧ trimN z = at_) := ⟨fun h0 => by
      have hkN : k = (wholeN z).length := by
        by_cases hlt : k < (wholeN z).length
        · have h1 := hNk.1 hlt
          have h2 := wholeN_pos z k hlt
          omega
        · omega
      subst hkN
      exact ⟨rfl, HAT.out⟩⟩
    by_cases h10 : zl < at_ + 10
    · have hge : ¬ (at_ : Int) + 10 ≤ (zl : Int) := by omega
      have H0 := Veil.mk (HEX.out (by unfold firstN; rw [if_pos (by rw [List.length_drop, HZL.out]; omega)]))
      clear HEX hNk
      go_wp2
      go_ret2
      exact ⟨_, by rw [H0.out.2]; rfl, by rw [H0.out.1]; exact hrs, hB⟩
    · have hge : (at_ : Int) + 10 ≤ (zl : Int) := by omega
      obtain ⟨g, rfl⟩ : ∃ g, x = some ⟨g, 0, none⟩ := by
        rcases hx with rfl | h
        · have h1 := hb.nil rfl
          have h2 := hb.le
          omega
        · exact h
      have hbr := hb.below hB
      have hcell : ∀ j, j < zl → wr.cell? ⟨g, j, none⟩ = some (.int .u8 (z[j]?.getD 0)) := fun j hj => by
        rcases hbr.at_ with h0 | ⟨b', off', hx', hc'⟩
        · omega
        · cases hx'
          have := hc' j hj
          rwa [Nat.zero_add] at this
      have gB : ∀ j : Nat, 0 ≤ z[j]?.getD 0 ∧ z[j]?.getD 0 ≤ 255 := fun j => by
        cases hj : z[j]? with
        | none => simp
        | some v => exact hz v (List.mem_of_getElem? hj)
      have cp := hcell at_ (by omega)
      have cq := hcell (at_ + 1) (by omega)
      obtain ⟨hp0, hp255⟩ := gB at_
      obtain ⟨hq0, hq255⟩ := gB (at_ + 1)
      have hp : (z.drop at_)[0]?.getD 0 = z[at_]?.getD 0 := by rw [List.getElem?_drop, Nat.add_zero]
      have hq : (z.drop at_)[1]?.getD 0 = z[at_ + 1]?.getD 0 := by rw [List.getElem?_drop]
      obtain ⟨pp, hpp⟩ : ∃ q, z[at_]?.getD 0 = q := ⟨_, rfl⟩
      obtain ⟨qq, hqq⟩ : ∃ q, z[at_ + 1]?.getD 0 = q := ⟨_, rfl⟩
      rw [hpp] at cp hp0 hp255 hp
      rw [hqq] at cq hq0 hq255 hq
      obtain ⟨n, hn⟩ : ∃ n : Nat, pp * 256 + qq = (n : Int) := ⟨(pp * 256 + qq).toNat, by omega⟩
      have HT : Veil (toldN (z.drop at_) = 10 + n) := ⟨by unfold toldN; rw [hp, hq]; omega⟩
      have hor : bits .or .i64 (pp * 256) qq = (n : Int) := by
        have := or_i64D pp.toNat qq.toNat (by omega) (by omega)
        have e1 : ((pp.toNat * 256 : Nat) : Int) = pp * 256 := by omega
        have e2 : (qq.toNat : Int) = qq := by omega
        rw [e1, e2] at this
        rw [this]; omega
      have hn2 : n ≤ 65535 := by omega
      have hw1 : IntKind.i64.wrap ((at_ : Int) + 1) = (at_ : Int) + 1 := by rw [IntKind.wrap_i64]; omega
      have hi1 : (at_ : Int) + 1 < (zl : Int) := by omega
      have hi0 : (at_ : Int) < (zl : Int) := by omega
      have ht1 : ((at_ : Int) + 1).toNat = at_ + 1 := by omega
      clear gB hcell hp hq hpp hqq hn
      go_upto_region 4 with fail
      go_quiet ((fail))
      refine forget (p := fun y => Exit.then _ _ _ _ y) (fun X => X.heap = wr.heap ∧ Below wr.heap.size wr X) ⟨by simp, below_drewN (Below.refl _ _) _⟩ ?_
      rintro X ⟨hXh, hX⟩
      have hBX := hB.trans (hX.mono hB.size)
      have hrsX := hrs.far hX
      have c0X : X.cell? ⟨R, 0, none⟩ = some (.slice (some ⟨g, 0, none⟩) zl c) := (World.cell?_of_block (w := wr) (w' := X) (a := ⟨R, 0, none⟩) (by rw [hXh])).trans c0
      have hbX := hbr.below hX
      have hle := hb.le
      have hwa : IntKind.i64.wrap ((at_ : Int) + 10) = (at_ : Int) + 10 := by rw [IntKind.wrap_i64]; omega
      have hwb : IntKind.i64.wrap ((at_ : Int) + 10 + (n : Int)) = (at_ : Int) + 10 + (n : Int) := by rw [IntKind.wrap_i64]; omega
      clear cp cq hor hw1 hi1 hi0 ht1 hp0 hp255 hq0 hq255 c0 hXh hrs hbr
      by_cases hlt : zl < at_ + 10 + n
      · have hlti : (zl : Int) < (at_ : Int) + 10 + (n : Int) := by omega
        have H0 := Veil.mk (HEX.out (by unfold firstN; rw [if_neg (by rw [List.length_drop, HZL.out]; omega), if_pos (by rw [List.length_drop, HZL.out, HT.out]; omega)]))
        clear HEX hNk hbX
        go_wp2
        go_ret2
        exact ⟨_, by rw [H0.out.2]; rfl, by rw [H0.out.1]; exact hrsX, hBX⟩
      · have hlti : ¬ (zl : Int) < (at_ : Int) + 10 + (n : Int) := by omega
        obtain ⟨a1, ha1⟩ : ∃ q, at_ + 10 = q := ⟨_, rfl⟩
        have hs6 : ∀ wx, (Instr.slice 31 (.slice (some ⟨g, 0, none⟩) zl c) (some (.int .i64 ((at_ : Int) + 10))) (some (.int .i64 ((at_ : Int) + 10 + (n : Int)))) none).run Tryd.prog wx = .ok (.slice (subA (some ⟨g, 0, none⟩) c a1) n (c - a1)) wx := fun wx => by
          rw [run_slice_lh wx 31 _ zl c elemB .i64 .i64 _ _ (by omega) (by omega) (by omega), sizeU8]
          rw [show ((at_ : Int) + 10).toNat = a1 by omega, show ((at_ : Int) + 10 + (n : Int)).toNat = a1 + n by omega]
          simp [sliced, subA, Result.andThen]
        have hs12 : ∀ wx, (Instr.slice 31 (.slice (some ⟨g, 0, none⟩) zl c) (some (.int .i64 (at_ : Int))) (some (.int .i64 ((at_ : Int) + 10 + (n : Int)))) none).run Tryd.prog wx = .ok (.slice (subA (some ⟨g, 0, none⟩) c at_) (10 + n) (c - at_)) wx := fun wx => by
          rw [run_slice_lh wx 31 _ zl c elemB .i64 .i64 _ _ (by omega) (by omega) (by omega), sizeU8]
          rw [show ((at_ : Int)).toNat = at_ by omega, show ((at_ : Int) + 10 + (n : Int)).toNat = at_ + (10 + n) by omega]
          simp [sliced, subA, Result.andThen]
        have hdt := hbX.cut a1 (a1 + n) (by omega) (by omega)
        rw [show a1 + n - a1 = n by omega] at hdt
        have hal := hbX.cut at_ (at_ + (10 + n)) (by omega) (by omega)
        rw [show at_ + (10 + n) - at_ = 10 + n by omega] at hal
        have e1 : (z.drop a1).take n = ((z.drop at_).drop 10).take (toldN (z.drop at_) - 10) := by rw [HT.out, List.drop_drop, ha1, show 10 + n - 10 = n by omega]
        have HF : Veil (firstN (z.drop at_) = if recL ((z.drop a1).take n) = (z.drop at_).take (10 + n) then 10 + n else 0) := ⟨by
          rw [firstN_all _ (by rw [List.length_drop, HZL.out]; omega) (by rw [List.length_drop, HZL.out, HT.out]; omega), ← e1, HT.out]⟩
        have hi1 : isB ((z.drop a1).take n) := fun v hv => hz v (List.mem_of_mem_drop (List.mem_of_mem_take hv))
        have hi2 : isB ((z.drop at_).take (10 + n)) := fun v hv => hz v (List.mem_of_mem_drop (List.mem_of_mem_take hv))
        obtain ⟨DT, hDT⟩ : ∃ q, (z.drop a1).take n = q := ⟨_, rfl⟩
        obtain ⟨AL, hAL⟩ : ∃ q, (z.drop at_).take (10 + n) = q := ⟨_, rfl⟩
        rw [hDT] at hdt hi1 HF
        rw [hAL] at hal hi2 HF
        have HDT := Veil.mk hDT
        have HA1 := Veil.mk ha1
        obtain ⟨y1, hy1⟩ : ∃ q, subA (some ⟨g, 0, none⟩) c a1 = q := ⟨_, rfl⟩
        obtain ⟨y2, hy2⟩ : ∃ q, subA (some ⟨g, 0, none⟩) c at_ = q := ⟨_, rfl⟩
        rw [hy1] at hs6 hdt
        rw [hy2] at hs12 hal
        obtain ⟨c1, hc1⟩ : ∃ q, c - a1 = q := ⟨_, rfl⟩
        obtain ⟨c2, hc2⟩ : ∃ q, c - at_ = q := ⟨_, rfl⟩
        rw [hc1] at hs6 hdt
        rw [hc2] at hs12 hal
        clear hDT hAL hy1 hy2 e1 ha1 hc1 hc2
        go_upto_region 7 with fail
        have hRec := rRecord_any y1 n c1 DT X.drew (hdt.below (Below.refl _ _).drew) (by omega)
        obtain ⟨SA, hSA⟩ : ∃ q, strOfNums AL = q := ⟨_, rfl⟩
        obtain ⟨SR, hSR⟩ : ∃ q, strOfNums (recL DT) = q := ⟨_, rfl⟩
        have hSE := strEq (recL DT) AL (recL_in DT hi1) hi2
        rw [hSA, hSR] at hSE
        have keep : ∀ w', Below X.heap.size X w' → w'.cell? ⟨R, 0, none⟩ = some (.slice (some ⟨g, 0, none⟩) zl c) ∧ (convert 31 9 (.slice y2 (10 + n) c2)).run Tryd.prog w' = .ok (.string SA) w' := fun w' hb' =>
          ⟨(hb'.cell (p := ⟨R, 0, none⟩) (block_lt_of_cell c0X)).trans c0X, by rw [← hSA]; exact conv_bytes (hal.below hb')⟩
        have hRecC : ∀ wx vv, OwnB wx X.heap.size vv (recL DT) → (convert 31 9 vv).run Tryd.prog wx = .ok (.string SR) wx := fun wx vv hvv => by
          obtain ⟨xx, nn, cc, rfl, _⟩ := hvv.isSlice
          rw [← hSR]; exact conv_bytes hvv.bytes.2
        refine wp_region_gateT (fun w' => w'.cell? ⟨R, 0, none⟩ = some (.slice (some ⟨g, 0, none⟩) zl c) ∧ (convert 31 9 (.slice y2 (10 + n) c2)).run Tryd.prog w' = .ok (.string SA) w') (fun _ => True) 14 (by kernel_rfl) ?_
        have hS := trivial
        have hT := keep _ (Below.refl _ _).drew
        refine wpAnyT_held (i := 0) (v := ?_) rfl (by kernel_rfl) (by kernel_rfl) (by kernel_rfl) (fun _ _ _ h => h) (by kernel_rfl) hT (fun _ => hS) (by kernel_rfl) ?_ ?_
        rotate_left
        · intro wx hSw; go_split_ands; go_simp; try with_reducible rfl
        simp only [Act.put, List.getElem_toArray, List.getElem_cons_succ, List.getElem_cons_zero, List.setIfInBounds_toArray, List.set_cons_zero, List.set_cons_succ]
        refine wpAnyT_held (i := 3) (v := ?_) rfl (by kernel_rfl) (by kernel_rfl) (by kernel_rfl) (fun _ _ _ h => h) (by kernel_rfl) hT (fun _ => hS) (by kernel_rfl) ?_ ?_
        rotate_left
        · intro wx hSw; go_split_ands; go_simp; try with_reducible rfl
        simp only [Act.put, List.getElem_toArray, List.getElem_cons_succ, List.getElem_cons_zero, List.setIfInBounds_toArray, List.set_cons_zero, List.set_cons_succ]
        refine wpAnyT_held (i := 4) (v := ?_) rfl (by kernel_rfl) (by kernel_rfl) (by kernel_rfl) (fun _ _ _ h => h) (by kernel_rfl) hT (fun _ => hS) (by kernel_rfl) ?_ ?_
        rotate_left
        · intro wx hSw; go_split_ands; go_simp; try with_reducible rfl
        simp only [Act.put, List.getElem_toArray, List.getElem_cons_succ, List.getElem_cons_zero, List.setIfInBounds_toArray, List.set_cons_zero, List.set_cons_succ]
        refine wpAnyT_held (i := 5) (v := ?_) rfl (by kernel_rfl) (by kernel_rfl) (by kernel_rfl) (fun _ _ _ h => h) (by kernel_rfl) hT (fun _ => hS) (by kernel_rfl) ?_ ?_
        rotate_left
        · intro wx hSw; go_split_ands; go_simp; try with_reducible rfl
        simp only [Act.put, List.getElem_toArray, List.getElem_cons_succ, List.getElem_cons_zero, List.setIfInBounds_toArray, List.set_cons_zero, List.set_cons_succ]
        refine wpAnyT_held (i := 6) (v := ?_) rfl (by kernel_rfl) (by kernel_rfl) (by kernel_rfl) (fun _ _ _ h => h) (by kernel_rfl) hT (fun _ => hS) (by kernel_rfl) ?_ ?_
        rotate_left
        · intro wx hSw; go_split_ands; go_simp; try with_reducible rfl
        simp only [Act.put, List.getElem_toArray, List.getElem_cons_succ, List.getElem_cons_zero, List.setIfInBounds_toArray, List.set_cons_zero, List.set_cons_succ]
        refine wpAnyT_held (i := 7) (v := ?_) rfl (by kernel_rfl) (by kernel_rfl) (by kernel_rfl) (fun _ _ _ h => h) (by kernel_rfl) hT (fun _ => hS) (by kernel_rfl) ?_ ?_
        rotate_left
        · intro wx hSw; go_split_ands; go_simp; try with_reducible rfl
        simp only [Act.put, List.getElem_toArray, List.getElem_cons_succ, List.getElem_cons_zero, List.setIfInBounds_toArray, List.set_cons_zero, List.set_cons_succ]
        refine wpAnyT_held (i := 8) (v := ?_) rfl (by kernel_rfl) (by kernel_rfl) (by kernel_rfl) (fun _ _ _ h => h) (by kernel_rfl) hT (fun _ => hS) (by kernel_rfl) ?_ ?_
        rotate_left
        · intro wx hSw; go_split_ands; go_simp; try with_reducible rfl
        simp only [Act.put, List.getElem_toArray, List.getElem_cons_succ, List.getElem_cons_zero, List.setIfInBounds_toArray, List.set_cons_zero, List.set_cons_succ]
        refine wpAnyT_held (i := 9) (v := ?_) rfl (by kernel_rfl) (by kernel_rfl) (by kernel_rfl) (fun _ _ _ h => h) (by kernel_rfl) hT (fun _ => hS) (by kernel_rfl) ?_ ?_
        rotate_left
        · intro wx hSw; go_split_ands; go_simp; try with_reducible rfl
        simp only [Act.put, List.getElem_toArray, List.getElem_cons_succ, List.getElem_cons_zero, List.setIfInBounds_toArray, List.set_cons_zero, List.set_cons_succ]
        refine wpAnyT_held (i := 10) (v := ?_) rfl (by kernel_rfl) (by kernel_rfl) (by kernel_rfl) (fun _ _ _ h => h) (by kernel_rfl) hT (fun _ => hS) (by kernel_rfl) ?_ ?_
        rotate_left
        · intro wx hSw; go_split_ands; go_simp; try with_reducible rfl
        simp only [Act.put, List.getElem_toArray, List.getElem_cons_succ, List.getElem_cons_zero, List.setIfInBounds_toArray, List.set_cons_zero, List.set_cons_succ]
        refine wpAnyT_held (i := 11) (v := ?_) rfl (by kernel_rfl) (by kernel_rfl) (by kernel_rfl) (fun _ _ _ h => h) (by kernel_rfl) hT (fun _ => hS) (by kernel_rfl) ?_ ?_
        rotate_left
        · intro wx hSw; go_split_ands; go_simp; try with_reducible rfl
        simp only [Act.put, List.getElem_toArray, List.getElem_cons_succ, List.getElem_cons_zero, List.setIfInBounds_toArray, List.set_cons_zero, List.set_cons_succ]
        refine wpAnyT_held (i := 12) (v := .slice y2 (10 + n) c2) rfl (by kernel_rfl) (by kernel_rfl) (by kernel_rfl) (fun _ _ _ h => h) (by kernel_rfl) hT (fun _ => hS) (by kernel_rfl) ?_ ?_
        · intro wx hSw; go_split_ands; go_simp
        simp only [Act.put, List.getElem_toArray, List.getElem_cons_succ, List.getElem_cons_zero, List.setIfInBounds_toArray, List.set_cons_zero, List.set_cons_succ]
        refine wpAnyT_held (i := 13) (v := .string SA) rfl (by kernel_rfl) (by kernel_rfl) (by kernel_rfl) (fun _ _ _ h => h) (by kernel_rfl) hT (fun _ => hS) (by kernel_rfl) ?_ ?_
        · intro wx hSw; go_split_ands; go_simp
        simp only [Act.put, List.getElem_toArray, List.getElem_cons_succ, List.getElem_cons_zero, List.setIfInBounds_toArray, List.set_cons_zero, List.set_cons_succ]
        refine wpAnyT_one (i := 1) rfl (by kernel_rfl) (by kernel_rfl) (fun K hK => ?_)
        refine wpx_call _ _ (by kernel_rfl) (hRec.mono ?_)
        rintro e w3 ⟨v3, rfl, ho3, hb3⟩
        refine ⟨_, rfl, ?_⟩
        have hB3 : Below X.heap.size X w3 := ((Below.refl _ _).drew).trans hb3
        replace hT := keep _ hB3
        have hcv := hRecC w3 v3 ho3
        clear hSA hSR hRec hRecC keep
        refine hK.out _ _ hT (fun _ => hS) ?_
        clear hK K
        try simp only [Act.put, List.getElem_toArray, List.getElem_cons_succ, List.getElem_cons_zero, List.setIfInBounds_toArray, List.set_cons_zero, List.set_cons_succ]
        refine wpAnyT_one (i := 2) rfl (by kernel_rfl) (by kernel_rfl) (fun K hK => ?_)
        go_simp
        refine hK.out _ _ hT (fun _ => hS) ?_
        clear hK K
        try simp only [Act.put, List.getElem_toArray, List.getElem_cons_succ, List.getElem_cons_zero, List.setIfInBounds_toArray, List.set_cons_zero, List.set_cons_succ]
        refine wpAnyT_one (i := 14) rfl (by kernel_rfl) (by kernel_rfl) (fun K hK => ?_)
        go_simp
        refine hK.out _ _ hT (fun _ => trivial) ?_
        clear hK K
        refine wpAnyT_done (by kernel_rfl) ?_ _
        have hB3w := hBX.trans (hB3.mono hBX.size)
        have hrs3 := hrsX.far hB3
        have c03 := hT.1
        have hdt3 := hdt.below hB3
        clear hT hS hcv hb3 ho3 hal hdt hrsX c0X hbX hs12
        by_cases hEq : recL DT = AL
        · have e1 : (recL DT == AL) = true := by simp [hEq]
          rw [e1]
          rw [if_pos hEq] at HF
          have hkN : k < (wholeN z).length := by
            by_cases h : k < (wholeN z).length
            · exact h
            · have := hNk.2.1 (by omega)
              rw [HF.out] at this
              omega
          have hwk : (wholeN z)[k] = 10 + n := by rw [← hNk.1 hkN, HF.out]
          have HDK : Veil (dataK z k = DT) := ⟨by
            unfold dataK
            rw [List.getElem?_eq_getElem hkN, Option.getD_some, hwk, HAT.out, HA1.out, show 10 + n - 10 = n by omega, HDT.out]⟩
          have HSK : Veil (sumK (wholeN z) (k + 1) = at_ + 10 + n) := ⟨by rw [sumK_succ _ _ hkN, hwk, HAT.out]; omega⟩
          have hfew := wholeN_few z
          have hkl : k ≤ 65536 := by have := HZ.out; omega
          have hkN2 : k + 1 ≤ (wholeN z).length := hkN
          clear hwk HEX hNk hSE hEq hkN
          obtain ⟨iw, hiw, hwz, hws, hwb'⟩ := info_parts infoSlD
          have hbE : Below w3.heap.size w3 (w3.alloc (.cells #[] 5)) := (Below.refl _ _).alloc (Nat.le_refl _) _
          have hE0 : OwnB (w3.alloc (.cells #[] 5)) w3.heap.size (.slice (some ⟨w3.heap.size, 0, none⟩) 0 0) [] := OwnB.ofHolds (Holds.new w3 .u8 5 []) (Nat.le_refl _) (by simp)
          have hdt4 := hdt3.below hbE
          have hw3 : w.heap.size ≤ w3.heap.size := hB3w.size
          have hw10 : IntKind.i64.wrap (10 + (n : Int)) = 10 + (n : Int) := by rw [IntKind.wrap_i64]; omega
          have hwat : IntKind.i64.wrap ((at_ : Int) + (10 + (n : Int))) = ((at_ + 10 + n : Nat) : Int) := by rw [IntKind.wrap_i64]; omega
          clear hdt3 hs6 hwa hwb c03
          go_wp2_with (first
            | (at_builtin; refine wpList_app rfl _ _ rfl w3.heap.size (.slice (some ⟨w3.heap.size, 0, none⟩) 0 0) [] rfl hE0 y1 n c1 DT rfl hdt4 (by simp; omega) (by simp) ?_; intro v4 w4 ho4 hg4; have hB4 := below_grown hbE hE0 hg4 (by simp); rw [List.nil_append] at ho4; have HO4 := Veil.mk ho4; obtain ⟨x4, n4, c4, rfl, hn4⟩ := ho4.isSlice; clear hn4 ho4 hg4; have hb5 : Below w4.heap.size w4 (w4.alloc (.cells #[.slice x4 n4 c4] 31)) := (Below.refl _ _).alloc (Nat.le_refl _) _; have hrs5 := (hrs3.far hB4).far hb5; have hnew := (CellsD.new w4 31 [.slice x4 n4 c4]).cell 0; obtain ⟨vals, hv1, hv2⟩ := id hrs5; have hw4 := hB4.size; have hw5 := hb5.size)
            | (at_builtin; refine wpList_append_own _ rfl _ _ 41 rfl w.heap.size 31 iw _ 1 24 Tryd.underlying41 hiw hwz hws hwb' rfl (by decide) _ _ vals rfl hv1 ⟨w4.heap.size, 0, none⟩ 1 1 [.slice x4 n4 c4] rfl rfl (fun j u' hu' => by
                match j, hu' with
                | 0, hu' => rw [Addr.add_mid']; exact hnew.trans hu'
                | j + 1, hu' => simp at hu') (by simp [Value.oneCell']) (by rw [List.length_map, List.length_range]; simp [maxLen]; omega) (by rw [List.length_map, List.length_range]; omega) (by omega) ?_; intro v6 w6 ho6 hg6 _))
          have hg7 : (w4.alloc (.cells #[.slice x4 n4 c4] 31)).grownBy w6 oo.ownBlock := hg6
          have hB6 : Below w.heap.size w w6 := ((hB3w.trans (hB4.mono hw3)).trans (hb5.mono (by omega))).grown hg7 (by omega) (fun q hq => (hrs5.own q hq).1)
          have ho4' : OwnB (w4.alloc (.cells #[.slice x4 n4 c4] 31)) w.heap.size (.slice x4 n4 c4) DT := (HO4.out.lessG hw3).keepC fun q cur _ hq => hb5.block q (Array.getElem?_eq_some_iff.1 hq).1
          have hvl : vals.length = ((List.range k).map (dataK z)).length := by have := hv1.1; rwa [Nat.mul_one] at this
          have hR6 := RowsAt.snoc (w' := w6) hvl hv2 ho4' ho6 fun q cur _ hq => hg7.block q (Array.getElem?_eq_some_iff.1 hq).1 (fun e => by
            obtain ⟨_, _, cur', hc'⟩ := hrs5.own q e.symm
            rw [hq] at hc'
            injection hc' with hc'
            injection hc' with _ e2 _
            exact absurd e2 (by decide))
          have hzz := HZL.out
          refine ⟨⟨k + 1, v6, hkN2, ?_, rfl, ?_, hB6⟩, ?_⟩
          · rw [HSK.out]; push_cast; rfl
          · rw [List.range_succ, List.map_append, List.map_singleton, HDK.out]; exact hR6
          · simp only [intOf]; omega
        · have e1 : (recL DT == AL) = false := by simp [hEq]
          rw [e1]
          rw [if_neg hEq] at HF
          have H0 := Veil.mk (HEX.out HF.out)
          clear HEX hNk hSE
          go_wp2
          go_ret2
          exact ⟨_, by rw [H0.out.2]; rfl, by rw [H0.out.1]; exact hrs3, hB3w⟩
end
end Go.Proofs.YtknomnnbebhijabDoor
