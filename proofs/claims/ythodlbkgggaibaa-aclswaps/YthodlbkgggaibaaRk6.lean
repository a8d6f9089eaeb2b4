/- Both books tell the same. -/
import Derived.Test.YthodlbkgggaibaaRk5
namespace Go.Proofs.Ythodlbkgggaibaa
open Go.RowKit Go.Shelf
set_option maxRecDepth 20000
set_option linter.unusedSimpArgs false
theorem roleP_8 (L : List Ent) (v : List Int) : roleP L 8 v = 0 := by unfold roleP; rw [if_pos (by decide)]
set_option maxHeartbeats 16000000 in
theorem asame_any (B n H b R : Nat) (L : List Ent) (x : Option Addr) (len cap : Nat) (ds : List Ev) (v : List Int) (w : World) (hBB : BothA B n w H b R L) (hn : n ≤ 1000) (hd : EvsAt w x len cap ds) (hv : v.length = 8) :
    Calls Try.prog 15 #[.pointer (some ⟨H, 0, none⟩), .pointer (some ⟨R, 0, none⟩), .slice x len cap, .agg (row .u32 v)] w fun e w' => e = .returned (.bool true) ∧ Below w.heap.size w w' := by
  have hdl := hd.len_eq
  have HDL := Veil.mk hdl
  clear hdl
  obtain ⟨VV, hVV⟩ : ∃ q, v.map (Value.int .u32) = q := ⟨_, rfl⟩
  have hrow : row .u32 v = VV.toArray := by rw [← hVV]; rfl
  have hB0 : Below w.heap.size w (w.alloc (.cells VV.toArray 25)) := (Below.refl _ _).alloc (Nat.le_refl _) _
  have hy0 := CellsAt.new w 25 VV
  have iV : (Try.prog.info? 25).map (·.size) = some VV.length := by rw [← hVV, List.length_map, hv]; kernel_rfl
  have uD := Try.underlying38
  have uV := Try.underlying25
  obtain ⟨rx, rc, rbx, rbc, hrf⟩ := hBB.ref
  have hlL := hBB.len
  have HCT : Veil (∀ W, Below w.heap.size w W → ∀ da ds, okD da ds → (Calls Try.prog 23 #[.pointer (some ⟨H, 0, none⟩), .agg (dotC da ds).toArray] W fun r w' => r = .returned (.bool (cntB L (da, ds))) ∧ Below W.heap.size W w') ∧ (Calls Try.prog 28 #[.pointer (some ⟨R, 0, none⟩), .agg (dotC da ds).toArray] W fun r w' => r = .returned (.bool (cntB L (da, ds))) ∧ Below W.heap.size W w')) := ⟨fun W hb da ds hd => ⟨bcountsC H b L da ds W (hBB.code.far hb) hd, rcounts_any R L rx rbx rc rbc da ds W (hrf.far hb) (by omega) hBB.good⟩⟩
  have HLL : Veil (∀ W, Below w.heap.size w W → (Calls Try.prog 21 #[.pointer (some ⟨H, 0, none⟩)] W fun e w' => e = .returned (.int .i64 L.length) ∧ w' = W) ∧ (Calls Try.prog 29 #[.pointer (some ⟨R, 0, none⟩)] W fun e w' => e = .returned (.int .i64 L.length) ∧ w' = W)) := ⟨fun W hb => ⟨blen_any H b L W (hBB.code.far hb), rblen_any R L rx rbx rc rbc W (hrf.far hb)⟩⟩
  have HMM : Veil (∀ W, Below w.heap.size w W → (Calls Try.prog 16 #[.pointer (some ⟨H, 0, none⟩), .agg (row .u32 v)] W fun e w' => e = .returned (.agg (row .u8 (membersL L v))) ∧ Below W.heap.size W w') ∧ (Calls Try.prog 30 #[.pointer (some ⟨R, 0, none⟩), .agg (row .u32 v)] W fun e w' => e = .returned (.agg (row .u8 (membersL L v))) ∧ Below W.heap.size W w')) := ⟨fun W hb => ⟨members_any H b L v W (hBB.code.far hb) hv, rmembers_any R L rx rbx rc rbc v W (hrf.far hb) hv (by omega) hBB.good⟩⟩
  have HRO : Veil (∀ W, Below w.heap.size w W → Calls Try.prog 17 #[.pointer (some ⟨H, 0, none⟩), .int .u8 8, .agg (v.map (Value.int .u32)).toArray] W fun e w' => e = .returned (.int .u8 0) ∧ Below W.heap.size W w') := ⟨fun W hb => by have := role_any H b L 8 v W (hBB.code.far hb) hv; rw [roleP_8] at this; exact this⟩
  have heq : ∀ wx, (Op.equalIn 10000 34 (.agg (row .u8 (membersL L v))) (.agg (row .u8 (membersL L v)))).run Try.prog wx = .ok true wx := fun wx => by rw [roles_eqIn _ _ (membersL_len _ _) (membersL_len _ _), beq_self_eq_true]
  rw [hrow] at HMM ⊢
  rw [hVV] at HRO
  generalize row .u8 (membersL L v) = MM at HMM heq
  generalize hLN : L.length = LN at HLL
  clear hBB hrf hVV hrow hlL hLN
  go_enter Try.func15, Try.ntmps15
  go_upto_region 1 with fail
  refine forget (p := fun y => Code.wp _ _ _ _ y) (fun W => Below w.heap.size w W ∧ CellsAt W w.heap.size 25 VV) ⟨hB0, hy0⟩ ?_
  clear hB0 hy0
  rintro W0 ⟨hB0, hy0⟩
  go_wp2_with fail
  go_loopw [9] (fun p wr => ∃ k : Nat, k ≤ len ∧ k ≤ 40 ∧ p = .int .i64 (k : Nat) ∧ Below w.heap.size w wr ∧ CellsAt wr w.heap.size 25 VV) (fun p _ => len - (intOf p).toNat)
  case atStart => exact ⟨0, Nat.zero_le _, by omega, rfl, hB0, hy0⟩
  case round =>
    obtain ⟨k, hk, hk40, rfl, hB, hy⟩ := hrel
    clear hB0 hy0
    by_cases h12 : k < len ∧ k < 40
    · obtain ⟨h1, h2⟩ := h12
      have h1i : (k : Int) < (len : Int) := by omega
      have h2i : (k : Int) < 40 := by omega
      have hk0 : (0 : Int) ≤ (k : Int) := by omega
      have hkd : k < ds.length := by have := HDL.out; omega
      obtain ⟨eb, off, rfl, hre0⟩ := hd.rngA k hkd
      have hok := hd.ok ds[k] (List.getElem_mem hkd)
      have hdp := (ev_parts ds[k] hok.past).1
      have HRE : Veil (∀ W, Below w.heap.size w W → W.rangeAt eb (off + k * 17) (dotC ds[k].da ds[k].ds)) := ⟨fun W hb i u hu => by
        have hu2 : ds[k].cells[i]? = some u := by
          rw [← hdp, List.drop_zero, List.getElem?_take] at hu
          split at hu
          · exact hu
          · cases hu
        exact (hb.cell (block_lt_of_cell (hre0 i u hu2))).trans (hre0 i u hu2)⟩
      have HC2 : Veil (∀ W, Below w.heap.size w W → _) := ⟨fun W hb => HCT.out W hb ds[k].da ds[k].ds hok.dot⟩
      have iD : (Try.prog.info? 38).map (·.size) = some (dotC ds[k].da ds[k].ds).length := sizeDot
      have hw1 : IntKind.i64.wrap ((k : Int) + 1) = (k : Int) + 1 := by rw [IntKind.wrap_i64]; omega
      generalize cntB L (ds[k].da, ds[k].ds) = CB at HC2
      generalize dotC ds[k].da ds[k].ds = DV at HC2 HRE iD
      have HB := Veil.mk hB
      have HY := Veil.mk hy
      clear hre0 hok hdp hB hy
      have hc1 := (HC2.out wr.drew HB.out.drew).1
      go_upto_region 4 with fail
      refine wp_region_gateT (fun w' => w'.rangeAt eb (off + k * 17) DV) (fun _ => True) 99 (by kernel_rfl) ?_
      have hT : (fun w' : World => w'.rangeAt eb (off + k * 17) DV) wr.drew := HRE.out wr.drew HB.out.drew
      have hS : (fun _ : World => True) wr.drew := trivial
      refine wpAnyT_held (i := 0) (v := ?_) rfl (by kernel_rfl) (by kernel_rfl) (by kernel_rfl) (fun _ _ _ h => h) (by kernel_rfl) hT (fun _ => hS) (by kernel_rfl) ?_ ?_
      rotate_left
      · intro wx hSw; go_split_ands; go_simp; try with_reducible rfl
      simp only [Act.put, List.getElem_toArray, List.getElem_cons_succ, List.getElem_cons_zero, List.setIfInBounds_toArray, List.set_cons_zero, List.set_cons_succ]
      refine wpAnyT_held (i := 1) (v := ?_) rfl (by kernel_rfl) (by kernel_rfl) (by kernel_rfl) (fun _ _ _ h => h) (by kernel_rfl) hT (fun _ => hS) (by kernel_rfl) ?_ ?_
      rotate_left
      · intro wx hSw; go_split_ands; go_simp; try with_reducible rfl
      simp only [Act.put, List.getElem_toArray, List.getElem_cons_succ, List.getElem_cons_zero, List.setIfInBounds_toArray, List.set_cons_zero, List.set_cons_succ]
      refine wpAnyT_held (i := 2) (v := ?_) rfl (by kernel_rfl) (by kernel_rfl) (by kernel_rfl) (fun _ _ _ h => h) (by kernel_rfl) hT (fun _ => hS) (by kernel_rfl) ?_ ?_
      rotate_left
      · intro wx hSw; go_split_ands; go_simp; try with_reducible rfl
      simp only [Act.put, List.getElem_toArray, List.getElem_cons_succ, List.getElem_cons_zero, List.setIfInBounds_toArray, List.set_cons_zero, List.set_cons_succ]
      refine wpAnyT_held (i := 3) (v := ?_) rfl (by kernel_rfl) (by kernel_rfl) (by kernel_rfl) (fun _ _ _ h => h) (by kernel_rfl) hT (fun _ => hS) (by kernel_rfl) ?_ ?_
      rotate_left
      · intro wx hSw; go_split_ands; go_simp; try with_reducible rfl
      simp only [Act.put, List.getElem_toArray, List.getElem_cons_succ, List.getElem_cons_zero, List.setIfInBounds_toArray, List.set_cons_zero, List.set_cons_succ]
      refine wpAnyT_held (i := 4) (v := ?_) rfl (by kernel_rfl) (by kernel_rfl) (by kernel_rfl) (fun _ _ _ h => h) (by kernel_rfl) hT (fun _ => hS) (by kernel_rfl) ?_ ?_
      rotate_left
      · intro wx hSw; go_split_ands; go_simp; try with_reducible rfl
      simp only [Act.put, List.getElem_toArray, List.getElem_cons_succ, List.getElem_cons_zero, List.setIfInBounds_toArray, List.set_cons_zero, List.set_cons_succ]
      refine wpAnyT_load (i := 5) (dst := some 25) (ty := 38) (x := .tmp 24) (b := eb) (o := ((off + k * 17))) (cs := DV) (by kernel_rfl) (by kernel_rfl) (by kernel_rfl) (by kernel_rfl) (by kernel_rfl) (fun _ _ _ h => h) (by kernel_rfl) hT (fun _ => hS) (by kernel_rfl) (fun _ h => h) uD rfl iD ?_
      simp only [Act.put, List.getElem_toArray, List.getElem_cons_succ, List.getElem_cons_zero, List.setIfInBounds_toArray, List.set_cons_zero, List.set_cons_succ]
      refine wpAnyT_held (i := 7) (v := ?_) rfl (by kernel_rfl) (by kernel_rfl) (by kernel_rfl) (fun _ _ _ h => h) (by kernel_rfl) hT (fun _ => hS) (by kernel_rfl) ?_ ?_
      rotate_left
      · intro wx hSw; go_split_ands; go_simp; try with_reducible rfl
      simp only [Act.put, List.getElem_toArray, List.getElem_cons_succ, List.getElem_cons_zero, List.setIfInBounds_toArray, List.set_cons_zero, List.set_cons_succ]
      refine wpAnyT_held (i := 8) (v := ?_) rfl (by kernel_rfl) (by kernel_rfl) (by kernel_rfl) (fun _ _ _ h => h) (by kernel_rfl) hT (fun _ => hS) (by kernel_rfl) ?_ ?_
      rotate_left
      · intro wx hSw; go_split_ands; go_simp; try with_reducible rfl
      simp only [Act.put, List.getElem_toArray, List.getElem_cons_succ, List.getElem_cons_zero, List.setIfInBounds_toArray, List.set_cons_zero, List.set_cons_succ]
      refine wpAnyT_held (i := 9) (v := ?_) rfl (by kernel_rfl) (by kernel_rfl) (by kernel_rfl) (fun _ _ _ h => h) (by kernel_rfl) hT (fun _ => hS) (by kernel_rfl) ?_ ?_
      rotate_left
      · intro wx hSw; go_split_ands; go_simp; try with_reducible rfl
      simp only [Act.put, List.getElem_toArray, List.getElem_cons_succ, List.getElem_cons_zero, List.setIfInBounds_toArray, List.set_cons_zero, List.set_cons_succ]
      refine wpAnyT_held (i := 10) (v := ?_) rfl (by kernel_rfl) (by kernel_rfl) (by kernel_rfl) (fun _ _ _ h => h) (by kernel_rfl) hT (fun _ => hS) (by kernel_rfl) ?_ ?_
      rotate_left
      · intro wx hSw; go_split_ands; go_simp; try with_reducible rfl
      simp only [Act.put, List.getElem_toArray, List.getElem_cons_succ, List.getElem_cons_zero, List.setIfInBounds_toArray, List.set_cons_zero, List.set_cons_succ]
      refine wpAnyT_held (i := 11) (v := ?_) rfl (by kernel_rfl) (by kernel_rfl) (by kernel_rfl) (fun _ _ _ h => h) (by kernel_rfl) hT (fun _ => hS) (by kernel_rfl) ?_ ?_
      rotate_left
      · intro wx hSw; go_split_ands; go_simp; try with_reducible rfl
      simp only [Act.put, List.getElem_toArray, List.getElem_cons_succ, List.getElem_cons_zero, List.setIfInBounds_toArray, List.set_cons_zero, List.set_cons_succ]
      refine wpAnyT_load (i := 12) (dst := some 32) (ty := 38) (x := .tmp 31) (b := eb) (o := ((off + k * 17))) (cs := DV) (by kernel_rfl) (by kernel_rfl) (by kernel_rfl) (by kernel_rfl) (by kernel_rfl) (fun _ _ _ h => h) (by kernel_rfl) hT (fun _ => hS) (by kernel_rfl) (fun _ h => h) uD rfl iD ?_
      simp only [Act.put, List.getElem_toArray, List.getElem_cons_succ, List.getElem_cons_zero, List.setIfInBounds_toArray, List.set_cons_zero, List.set_cons_succ]
      refine wpAnyT_one (i := 6) rfl (by kernel_rfl) (by kernel_rfl) (fun K hK => ?_)
      refine wpx_call _ _ (by kernel_rfl) (hc1.mono ?_)
      rintro z W1 ⟨rfl, hb1⟩
      refine ⟨_, rfl, ?_⟩
      have hB1 := HB.out.drew.trans (hb1.mono HB.out.size)
      have hc2 := (HC2.out W1 hB1).2
      replace hT : (fun w' : World => w'.rangeAt eb (off + k * 17) DV) W1 := HRE.out W1 hB1
      replace hS : (fun _ : World => True) W1 := trivial
      refine hK.out _ _ hT (fun _ => hS) ?_
      clear hK K
      try simp only [Act.put, List.getElem_toArray, List.getElem_cons_succ, List.getElem_cons_zero, List.setIfInBounds_toArray, List.set_cons_zero, List.set_cons_succ]
      refine wpAnyT_one (i := 13) rfl (by kernel_rfl) (by kernel_rfl) (fun K hK => ?_)
      refine wpx_call _ _ (by kernel_rfl) (hc2.mono ?_)
      rintro z W2 ⟨rfl, hb2⟩
      refine ⟨_, rfl, ?_⟩
      have hB2 := hB1.trans (hb2.mono hB1.size)
      have hy2 := ((HY.out.congr (w' := wr.drew) rfl).farM hb1).farM hb2
      have hne : (CB != CB) = false := by simp
      replace hT : (fun w' : World => w'.rangeAt eb (off + k * 17) DV) W2 := HRE.out W2 hB2
      replace hS : (fun _ : World => True) W2 := trivial
      refine hK.out _ _ hT (fun _ => hS) ?_
      clear hK K
      try simp only [Act.put, List.getElem_toArray, List.getElem_cons_succ, List.getElem_cons_zero, List.setIfInBounds_toArray, List.set_cons_zero, List.set_cons_succ]
      refine wpAnyT_held (i := 14) (v := .bool false) rfl (by kernel_rfl) (by kernel_rfl) (by kernel_rfl) (fun _ _ _ h => h) (by kernel_rfl) hT (fun _ => hS) (by kernel_rfl) ?_ ?_
      · intro wx hSw; go_split_ands; go_simp
      simp only [Act.put, List.getElem_toArray, List.getElem_cons_succ, List.getElem_cons_zero, List.setIfInBounds_toArray, List.set_cons_zero, List.set_cons_succ]
      refine wpAnyT_done (by kernel_rfl) ?_ _
      clear hT hS hc1 hc2 hb1 hb2 hne
      go_wp2
      go_roundw
      case rel => exact ⟨k + 1, h1, h2, by push_cast; rfl, hB2, hy2⟩
      case measure => simp [intOf]; omega
    · have hcase : ¬ (k : Int) < (len : Int) ∨ ((k : Int) < (len : Int) ∧ ¬ (k : Int) < 40) := by omega
      have HB := Veil.mk hB
      have HY := Veil.mk hy
      clear hB hy HCT hd
      rcases hcase with h1i | ⟨h1i, h2i⟩
      all_goals
        go_upto_region 6 with fail
        have HW : Veil (∀ W, Below wr.heap.size wr W → Below w.heap.size w W ∧ W.rangeAt w.heap.size 0 VV) := ⟨fun W hb => ⟨HB.out.trans (hb.mono HB.out.size), (HY.out.farM hb).wholeM⟩⟩
        have hb0 : Below wr.heap.size wr wr.drew := (Below.refl _ _).drew
        have hl1 := (HLL.out wr.drew (HW.out _ hb0).1).1
        have hl2 := (HLL.out wr.drew (HW.out _ hb0).1).2
        have hm1 := (HMM.out wr.drew (HW.out _ hb0).1).1
        have hle : (LN == LN) = true := beq_self_eq_true LN
        refine wp_region_gateT (fun w' => w'.rangeAt w.heap.size 0 VV) (fun _ => True) 99 (by kernel_rfl) ?_
        have hT : (fun w' : World => w'.rangeAt w.heap.size 0 VV) wr.drew := (HW.out _ hb0).2
        have hS : (fun _ : World => True) wr.drew := trivial
        refine wpAnyT_held (i := 0) (v := ?_) rfl (by kernel_rfl) (by kernel_rfl) (by kernel_rfl) (fun _ _ _ h => h) (by kernel_rfl) hT (fun _ => hS) (by kernel_rfl) ?_ ?_
        rotate_left
        · intro wx hSw; go_split_ands; go_simp; try with_reducible rfl
        simp only [Act.put, List.getElem_toArray, List.getElem_cons_succ, List.getElem_cons_zero, List.setIfInBounds_toArray, List.set_cons_zero, List.set_cons_succ]
        refine wpAnyT_held (i := 2) (v := ?_) rfl (by kernel_rfl) (by kernel_rfl) (by kernel_rfl) (fun _ _ _ h => h) (by kernel_rfl) hT (fun _ => hS) (by kernel_rfl) ?_ ?_
        rotate_left
        · intro wx hSw; go_split_ands; go_simp; try with_reducible rfl
        simp only [Act.put, List.getElem_toArray, List.getElem_cons_succ, List.getElem_cons_zero, List.setIfInBounds_toArray, List.set_cons_zero, List.set_cons_succ]
        refine wpAnyT_one (i := 1) rfl (by kernel_rfl) (by kernel_rfl) (fun K hK => ?_)
        refine wpx_call _ _ (by kernel_rfl) (hl1.mono ?_)
        rintro z W1 ⟨rfl, rfl⟩
        refine ⟨_, rfl, ?_⟩
        refine hK.out _ _ hT (fun _ => hS) ?_
        clear hK K
        try simp only [Act.put, List.getElem_toArray, List.getElem_cons_succ, List.getElem_cons_zero, List.setIfInBounds_toArray, List.set_cons_zero, List.set_cons_succ]
        refine wpAnyT_one (i := 3) rfl (by kernel_rfl) (by kernel_rfl) (fun K hK => ?_)
        refine wpx_call _ _ (by kernel_rfl) (hl2.mono ?_)
        rintro z W1 ⟨rfl, rfl⟩
        refine ⟨_, rfl, ?_⟩
        refine hK.out _ _ hT (fun _ => hS) ?_
        clear hK K
        try simp only [Act.put, List.getElem_toArray, List.getElem_cons_succ, List.getElem_cons_zero, List.setIfInBounds_toArray, List.set_cons_zero, List.set_cons_succ]
        refine wpAnyT_held (i := 4) (v := .bool true) rfl (by kernel_rfl) (by kernel_rfl) (by kernel_rfl) (fun _ _ _ h => h) (by kernel_rfl) hT (fun _ => hS) (by kernel_rfl) ?_ ?_
        · intro wx hSw; go_split_ands; go_simp
        simp only [Act.put, List.getElem_toArray, List.getElem_cons_succ, List.getElem_cons_zero, List.setIfInBounds_toArray, List.set_cons_zero, List.set_cons_succ]
        refine wpAnyT_held (i := 5) (v := ?_) rfl (by kernel_rfl) (by kernel_rfl) (by kernel_rfl) (fun _ _ _ h => h) (by kernel_rfl) hT (fun _ => hS) (by kernel_rfl) ?_ ?_
        rotate_left
        · intro wx hSw; go_split_ands; go_simp; try with_reducible rfl
        simp only [Act.put, List.getElem_toArray, List.getElem_cons_succ, List.getElem_cons_zero, List.setIfInBounds_toArray, List.set_cons_zero, List.set_cons_succ]
        refine wpAnyT_held (i := 6) (v := ?_) rfl (by kernel_rfl) (by kernel_rfl) (by kernel_rfl) (fun _ _ _ h => h) (by kernel_rfl) hT (fun _ => hS) (by kernel_rfl) ?_ ?_
        rotate_left
        · intro wx hSw; go_split_ands; go_simp; try with_reducible rfl
        simp only [Act.put, List.getElem_toArray, List.getElem_cons_succ, List.getElem_cons_zero, List.setIfInBounds_toArray, List.set_cons_zero, List.set_cons_succ]
        refine wpAnyT_held (i := 9) (v := ?_) rfl (by kernel_rfl) (by kernel_rfl) (by kernel_rfl) (fun _ _ _ h => h) (by kernel_rfl) hT (fun _ => hS) (by kernel_rfl) ?_ ?_
        rotate_left
        · intro wx hSw; go_split_ands; go_simp; try with_reducible rfl
        simp only [Act.put, List.getElem_toArray, List.getElem_cons_succ, List.getElem_cons_zero, List.setIfInBounds_toArray, List.set_cons_zero, List.set_cons_succ]
        refine wpAnyT_load (i := 7) (dst := some 42) (ty := 25) (x := .tmp 7) (b := w.heap.size) (o := (0)) (cs := VV) (by kernel_rfl) (by kernel_rfl) (by kernel_rfl) (by kernel_rfl) (by kernel_rfl) (fun _ _ _ h => h) (by kernel_rfl) hT (fun _ => hS) (by kernel_rfl) (fun _ h => h) uV rfl iV ?_
        simp only [Act.put, List.getElem_toArray, List.getElem_cons_succ, List.getElem_cons_zero, List.setIfInBounds_toArray, List.set_cons_zero, List.set_cons_succ]
        refine wpAnyT_load (i := 10) (dst := some 45) (ty := 25) (x := .tmp 7) (b := w.heap.size) (o := (0)) (cs := VV) (by kernel_rfl) (by kernel_rfl) (by kernel_rfl) (by kernel_rfl) (by kernel_rfl) (fun _ _ _ h => h) (by kernel_rfl) hT (fun _ => hS) (by kernel_rfl) (fun _ h => h) uV rfl iV ?_
        simp only [Act.put, List.getElem_toArray, List.getElem_cons_succ, List.getElem_cons_zero, List.setIfInBounds_toArray, List.set_cons_zero, List.set_cons_succ]
        refine wpAnyT_one (i := 8) rfl (by kernel_rfl) (by kernel_rfl) (fun K hK => ?_)
        refine wpx_call _ _ (by kernel_rfl) (hm1.mono ?_)
        rintro z W2 ⟨rfl, hb2⟩
        refine ⟨_, rfl, ?_⟩
        have hB2 := hb0.trans (hb2.mono hb0.size)
        have hm2 := (HMM.out W2 (HW.out _ hB2).1).2
        replace hT : (fun w' : World => w'.rangeAt w.heap.size 0 VV) W2 := (HW.out _ hB2).2
        replace hS : (fun _ : World => True) W2 := trivial
        refine hK.out _ _ hT (fun _ => hS) ?_
        clear hK K
        try simp only [Act.put, List.getElem_toArray, List.getElem_cons_succ, List.getElem_cons_zero, List.setIfInBounds_toArray, List.set_cons_zero, List.set_cons_succ]
        refine wpAnyT_one (i := 11) rfl (by kernel_rfl) (by kernel_rfl) (fun K hK => ?_)
        refine wpx_call _ _ (by kernel_rfl) (hm2.mono ?_)
        rintro z W3 ⟨rfl, hb3⟩
        refine ⟨_, rfl, ?_⟩
        have hB3 := hB2.trans (hb3.mono hB2.size)
        have hr3 := HRO.out W3 (HW.out _ hB3).1
        replace hT : (fun w' : World => w'.rangeAt w.heap.size 0 VV) W3 := (HW.out _ hB3).2
        replace hS : (fun _ : World => True) W3 := trivial
        refine hK.out _ _ hT (fun _ => hS) ?_
        clear hK K
        try simp only [Act.put, List.getElem_toArray, List.getElem_cons_succ, List.getElem_cons_zero, List.setIfInBounds_toArray, List.set_cons_zero, List.set_cons_succ]
        refine wpAnyT_held (i := 12) (v := .bool true) rfl (by kernel_rfl) (by kernel_rfl) (by kernel_rfl) (fun _ _ _ h => h) (by kernel_rfl) hT (fun _ => hS) (by kernel_rfl) ?_ ?_
        · intro wx hSw; go_split_ands; go_simp
        simp only [Act.put, List.getElem_toArray, List.getElem_cons_succ, List.getElem_cons_zero, List.setIfInBounds_toArray, List.set_cons_zero, List.set_cons_succ]
        refine wpAnyT_held (i := 13) (v := .bool true) rfl (by kernel_rfl) (by kernel_rfl) (by kernel_rfl) (fun _ _ _ h => h) (by kernel_rfl) hT (fun _ => hS) (by kernel_rfl) ?_ ?_
        · intro wx hSw; go_split_ands; go_simp
        simp only [Act.put, List.getElem_toArray, List.getElem_cons_succ, List.getElem_cons_zero, List.setIfInBounds_toArray, List.set_cons_zero, List.set_cons_succ]
        refine wpAnyT_held (i := 14) (v := ?_) rfl (by kernel_rfl) (by kernel_rfl) (by kernel_rfl) (fun _ _ _ h => h) (by kernel_rfl) hT (fun _ => hS) (by kernel_rfl) ?_ ?_
        rotate_left
        · intro wx hSw; go_split_ands; go_simp; try with_reducible rfl
        simp only [Act.put, List.getElem_toArray, List.getElem_cons_succ, List.getElem_cons_zero, List.setIfInBounds_toArray, List.set_cons_zero, List.set_cons_succ]
        refine wpAnyT_held (i := 15) (v := ?_) rfl (by kernel_rfl) (by kernel_rfl) (by kernel_rfl) (fun _ _ _ h => h) (by kernel_rfl) hT (fun _ => hS) (by kernel_rfl) ?_ ?_
        rotate_left
        · intro wx hSw; go_split_ands; go_simp; try with_reducible rfl
        simp only [Act.put, List.getElem_toArray, List.getElem_cons_succ, List.getElem_cons_zero, List.setIfInBounds_toArray, List.set_cons_zero, List.set_cons_succ]
        refine wpAnyT_load (i := 16) (dst := some 51) (ty := 25) (x := .tmp 7) (b := w.heap.size) (o := (0)) (cs := VV) (by kernel_rfl) (by kernel_rfl) (by kernel_rfl) (by kernel_rfl) (by kernel_rfl) (fun _ _ _ h => h) (by kernel_rfl) hT (fun _ => hS) (by kernel_rfl) (fun _ h => h) uV rfl iV ?_
        simp only [Act.put, List.getElem_toArray, List.getElem_cons_succ, List.getElem_cons_zero, List.setIfInBounds_toArray, List.set_cons_zero, List.set_cons_succ]
        refine wpAnyT_one (i := 17) rfl (by kernel_rfl) (by kernel_rfl) (fun K hK => ?_)
        refine wpx_call _ _ (by kernel_rfl) (hr3.mono ?_)
        rintro z W4 ⟨rfl, hb4⟩
        refine ⟨_, rfl, ?_⟩
        have hB4 := hB3.trans (hb4.mono hB3.size)
        replace hT : (fun w' : World => w'.rangeAt w.heap.size 0 VV) W4 := (HW.out _ hB4).2
        replace hS : (fun _ : World => True) W4 := trivial
        refine hK.out _ _ hT (fun _ => hS) ?_
        clear hK K
        try simp only [Act.put, List.getElem_toArray, List.getElem_cons_succ, List.getElem_cons_zero, List.setIfInBounds_toArray, List.set_cons_zero, List.set_cons_succ]
        refine wpAnyT_held (i := 18) (v := .bool true) rfl (by kernel_rfl) (by kernel_rfl) (by kernel_rfl) (fun _ _ _ h => h) (by kernel_rfl) hT (fun _ => hS) (by kernel_rfl) ?_ ?_
        · intro wx hSw; go_split_ands; go_simp
        simp only [Act.put, List.getElem_toArray, List.getElem_cons_succ, List.getElem_cons_zero, List.setIfInBounds_toArray, List.set_cons_zero, List.set_cons_succ]
        refine wpAnyT_held (i := 19) (v := .bool true) rfl (by kernel_rfl) (by kernel_rfl) (by kernel_rfl) (fun _ _ _ h => h) (by kernel_rfl) hT (fun _ => hS) (by kernel_rfl) ?_ ?_
        · intro wx hSw; go_split_ands; go_simp
        simp only [Act.put, List.getElem_toArray, List.getElem_cons_succ, List.getElem_cons_zero, List.setIfInBounds_toArray, List.set_cons_zero, List.set_cons_succ]
        refine wpAnyT_held (i := 20) (v := ?_) rfl (by kernel_rfl) (by kernel_rfl) (by kernel_rfl) (fun _ _ _ h => h) (by kernel_rfl) hT (fun _ => hS) (by kernel_rfl) ?_ ?_
        rotate_left
        · intro wx hSw; go_split_ands; go_simp; try with_reducible rfl
        simp only [Act.put, List.getElem_toArray, List.getElem_cons_succ, List.getElem_cons_zero, List.setIfInBounds_toArray, List.set_cons_zero, List.set_cons_succ]
        refine wpAnyT_done (by kernel_rfl) ?_ _
        clear hT hS hl1 hl2 hm1 hm2 hr3
        go_wp2
        go_ret
        exact ⟨rfl, (HW.out _ hB4).1⟩
end Go.Proofs.Ythodlbkgggaibaa

