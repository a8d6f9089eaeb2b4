/- AclTaken, walked. -/
import Derived.Test.YthodlbkgggaibaaAp1
namespace Go.Proofs.Ythodlbkgggaibaa
open Go.RowKit Go.Shelf
set_option maxRecDepth 20000
set_option linter.unusedSimpArgs false
set_option maxHeartbeats 16000000 in
theorem atk_walk (x : Option Addr) (len cap : Nat) (ds : List Ev) (e : Ev) (w : World) (hd : EvsAt w x len cap ds) (he : e.Ok) :
    Calls Try.prog 7 #[.slice x len cap, .agg e.cells.toArray] w fun r w' => r = .returned (.bool true) ∧ Below w.heap.size w w' := by
  have HDL : Veil (len = ds.length) := ⟨hd.len_eq⟩
  have hB0 : Below w.heap.size w (w.alloc (.cells e.cells.toArray 41)) := (Below.refl _ _).alloc (Nat.le_refl _) _
  have hx0 := CellsAt.new w 41 e.cells
  have iE : (Try.prog.info? 41).map (·.size) = some e.cells.length := by rw [aev_len e he.past]; kernel_rfl
  have iD : (Try.prog.info? 38).map (·.size) = some (dotC e.da e.ds).length := sizeDot
  have iP : (Try.prog.info? 25).map (·.size) = some (e.past.map (Value.int .u32)).length := by rw [List.length_map, he.past]; kernel_rfl
  have uV := Try.underlying25
  have uE := Try.underlying41
  have uD := Try.underlying38
  have HD := Veil.mk hd
  have hpl := aplay_any x len cap ds _ (hd.below hB0)
  have HAD : Veil (∀ H b L W, BookC W H b L → L.length ≤ 1000 → Calls Try.prog 18 #[.pointer (some ⟨H, 0, none⟩), .agg e.cells.toArray] W fun r w' => r = .returned (.int .i64 (refB L e)) ∧ BookC w' H b (addB L e) ∧ Turn (fun k => k = b) W w') := ⟨fun H b L W hC hl => badd_any H b L e W hC he hl⟩
  have HCT : Veil (∀ H b L W, BookC W H b L → Calls Try.prog 23 #[.pointer (some ⟨H, 0, none⟩), .agg (dotC e.da e.ds).toArray] W fun r w' => r = .returned (.bool (cntB L (e.da, e.ds))) ∧ Below W.heap.size W w') := ⟨fun H b L W hC => bcountsC H b L e.da e.ds W hC he.dot⟩
  have HBF : Veil (∀ y : Ev, y.Ok → ∀ W, Calls Try.prog 20 #[.agg e.cells.toArray, .agg y.cells.toArray] W fun r w' => r = .returned (.bool (hasB y.past e.da e.ds)) ∧ Below W.heap.size W w') := ⟨fun y hy W => rbefore_any e y W he.past hy.past he.dot.1.1 he.dot.2.1⟩
  have HRO : Veil (∀ H b L W who (u : List Int), BookC W H b L → u.length = 8 → Calls Try.prog 17 #[.pointer (some ⟨H, 0, none⟩), .int .u8 who, .agg (row .u32 u)] W fun r w' => r = .returned (.int .u8 (roleP L who u)) ∧ Below W.heap.size W w') := ⟨fun H b L W who u hC hu => role_any H b L who u W hC hu⟩
  have HP : Veil (∀ W, CellsAt W w.heap.size 41 e.cells → W.rangeAt w.heap.size 0 e.cells ∧ W.rangeAt w.heap.size 0 (dotC e.da e.ds) ∧ W.cell? ⟨w.heap.size, 10, none⟩ = some (.int .u8 e.kind) ∧ W.cell? ⟨w.heap.size, 0, none⟩ = some (.int .u8 e.da) ∧ W.rangeAt w.heap.size 2 (e.past.map (Value.int .u32)) ∧ W.cell? ⟨w.heap.size, 15, none⟩ = some (.int .u8 e.who)) := ⟨fun W hx => by
    have h1 := hx.range 0 2
    rw [(ev_parts e he.past).1] at h1
    have h2 := hx.range 2 8
    rw [(ev_parts e he.past).2.1] at h2
    exact ⟨hx.wholeM, h1, (hx.cell 10).trans (ev_parts e he.past).2.2.1, by have := h1 0 _ rfl; simpa using this, h2, (hx.cell 15).trans (ev_parts e he.past).2.2.2.2.2.2.1⟩⟩
  obtain ⟨E, hE⟩ : ∃ E, e.cells = E := ⟨_, rfl⟩
  have HOK := Veil.mk he
  rw [hE] at hB0 hx0 iE hpl HAD HBF HP ⊢
  obtain ⟨DV, hDV⟩ : ∃ q, dotC e.da e.ds = q := ⟨_, rfl⟩
  rw [hDV] at iD HCT HP
  clear hd hE hDV he
  go_enter Try.func7, Try.ntmps7
  go_upto_region 4 with (first
    | (go_at_call 14; refine (live9_any w1).mono ?_; rintro z w2 ⟨rfl, g2⟩)
    | (go_at_call 13; refine hpl.mono ?_; rintro z w1 ⟨H, b, R, rfl, ⟨L, hBB, hFL⟩, hB1⟩))
  have hx2 := (hx0.congr (hB1.block _ hx0.lt)).farM g2
  have hBB2 := hBB.far g2
  have hB1' := hB0.trans (hB1.mono hB0.size)
  have hB2 := hB1'.trans (g2.mono hB1'.size)
  have hlow : Veil (w.heap.size + 1 ≤ b ∧ L.length ≤ 1000) := ⟨by have := hBB.low.2.1; simp at this; omega, by have := hBB.len; omega⟩
  have HFL := Veil.mk hFL
  have HGD := Veil.mk hBB2.good
  clear hB0 hx0 hpl hBB hB1 g2 hB1' hFL
  obtain ⟨q1, q2, q3, q4, q5, q6⟩ := HP.out w2 hx2
  have had := HAD.out H b L w2 hBB2.code hlow.out.2
  have HFW : Veil (∀ W8, Turn (fun k => k = b) w2 W8 → Below w.heap.size w W8 ∧ CellsAt W8 w.heap.size 41 E) := ⟨fun W8 ht => ⟨hB2.trans (ht.below hB2.size (fun q hq => by rw [hq]; have := hlow.out.1; omega)), hx2.congr (ht.block _ hx2.lt (by have := hlow.out.1; omega))⟩⟩
  have HTK : Veil (refB L e = 0 → e.kind = 4 → cntB (addB L e) (e.da, e.ds) = true → (∀ y ∈ L, hasB y.1.past e.da e.ds = false) → ∀ n : Nat, e.da = n → roleP (addB L e) e.who (e.past.set n (e.past[n]?.getD 0 + 1)) = 0) := ⟨fun h hk hc hs n hn => taken_none L HGD.out e HOK.out h hk (by rw [← cntB_add L e h]; exact hc) hs n hn⟩
  have HBD : Veil (refB L e = 0 → e.da < 8 ∧ e.past[e.da.toNat]?.getD 0 = e.ds - 1 ∧ e.ds ≤ 1048576) := ⟨fun h => by
    have hr := (refB_none h).2.1
    have hd := (Bool.and_eq_true_iff.1 hr).1
    unfold rightDotB at hd
    simp only [Bool.and_eq_true, decide_eq_true_eq, Bool.not_eq_true', beq_eq_false_iff_ne, beq_iff_eq] at hd
    exact ⟨hd.1, hd.2.2.2.1, hd.2.2.1⟩⟩
  obtain ⟨RN, hRN⟩ : ∃ q, refB L e = q := ⟨_, rfl⟩
  rw [hRN] at had HTK HBD
  clear hRN hBB2 hx2 hB2
  by_cases hk4 : e.kind = 4
  rotate_left
  · have hkb : (e.kind != 4) = true := by simpa using hk4
    have hbW := (HFW.out w2 (Turn.refl _ _)).1
    generalize e.kind = KD at q3 hkb
    clear hk4
    go_wp2
    go_ret
    exact ⟨rfl, hbW⟩
  rw [hk4] at q3
  replace HTK := Veil.mk (fun h => HTK.out h hk4)
  clear hk4
  by_cases hrn : RN = 0
  rotate_left
  · have hrb : (RN != 0) = true := by simpa using hrn
    clear hrn
    go_wp2_with (first
      | (refine wpList_ldgv (by kernel_rfl) 41 (.tmp 3) rfl w.heap.size 0 rfl E q1 uE rfl iE ?_)
      | (go_at_call 18; refine had.mono ?_; rintro z W8 ⟨rfl, hC8, ht8⟩))
    go_ret
    exact ⟨rfl, (HFW.out W8 ht8).1⟩
  subst hrn
  replace HBD := Veil.mk (HBD.out rfl)
  have HCA : Veil (∀ W8, Turn (fun k => k = b) w2 W8 → BookC W8 H b (addB L e) → (Calls Try.prog 23 #[.pointer (some ⟨H, 0, none⟩), .agg DV.toArray] W8 fun r w' => r = .returned (.bool (cntB (addB L e) (e.da, e.ds))) ∧ Below W8.heap.size W8 w') ∧ W8.rangeAt w.heap.size 0 DV) := ⟨fun W8 ht hC => ⟨HCT.out H b _ W8 hC, (HP.out W8 (HFW.out W8 ht).2).2.1⟩⟩
  replace HTK := Veil.mk (HTK.out rfl)
  obtain ⟨CB, hCB⟩ : ∃ q, cntB (addB L e) (e.da, e.ds) = q := ⟨_, rfl⟩
  rw [hCB] at HCA HTK
  clear hCB
  cases CB
  · go_wp2_with (first
      | (refine wpList_ldgv (by kernel_rfl) 41 (.tmp 3) rfl w.heap.size 0 rfl E q1 uE rfl iE ?_)
      | (refine wpList_ldgv (by kernel_rfl) 38 (.tmp 33) rfl w.heap.size 0 rfl DV hr8 uD rfl iD ?_)
      | (go_at_call 23; refine hct.mono ?_; rintro z W9 ⟨rfl, g9⟩)
      | (go_at_call 18; refine had.mono ?_; rintro z W8 ⟨rfl, hC8, ht8⟩; obtain ⟨hct, hr8⟩ := HCA.out W8 ht8 hC8))
    go_ret
    have hB8 := (HFW.out W8 ht8).1
    exact ⟨rfl, hB8.trans (g9.mono hB8.size)⟩
  replace HTK := Veil.mk (HTK.out rfl)
  go_upto_region 6 with (first
      | (refine wpList_ldgv (by kernel_rfl) 41 (.tmp 3) rfl w.heap.size 0 rfl E q1 uE rfl iE ?_)
      | (refine wpList_ldgv (by kernel_rfl) 38 (.tmp 33) rfl w.heap.size 0 rfl DV hr8 uD rfl iD ?_)
      | (go_at_call 23; refine hct.mono ?_; rintro z W9 ⟨rfl, g9⟩)
      | (go_at_call 18; refine had.mono ?_; rintro z W8 ⟨rfl, hC8, ht8⟩; obtain ⟨hct, hr8⟩ := HCA.out W8 ht8 hC8))
  obtain ⟨hB8, hx8⟩ := HFW.out W8 ht8
  have hB9 := hB8.trans (g9.mono hB8.size)
  have hx9 := hx8.farM g9
  have hC9 := hC8.far g9
  clear q1 q2 q3 q4 q5 q6 had hct hr8 hB8 hx8 hC8 ht8 g9 HCA HFW HAD
  go_wp2_with fail
  go_loopw [8] (fun p wr => ∃ k : Nat, k ≤ len ∧ k ≤ 40 ∧ p = .int .i64 (k : Nat) ∧ (∀ y ∈ ds.take k, hasB y.past e.da e.ds = false) ∧ Below w.heap.size w wr ∧ CellsAt wr w.heap.size 41 E ∧ BookC wr H b (addB L e)) (fun p _ => len - (intOf p).toNat)
  case atStart => exact ⟨0, Nat.zero_le _, by omega, rfl, by simp, hB9, hx9, hC9⟩
  case round =>
    obtain ⟨k, hk, hk40, rfl, hno, hB, hx, hC⟩ := hrel
    clear hB9 hx9 hC9
    have HNO := Veil.mk hno
    clear hno
    by_cases h12 : k < len ∧ k < 40
    · obtain ⟨h1, h2⟩ := h12
      have h1i : (k : Int) < (len : Int) := by omega
      have h2i : (k : Int) < 40 := by omega
      have hk0 : (0 : Int) ≤ (k : Int) := by omega
      have hkd : k < ds.length := by have := HDL.out; omega
      obtain ⟨eb, off, rfl, hre0⟩ := HD.out.rngA k hkd
      have hok := HD.out.ok ds[k] (List.getElem_mem hkd)
      have iY : (Try.prog.info? 41).map (·.size) = some ds[k].cells.length := by rw [aev_len _ hok.past]; kernel_rfl
      have hw1 : IntKind.i64.wrap ((k : Int) + 1) = (k : Int) + 1 := by rw [IntKind.wrap_i64]; omega
      have hbf := HBF.out ds[k] hok wr.drew
      have HNX : Veil (hasB ds[k].past e.da e.ds = false → ∀ y ∈ ds.take (k + 1), hasB y.past e.da e.ds = false) := ⟨fun h y hy => by
        rw [List.take_add_one, List.getElem?_eq_getElem hkd] at hy
        rcases List.mem_append.1 hy with q | q
        · exact HNO.out y q
        · have q' : y = ds[k] := by simpa using q
          rw [q']; exact h⟩
      have HX : Veil (∀ W, Below wr.heap.size wr W → (W.rangeAt w.heap.size 0 E ∧ W.rangeAt eb (off + k * 17) ds[k].cells) ∧ Below w.heap.size w W ∧ CellsAt W w.heap.size 41 E ∧ BookC W H b (addB L e)) := ⟨fun W hb => by
        have hB' := hB.trans (hb.mono hB.size)
        exact ⟨⟨(hx.farM hb).wholeM, fun i u hu => (hB'.cell (block_lt_of_cell (hre0 i u hu))).trans (hre0 i u hu)⟩, hB', hx.farM hb, hC.far hb⟩⟩
      generalize hasB ds[k].past e.da e.ds = BK at hbf HNX
      generalize ds[k].cells = Y at iY hbf HX hre0
      clear hB hx hC hre0 hok
      go_upto_region 9 with fail
      refine wp_region_gateT (fun w' => w'.rangeAt w.heap.size 0 E ∧ w'.rangeAt eb (off + k * 17) Y) (fun _ => True) 99 (by kernel_rfl) ?_
      have hT : (fun w' : World => w'.rangeAt w.heap.size 0 E ∧ w'.rangeAt eb (off + k * 17) Y) wr.drew := (HX.out _ (Below.refl _ _).drew).1
      have hS : (fun _ : World => True) wr.drew := trivial
      refine wpAnyT_load (i := 0) (dst := some 48) (ty := 41) (x := .tmp 3) (b := w.heap.size) (o := (0)) (cs := E) (by kernel_rfl) (by kernel_rfl) (by kernel_rfl) (by kernel_rfl) (by kernel_rfl) (fun _ _ _ h => h) (by kernel_rfl) hT (fun _ => hS) (by kernel_rfl) (fun _ h => h.1) uE rfl iE ?_
      simp only [Act.put, List.getElem_toArray, List.getElem_cons_succ, List.getElem_cons_zero, List.setIfInBounds_toArray, List.set_cons_zero, List.set_cons_succ]
      refine wpAnyT_held (i := 1) (v := ?_) rfl (by kernel_rfl) (by kernel_rfl) (by kernel_rfl) (fun _ _ _ h => h) (by kernel_rfl) hT (fun _ => hS) (by kernel_rfl) ?_ ?_
      rotate_left
      · intro wx hSw; go_split_ands; go_simp; try with_reducible rfl
      simp only [Act.put, List.getElem_toArray, List.getElem_cons_succ, List.getElem_cons_zero, List.setIfInBounds_toArray, List.set_cons_zero, List.set_cons_succ]
      refine wpAnyT_held (i := 2) (v := ?_) rfl (by kernel_rfl) (by kernel_rfl) (by kernel_rfl) (fun _ _ _ h => h) (by kernel_rfl) hT (fun _ => hS) (by kernel_rfl) ?_ ?_
      rotate_left
      · intro wx hSw; go_split_ands; go_simp; try with_reducible rfl
      simp only [Act.put, List.getElem_toArray, List.getElem_cons_succ, List.getElem_cons_zero, List.setIfInBounds_toArray, List.set_cons_zero, List.set_cons_succ]
      refine wpAnyT_held (i := 3) (v := ?_) rfl (by kernel_rfl) (by kernel_rfl) (by kernel_rfl) (fun _ _ _ h => h) (by kernel_rfl) hT (fun _ => hS) (by kernel_rfl) ?_ ?_
      rotate_left
      · intro wx hSw; go_split_ands; go_simp; try with_reducible rfl
      simp only [Act.put, List.getElem_toArray, List.getElem_cons_succ, List.getElem_cons_zero, List.setIfInBounds_toArray, List.set_cons_zero, List.set_cons_succ]
      refine wpAnyT_load (i := 4) (dst := some 52) (ty := 41) (x := .tmp 51) (b := eb) (o := ((off + k * 17))) (cs := Y) (by kernel_rfl) (by kernel_rfl) (by kernel_rfl) (by kernel_rfl) (by kernel_rfl) (fun _ _ _ h => h) (by kernel_rfl) hT (fun _ => hS) (by kernel_rfl) (fun _ h => h.2) uE rfl iY ?_
      simp only [Act.put, List.getElem_toArray, List.getElem_cons_succ, List.getElem_cons_zero, List.setIfInBounds_toArray, List.set_cons_zero, List.set_cons_succ]
      refine wpAnyT_one (i := 5) rfl (by kernel_rfl) (by kernel_rfl) (fun K hK => ?_)
      refine wpx_call _ _ (by kernel_rfl) (hbf.mono ?_)
      rintro z W1 ⟨rfl, hb1⟩
      refine ⟨_, rfl, ?_⟩
      have hb2 : Below wr.heap.size wr W1 := ((Below.refl _ _).drew).trans (hb1.mono (Nat.le_refl _))
      replace hT : (fun w' : World => w'.rangeAt w.heap.size 0 E ∧ w'.rangeAt eb (off + k * 17) Y) W1 := (HX.out _ hb2).1
      replace hS : (fun _ : World => True) W1 := trivial
      refine hK.out _ _ hT (fun _ => hS) ?_
      clear hK K
      try simp only [Act.put, List.getElem_toArray, List.getElem_cons_succ, List.getElem_cons_zero, List.setIfInBounds_toArray, List.set_cons_zero, List.set_cons_succ]
      refine wpAnyT_done (by kernel_rfl) ?_ _
      clear hT hS hbf hb1
      obtain ⟨-, r1, r2, r3⟩ := HX.out _ hb2
      clear HX hb2
      cases BK with
      | true =>
        go_wp2
        go_ret
        exact ⟨rfl, r1⟩
      | false =>
        have HN2 := Veil.mk (HNX.out rfl)
        go_wp2
        go_roundw
        case rel => exact ⟨k + 1, h1, h2, by push_cast; rfl, HN2.out, r1, r2, r3⟩
        case measure => simp [intOf]; omega
    · have hcase : ¬ (k : Int) < (len : Int) ∨ ((k : Int) < (len : Int) ∧ ¬ (k : Int) < 40) := by omega
      have HAL : Veil (∀ y ∈ L, hasB y.1.past e.da e.ds = false) := ⟨fun y hy => by
        refine HNO.out y.1 ?_
        have h1 := HFL.out.out y hy
        obtain ⟨i, hi, hei⟩ := List.mem_iff_getElem.1 h1
        rw [List.length_take] at hi
        have := HDL.out
        exact List.mem_iff_getElem.2 ⟨i, by rw [List.length_take]; omega, by rw [← hei]; simp⟩⟩
      obtain ⟨h8, hpn, hmx⟩ := HBD.out
      obtain ⟨n, hn⟩ := Int.eq_ofNat_of_zero_le HOK.out.dot.1.1
      have HR0 := Veil.mk (HTK.out HAL.out n hn)
      have hn8 : n < 8 := by omega
      have hnp : e.past[n]?.getD 0 = e.ds - 1 := by rw [← hpn, hn]; rfl
      have hds := HOK.out.dot.2.1
      have hww : IntKind.u32.wrap (e.past[n]?.getD 0 + 1) = e.past[n]?.getD 0 + 1 := by rw [hnp]; simp [IntKind.wrap, IntKind.bits, IntKind.signed]; omega
      have hp8 := HOK.out.past
      obtain ⟨q1, q2, q3, q4, q5, q6⟩ := HP.out wr hx
      rw [hn] at q4
      have hni : (n : Int) < 8 := by omega
      have hn0 : (0 : Int) ≤ (n : Int) := by omega
      have HS8 : Veil ((e.past.set n (e.past[n]?.getD 0 + 1)).length = 8) := ⟨by rw [List.length_set]; exact hp8⟩
      have HBB := Veil.mk hB
      have HXX := Veil.mk hx
      have HCC := Veil.mk hC
      have HQ6 : Veil (∀ W, CellsAt W w.heap.size 41 E → W.cell? ⟨w.heap.size, 15, none⟩ = some (.int .u8 e.who) ∧ W.cell? ⟨w.heap.size, 0, none⟩ = some (.int .u8 (n : Int))) := ⟨fun W hW => ⟨(HP.out W hW).2.2.2.2.2, by have := (HP.out W hW).2.2.2.1; rw [hn] at this; exact this⟩⟩
      have hzz := Holds.new wr .u32 25 [0, 0, 0, 0, 0, 0, 0, 0]
      have HHW : Veil (Holds ((wr.alloc (.cells (row .u32 [0, 0, 0, 0, 0, 0, 0, 0]) 25)).setRow wr.heap.size (row .u32 e.past)) wr.heap.size .u32 25 e.past ∧ Below wr.heap.size wr ((wr.alloc (.cells (row .u32 [0, 0, 0, 0, 0, 0, 0, 0]) 25)).setRow wr.heap.size (row .u32 e.past))) := ⟨hzz.setRow e.past, below_setRow ((Below.refl _ _).alloc (Nat.le_refl _) _) (Nat.le_refl _) _⟩
      generalize hWH : e.who = WH at q6 HR0 HQ6
      obtain ⟨pn, hpn2⟩ : ∃ q, e.past[n]?.getD 0 = q := ⟨_, rfl⟩
      rw [hpn2] at hww HR0 HS8
      have HPN := Veil.mk hpn2
      obtain ⟨PA, hPA⟩ : ∃ q, e.past = q := ⟨_, rfl⟩
      rw [hPA] at hp8 q5 iP HR0 HS8 HHW HPN
      clear hB hx hC hpn hnp hds hmx hn q1 q2 q3 hpn2 hPA hWH h12 HTK HBD HBF
      have hzv := CellsAt.new wr 25 [.int .u32 0, .int .u32 0, .int .u32 0, .int .u32 0, .int .u32 0, .int .u32 0, .int .u32 0, .int .u32 0]
      have hPl : ([.int .u32 0, .int .u32 0, .int .u32 0, .int .u32 0, .int .u32 0, .int .u32 0, .int .u32 0, .int .u32 0] : List Value).length = (PA.map (Value.int .u32)).length := by rw [List.length_map, hp8]; rfl
      have hP1 := map_u32_one PA
      rcases hcase with h1i | ⟨h1i, h2i⟩
      all_goals
        go_upto_region 12 with (first
          | (refine wpList_ldv rfl 25 _ rfl w.heap.size 2 rfl (PA.map (Value.int .u32)) q5 uV rfl iP ?_)
          | (refine wpList_stv rfl 25 _ _ rfl wr.heap.size rfl (cs := PA.map (Value.int .u32)) rfl hzv iP hPl hP1 ?_))
        have HV : Veil (∀ W, Below wr.heap.size wr W → Below w.heap.size w W ∧ CellsAt W w.heap.size 41 E ∧ BookC W H b (addB L e)) := ⟨fun W hb => ⟨HBB.out.trans (hb.mono HBB.out.size), HXX.out.farM hb, HCC.out.far hb⟩⟩
        refine forget (p := fun y => Code.wp _ _ _ _ y) (fun W => Holds W wr.heap.size .u32 25 PA ∧ Below wr.heap.size wr W) HHW.out ?_
        rintro W1 ⟨hv1, hb1⟩
        have hvB : w.heap.size < wr.heap.size := HXX.out.lt
        have hcB : Veil (b ≠ wr.heap.size ∧ H ≠ wr.heap.size) := ⟨by have := HCC.out.map.lt; omega, by have := HCC.out.cells.lt; omega⟩
        obtain ⟨hB1, hx1, hC1⟩ := HV.out W1 hb1
        have cv1 := hv1.cell n (by rw [hp8]; exact hn8)
        rw [HPN.out] at cv1
        have fv1 := hv1.frozen n
        obtain ⟨ce15, ce0⟩ := HQ6.out W1 hx1
        have hv2 := hv1.set n (pn + 1)
        have hx2 := hx1.congr (Below.heap_setCell W1 ⟨wr.heap.size, n, none⟩ (.int .u32 (pn + 1)) w.heap.size (by simp; omega))
        have hC2 : BookC (W1.setCell ⟨wr.heap.size, n, none⟩ (.int .u32 (pn + 1))) H b (addB L e) := hC1.congr (Below.heap_setCell _ _ _ _ hcB.out.2) (Below.heap_setCell _ _ _ _ hcB.out.1)
        have hB2 : Below w.heap.size w (W1.setCell ⟨wr.heap.size, n, none⟩ (.int .u32 (pn + 1))) := hB1.setCell (by simp; omega) _
        generalize wr.heap.size = vB at hv1 hv2 cv1 fv1 hx2 hC2 hB2 ⊢
        go_upto_region 13 with fail
        refine forget (p := fun y => Code.wp _ _ _ _ y) (fun W => Holds W vB .u32 25 (PA.set n (pn + 1)) ∧ CellsAt W w.heap.size 41 E ∧ BookC W H b (addB L e) ∧ Below w.heap.size w W) ⟨hv2, hx2, hC2, hB2⟩ ?_
        clear hv1 hv2 cv1 fv1 hx1 hx2 hC1 hC2 hB1 hB2 ce15 ce0 hb1
        rintro W2 ⟨hv2, hx2, hC2, hB2⟩
        obtain ⟨ce15, ce0⟩ := HQ6.out W2 hx2
        have hs8 := HS8.out
        have hro := HRO.out H b (addB L e) W2 WH (PA.set n (pn + 1)) hC2 hs8
        rw [HR0.out] at hro
        clear hx2 hC2 ce0 q5 q4 q6 hzv hzz
        go_wp2_with (first
          | (refine wpList_ld rfl 25 _ rfl _ rfl hv2 Try.underlying25 sizeV8 hs8 ?_)
          | (go_at_call 17; refine hro.mono ?_; rintro z W3 ⟨rfl, g3⟩))
        go_ret
        exact ⟨rfl, hB2.trans (g3.mono hB2.size)⟩
end Go.Proofs.Ythodlbkgggaibaa

