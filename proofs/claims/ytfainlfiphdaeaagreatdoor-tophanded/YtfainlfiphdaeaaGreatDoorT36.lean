/- Cv5 Fm1 Bt Fm2 -/
import Derived.Test.YtfainlfiphdaeaaGreatDoorT35
import Derived.Test.YtfainlfiphdaeaaGreatDoorT02
import Derived.Test.YtfainlfiphdaeaaGreatDoorT33
import Derived.Test.YtfainlfiphdaeaaGreatDoorT03
import Derived.Test.YtfainlfiphdaeaaGreatDoorT29
import Derived.Test.YtfainlfiphdaeaaGreatDoorT30
import Derived.Test.YtfainlfiphdaeaaGreatDoorT09
namespace Go.Proofs.YtfainlfiphdaeaaGreatDoor
open Go.RowKit
set_option maxRecDepth 20000
set_option linter.unusedSimpArgs false
set_option maxHeartbeats 16000000 in
theorem cright_any (e : Ev) (w : World) (hp : e.past.length = 8) (ha : 0 ≤ e.da) (hs : 0 ≤ e.ds) (hs2 : e.ds < 4294967296) (hpa : 0 ≤ e.pa) (hps : 0 ≤ e.ps) :
    Calls Tryz.prog 100 #[.agg e.cells.toArray] w fun x w' => x = .returned (.bool (rightB e)) ∧ Below w.heap.size w w' := by
  have h0 := CellsAt.new w 33 e.cells
  have hB0 : Below w.heap.size w (w.alloc (.cells e.cells.toArray 33)) := (Below.refl _ _).alloc (Nat.le_refl _) _
  have HRD : Veil (∀ W, Calls Tryz.prog 144 #[.agg e.cells.toArray] W fun x w' => x = .returned (.bool (rightDotB e)) ∧ Below W.heap.size W w') := ⟨fun W => crightDot_any e W hp ha hs hs2⟩
  have HRP : Veil (∀ W, Calls Tryz.prog 145 #[.agg e.cells.toArray] W fun x w' => x = .returned (.bool (rightParB e)) ∧ Below W.heap.size W w') := ⟨fun W => crightPar_any e W hp hpa hps⟩
  have HNM : Veil (∀ W, Calls Tryz.prog 146 #[.agg e.cells.toArray] W fun x w' => x = .returned (.bool (noMemB e)) ∧ Below W.heap.size W w') := ⟨fun W => cnoMem_any e W hp⟩
  have HNT : Veil (∀ W, Calls Tryz.prog 148 #[.agg e.cells.toArray] W fun x w' => x = .returned (.bool (noTextB e)) ∧ Below W.heap.size W w') := ⟨fun W => cnoText_any e W hp⟩
  have HCH : Veil (∀ W, Calls Tryz.prog 147 #[.agg (e.past.map (Value.int .u32)).toArray, .agg (dotC e.pa e.ps).toArray] W fun x w' => x = .returned (.bool (hasB e.past e.pa e.ps)) ∧ Below W.heap.size W w') := ⟨fun W => chas_any e.past e.pa e.ps W hp hpa hps⟩
  have HH : Veil (rightB e = (rightDotB e && (if e.kind = 1 then ((decide (1 ≤ e.char) && decide (e.char ≤ 127)) && rightParB e) && noMemB e else if e.kind = 2 then ((hasB e.past e.pa e.ps && !e.right) && (e.char == 0)) && noMemB e else if e.kind = 3 then ((decide (e.who < 8) && decide (1 ≤ e.role)) && decide (e.role ≤ 3)) && noTextB e else if e.kind = 4 then (decide (e.who < 8) && (e.role == 0)) && noTextB e else false))) := ⟨rfl⟩
  have HF : Veil (∀ W, CellsAt W w.heap.size 33 e.cells → W.cell? ⟨w.heap.size, 10, none⟩ = some (.int .u8 e.kind) ∧ W.cell? ⟨w.heap.size, 13, none⟩ = some (.bool e.right) ∧ W.cell? ⟨w.heap.size, 14, none⟩ = some (.int .u8 e.char) ∧ W.cell? ⟨w.heap.size, 15, none⟩ = some (.int .u8 e.who) ∧ W.cell? ⟨w.heap.size, 16, none⟩ = some (.int .u8 e.role) ∧ W.rangeAt w.heap.size 11 (dotC e.pa e.ps) ∧ W.rangeAt w.heap.size 2 (e.past.map (Value.int .u32)) ∧ W.rangeAt w.heap.size 0 e.cells) := ⟨fun W h => by
    obtain ⟨_, q2, q10, q11, q13, q14, q15, q16⟩ := ev_parts e hp
    refine ⟨(h.cell 10).trans q10, (h.cell 13).trans q13, (h.cell 14).trans q14, (h.cell 15).trans q15, (h.cell 16).trans q16, ?_, ?_, h.wholeM⟩
    · have := h.range 11 2; rw [q11] at this; exact this
    · have := h.range 2 8; rw [q2] at this; exact this⟩
  have iE : (Tryz.prog.info? 33).map (·.size) = some e.cells.length := by rw [(ev_cell15 e hp).2.2.2.2]; kernel_rfl
  have iV : (Tryz.prog.info? 29).map (·.size) = some (e.past.map (Value.int .u32)).length := by rw [List.length_map, hp]; exact sizeV8c
  have iD : (Tryz.prog.info? 26).map (·.size) = some (dotC e.pa e.ps).length := sizeDot
  have uD := Tryz.underlying26
  have uV := Tryz.underlying29
  have uE := Tryz.underlying33
  clear hp ha hs hs2 hpa hps
  generalize rightB e = RB at HH ⊢
  generalize rightDotB e = rd at HRD HH
  generalize rightParB e = rp at HRP HH
  generalize noMemB e = nm at HNM HH
  generalize noTextB e = nt at HNT HH
  generalize hasB e.past e.pa e.ps = hb at HCH HH
  generalize dotC e.pa e.ps = DP at HCH HF iD
  generalize e.past.map (Value.int .u32) = PV at HCH HF iV
  generalize e.cells = EC at h0 hB0 HRD HRP HNM HNT HF iE ⊢
  generalize e.kind = KD at HF HH
  generalize e.right = ri at HF HH
  generalize e.char = CH at HF HH
  generalize e.who = WO at HF HH
  generalize e.role = RO at HF HH
  have r0 := h0.wholeM
  have hrd := HRD.out (w.alloc (.cells EC.toArray 33))
  clear HRD
  have HB : Veil (∀ W w1, Below w.heap.size w W → Below W.heap.size W w1 → Below w.heap.size w w1) := ⟨fun W w1 h h2 => h.trans (h2.mono h.size)⟩
  have H1 : Veil (∀ w1, Below (w.alloc (.cells EC.toArray 33)).heap.size (w.alloc (.cells EC.toArray 33)) w1 → Below w.heap.size w w1 ∧ CellsAt w1 w.heap.size 33 EC) := ⟨fun w1 h => ⟨hB0.trans (h.mono hB0.size), h0.farM h⟩⟩
  clear h0 hB0
  cases rd
  · go_enter Tryz.func100, Tryz.ntmps100
    go_wp2_with (first
      | (refine wpList_ldv rfl 33 _ rfl w.heap.size 0 rfl EC r0 uE rfl iE ?_)
      | (go_at_call 144; refine hrd.mono ?_; rintro e w1 ⟨rfl, hb1⟩))
    go_ret
    exact ⟨by rw [HH.out]; rfl, (H1.out w1 hb1).1⟩
  go_enter Tryz.func100, Tryz.ntmps100
  go_upto_region 3 with (first
    | (refine wpList_ldv rfl 33 _ rfl w.heap.size 0 rfl EC r0 uE rfl iE ?_)
    | (go_at_call 144; refine hrd.mono ?_; rintro e w1 ⟨rfl, hb1⟩))
  refine forget (p := fun y => Code.wp _ _ _ _ y) (fun W => Below w.heap.size w W ∧ CellsAt W w.heap.size 33 EC) (H1.out w1 hb1) ?_
  clear hb1 hrd r0 H1
  clear w1
  rintro W ⟨hB, hE⟩
  obtain ⟨c10, c13, c14, c15, c16, rD, rV, rE⟩ := HF.out W hE
  have hh := HCH.out W
  by_cases k1 : KD = 1
  · subst k1
    by_cases k2 : CH ≥ 1
    rotate_left
    · clear hh
      have HR : Veil (RB = false) := ⟨by rw [HH.out]; have k2' : ¬ 1 ≤ CH := (by omega); simp [k2']⟩
      go_wp2
      go_ret
      exact ⟨ret_bC HR.out.symm, hB⟩
    by_cases k3 : CH ≤ 127
    rotate_left
    · clear hh
      have HR : Veil (RB = false) := ⟨by rw [HH.out]; simp [k3]⟩
      go_wp2
      go_ret
      exact ⟨ret_bC HR.out.symm, hB⟩
    have hrp := HRP.out W
    have HR : Veil (RB = (rp && nm)) := ⟨by rw [HH.out]; have k2' : 1 ≤ CH := (by omega); simp [k2', k3]⟩
    clear hh
    cases rp
    · go_wp2_with (first
        | (refine wpList_ldgv (by kernel_rfl) 33 _ rfl w.heap.size 0 rfl EC rE uE rfl iE ?_)
        | (go_at_call 145; refine hrp.mono ?_; rintro e w1 ⟨rfl, hb1⟩; replace hB := HB.out W w1 hB hb1; clear hrp rE))
      go_ret
      exact ⟨ret_bC HR.out.symm, hB⟩
    · go_wp2_with (first
        | (refine wpList_ldgv (by kernel_rfl) 33 _ rfl w.heap.size 0 rfl EC rE1 uE rfl iE ?_)
        | (refine wpList_ldgv (by kernel_rfl) 33 _ rfl w.heap.size 0 rfl EC rE uE rfl iE ?_)
        | (go_at_call 145; refine hrp.mono ?_; rintro e w1 ⟨rfl, hb1⟩; have rE1 := (hE.farM hb1).wholeM; have hn := HNM.out w1; replace hB := HB.out W w1 hB hb1; clear hrp)
        | (go_at_call 146; refine hn.mono ?_; rintro e w2 ⟨rfl, hb2⟩; replace hB := HB.out _ w2 hB hb2))
      go_ret
      exact ⟨ret_bC HR.out.symm, hB⟩
  have k1' : (KD == 1) = false := by simpa using k1
  by_cases k2 : KD = 2
  · subst k2
    cases hb
    · have HR : Veil (RB = false) := ⟨by rw [HH.out]; simp⟩
      go_wp2_with (first
        | (refine wpList_ldv rfl 29 _ rfl w.heap.size 2 rfl PV rV uV rfl iV ?_)
        | (refine wpList_ldv rfl 26 _ rfl w.heap.size 11 rfl DP rD uD rfl iD ?_)
        | (go_at_call 147; refine hh.mono ?_; rintro e w1 ⟨rfl, hb1⟩; obtain ⟨c10, c13, c14, c15, c16, rD1, rV1, rE1⟩ := HF.out w1 (hE.farM hb1); replace hB := HB.out W w1 hB hb1; clear hh))
      go_ret
      exact ⟨ret_bC HR.out.symm, hB⟩
    cases ri
    rotate_left
    · have HR : Veil (RB = false) := ⟨by rw [HH.out]; simp⟩
      go_wp2_with (first
        | (refine wpList_ldv rfl 29 _ rfl w.heap.size 2 rfl PV rV uV rfl iV ?_)
        | (refine wpList_ldv rfl 26 _ rfl w.heap.size 11 rfl DP rD uD rfl iD ?_)
        | (go_at_call 147; refine hh.mono ?_; rintro e w1 ⟨rfl, hb1⟩; obtain ⟨c10, c13, c14, c15, c16, rD1, rV1, rE1⟩ := HF.out w1 (hE.farM hb1); replace hB := HB.out W w1 hB hb1; clear hh))
      go_ret
      exact ⟨ret_bC HR.out.symm, hB⟩
    by_cases k3 : CH = 0
    · have k3' : (CH == 0) = true := by simp [k3]
      clear k3
      have HR : Veil (RB = nm) := ⟨by rw [HH.out, k3']; simp⟩
      go_wp2_with (first
        | (refine wpList_ldv rfl 29 _ rfl w.heap.size 2 rfl PV rV uV rfl iV ?_)
        | (refine wpList_ldv rfl 26 _ rfl w.heap.size 11 rfl DP rD uD rfl iD ?_)
        | (refine wpList_ldgv (by kernel_rfl) 33 _ rfl w.heap.size 0 rfl EC rE1 uE rfl iE ?_)
        | (go_at_call 147; refine hh.mono ?_; rintro e w1 ⟨rfl, hb1⟩; obtain ⟨c10, c13, c14, c15, c16, rD1, rV1, rE1⟩ := HF.out w1 (hE.farM hb1); have hn := HNM.out w1; replace hB := HB.out W w1 hB hb1; clear hh)
        | (go_at_call 146; refine hn.mono ?_; rintro e w2 ⟨rfl, hb2⟩; replace hB := HB.out _ w2 hB hb2))
      go_ret
      exact ⟨ret_bC HR.out.symm, hB⟩
    · have k3' : (CH == 0) = false := by simpa using k3
      clear k3
      have HR : Veil (RB = false) := ⟨by rw [HH.out, k3']; simp⟩
      go_wp2_with (first
        | (refine wpList_ldv rfl 29 _ rfl w.heap.size 2 rfl PV rV uV rfl iV ?_)
        | (refine wpList_ldv rfl 26 _ rfl w.heap.size 11 rfl DP rD uD rfl iD ?_)
        | (go_at_call 147; refine hh.mono ?_; rintro e w1 ⟨rfl, hb1⟩; obtain ⟨c10, c13, c14, c15, c16, rD1, rV1, rE1⟩ := HF.out w1 (hE.farM hb1); have hn := HNM.out w1; replace hB := HB.out W w1 hB hb1; clear hh))
      go_ret
      exact ⟨ret_bC HR.out.symm, hB⟩
  have k2' : (KD == 2) = false := by simpa using k2
  clear hh
  have hnt := HNT.out W
  by_cases k3 : KD = 3
  · subst k3
    by_cases k4 : WO < 8
    rotate_left
    · have HR : Veil (RB = false) := ⟨by rw [HH.out]; simp [k4]⟩
      go_wp2
      go_ret
      exact ⟨ret_bC HR.out.symm, hB⟩
    by_cases k5 : RO ≥ 1
    rotate_left
    · have HR : Veil (RB = false) := ⟨by rw [HH.out]; have k5' : ¬ 1 ≤ RO := (by omega); simp [k5']⟩
      go_wp2
      go_ret
      exact ⟨ret_bC HR.out.symm, hB⟩
    by_cases k6 : RO ≤ 3
    rotate_left
    · have HR : Veil (RB = false) := ⟨by rw [HH.out]; simp [k6]⟩
      go_wp2
      go_ret
      exact ⟨ret_bC HR.out.symm, hB⟩
    have HR : Veil (RB = nt) := ⟨by rw [HH.out]; have k5' : 1 ≤ RO := (by omega); simp [k4, k5', k6]⟩
    go_wp2_with (first
      | (refine wpList_ldgv (by kernel_rfl) 33 _ rfl w.heap.size 0 rfl EC rE uE rfl iE ?_)
      | (go_at_call 148; refine hnt.mono ?_; rintro e w1 ⟨rfl, hb1⟩; replace hB := HB.out W w1 hB hb1; clear hnt))
    go_ret
    exact ⟨ret_bC HR.out.symm, hB⟩
  have k3' : (KD == 3) = false := by simpa using k3
  by_cases k4 : KD = 4
  · subst k4
    by_cases k5 : WO < 8
    rotate_left
    · have HR : Veil (RB = false) := ⟨by rw [HH.out]; simp [k5]⟩
      go_wp2
      go_ret
      exact ⟨ret_bC HR.out.symm, hB⟩
    by_cases k6 : RO = 0
    rotate_left
    · have k6' : (RO == 0) = false := by simpa using k6
      clear k6
      have HR : Veil (RB = false) := ⟨by rw [HH.out, k6']; simp⟩
      go_wp2
      go_ret
      exact ⟨ret_bC HR.out.symm, hB⟩
    have k6' : (RO == 0) = true := by simp [k6]
    clear k6
    have HR : Veil (RB = nt) := ⟨by rw [HH.out, k6']; simp [k5]⟩
    go_wp2_with (first
      | (refine wpList_ldgv (by kernel_rfl) 33 _ rfl w.heap.size 0 rfl EC rE uE rfl iE ?_)
      | (go_at_call 148; refine hnt.mono ?_; rintro e w1 ⟨rfl, hb1⟩; replace hB := HB.out W w1 hB hb1; clear hnt))
    go_ret
    exact ⟨ret_bC HR.out.symm, hB⟩
  have k4' : (KD == 4) = false := by simpa using k4
  have HKF : Veil (RB = false) := ⟨by rw [HH.out, if_neg k1, if_neg k2, if_neg k3, if_neg k4]; rfl⟩
  clear k1 k2 k3 k4
  go_wp2
  go_ret
  exact ⟨ret_bC HKF.out.symm, hB⟩
end Go.Proofs.YtfainlfiphdaeaaGreatDoor
namespace Go.Proofs.YtfainlfiphdaeaaGreatDoor
open Go.RowKit
set_option maxRecDepth 20000
set_option linter.unusedSimpArgs false
def stopP (why : Int) : PanicEntry := { v := .iface 140 (.agg #[.int .i64 why]), recovered := false }
set_option maxHeartbeats 1000000 in
theorem fneed_ok (n : Int) (w : World) : Calls Tryz.prog 43 #[.bool true, .int .i64 n] w fun e w' => (∃ r, e = .returned r) ∧ w = w' := by
  go_enter Tryz.func43, Tryz.ntmps43
  go_wp2
  go_end0
  exact ⟨⟨_, rfl⟩, rfl⟩
theorem stop_built (n : Int) (wx : World) : (Instr.build 140 #[(0, .int .i64 n)]).run Tryz.prog wx = .ok (.agg #[.int .i64 n]) wx := run_build wx _ _ _ (by kernel_rfl)
set_option maxHeartbeats 1000000 in
theorem fneed_bad (n : Int) (w : World) : Calls Tryz.prog 43 #[.bool false, .int .i64 n] w fun e w' => e = .panicked [stopP n] ∧ w = w' := by
  go_enter Tryz.func43, Tryz.ntmps43
  go_wp2_with (refine wpList_bldx rfl 140 _ rfl #[(0, .int .i64 n)] (by first | rfl | kernel_rfl) _ (stop_built n _) ?_)
  exact bodyPost_gone ⟨rfl, rfl⟩
set_option maxHeartbeats 1000000 in
theorem fpass_ok (w : World) : Calls Tryz.prog 67 #[.int .i64 0] w fun e w' => (∃ r, e = .returned r) ∧ w = w' := by
  have hn := fneed_ok 0 w
  go_enter Tryz.func67, Tryz.ntmps67
  go_wp2_with (go_at_call 43; refine hn.mono ?_; rintro e w1 ⟨⟨r, rfl⟩, rfl⟩)
  go_end0
  exact ⟨⟨_, rfl⟩, rfl⟩
set_option maxHeartbeats 1000000 in
theorem fpass_bad (n : Int) (hn0 : n ≠ 0) (w : World) : Calls Tryz.prog 67 #[.int .i64 n] w fun e w' => e = .panicked [stopP n] ∧ w = w' := by
  have hn := fneed_bad n w
  have hne : (n == 0) = false := by simpa using hn0
  clear hn0
  go_enter Tryz.func67, Tryz.ntmps67
  go_wp2_with (go_at_call 43; refine hn.mono ?_; rintro e w1 ⟨rfl, rfl⟩)
  exact bodyPost_gone ⟨rfl, rfl⟩
set_option maxHeartbeats 1000000 in
theorem gotB_ok (v : Value) (w : World) : Calls Tryz.prog 50 #[v, .int .i64 0] w fun e w' => e = .returned v ∧ w = w' := by
  have hn := fpass_ok w
  go_enter Tryz.func50, Tryz.ntmps50
  go_wp2_with (go_at_call 67; refine hn.mono ?_; rintro e w1 ⟨⟨r, rfl⟩, rfl⟩)
  go_ret
  exact ⟨rfl, rfl⟩
set_option maxHeartbeats 1000000 in
theorem gotB_bad (v : Value) (n : Int) (hn0 : n ≠ 0) (w : World) : Calls Tryz.prog 50 #[v, .int .i64 n] w fun e w' => e = .panicked [stopP n] ∧ w = w' := by
  have hn := fpass_bad n hn0 w
  clear hn0
  go_enter Tryz.func50, Tryz.ntmps50
  go_wp2_with (go_at_call 67; refine hn.mono ?_; rintro e w1 ⟨rfl, rfl⟩)
  exact bodyPost_gone ⟨rfl, rfl⟩
set_option maxHeartbeats 2000000 in
theorem gotK_ok (k : List Int) (hk : k.length = 32) (w : World) : Calls Tryz.prog 48 #[.agg (row .u8 k), .int .i64 0] w fun e w' => e = .returned (.agg (row .u8 k)) ∧ Below w.heap.size w w' := by
  obtain ⟨Z, hZl, hZ⟩ : ∃ Z : List Int, Z.length = 32 ∧ Z = List.replicate 32 0 := ⟨_, rfl, rfl⟩
  have hzv : ∀ wx, (zeroValue 23).run Tryz.prog wx = .ok (.agg (row .u8 Z)) wx := fun wx => by rw [hZ]; kernel_rfl
  have hk0 := (Holds.new w .u8 23 k).alloc (.cells (row .u8 Z) 23)
  have hz0 := Holds.new (w.alloc (.cells (row .u8 k) 23)) .u8 23 Z
  rw [World.size_alloc] at hz0
  have hB0 : Below w.heap.size w ((w.alloc (.cells (row .u8 k) 23)).alloc (.cells (row .u8 Z) 23)) := ((Below.refl _ _).alloc (Nat.le_refl _) _).alloc (by simp) _
  have HP := Veil.mk fpass_ok
  clear hZ
  have hz1 : ¬ (row .u8 Z) = #[] := by intro h; have := congrArg Array.size h; rw [row_size] at this; simp at this; rw [this] at hZl; simp at hZl
  go_enter Tryz.func48, Tryz.ntmps48
  go_upto_region 1 with fail
  refine forget (p := fun y => Code.wp _ _ _ _ y) (fun W => Below w.heap.size w W ∧ Holds W w.heap.size .u8 23 k ∧ Holds W (w.heap.size + 1) .u8 23 Z) ⟨hB0, hk0, hz0⟩ ?_
  clear hB0 hk0 hz0 hzv hz1
  rintro W ⟨hB, hK, hZ⟩
  have hn := HP.out W
  go_wp2_with (first
    | (go_at_call 67; refine hn.mono ?_; rintro e w1 ⟨⟨r, rfl⟩, rfl⟩; clear hn)
    | (refine wpList_ld rfl 23 _ rfl _ rfl hK Tryz.underlying23 sizeKeyD hk ?_)
    | (refine wpList_st rfl 23 _ _ rfl _ rfl rfl hZ (by rw [hk]; exact sizeKeyD) (by rw [hZl, hk]) ?_))
  refine bodyPost_ret (results_holds (Tryz.results48) _ rfl (hZ.setRow _) Tryz.underlying23 sizeKeyD hk) rfl ⟨rfl, ?_⟩
  exact below_setRow hB (by omega) _
end Go.Proofs.YtfainlfiphdaeaaGreatDoor
namespace Go.Proofs.YtfainlfiphdaeaaGreatDoor
open Go.RowKit
set_option maxRecDepth 20000
set_option linter.unusedSimpArgs false
def Tiles (place : Nat → Option (Nat × Nat)) : Nat → List (Nat × Value × List Value) → Prop
  | _, [] => True
  | off, x :: L => place x.1 = some (off, x.2.2.length) ∧ x.2.1.cells = x.2.2.toArray ∧ Tiles place (off + x.2.2.length) L
def tileL (L : List (Nat × Value × List Value)) : List Value := (L.map (·.2.2)).flatten
theorem tileL_cons (x : Nat × Value × List Value) (L : List (Nat × Value × List Value)) : tileL (x :: L) = x.2.2 ++ tileL L := by simp [tileL]
theorem fill_tile (place : Nat → Option (Nat × Nat)) : ∀ (L : List (Nat × Value × List Value)) (done tail : List Value), Tiles place done.length L → tail.length = (tileL L).length →
    Instr.fill place (done ++ tail).toArray (L.map fun x => (x.1, x.2.1)) = some (done ++ tileL L).toArray
  | [], done, tail, _, hl => by
    have : tail = [] := List.length_eq_zero_iff.1 (by simpa [tileL] using hl)
    rw [this]; simp [Instr.fill, tileL]
  | x :: L, done, tail, hT, hl => by
    obtain ⟨h1, h2, h3⟩ := hT
    rw [tileL_cons, List.length_append] at hl
    rw [List.map_cons, fill_cons place (done ++ tail) x.2.2 x.1 done.length x.2.2.length x.2.1 _ h1 h2 rfl (by rw [List.length_append]; omega)]
    rw [List.take_left, List.drop_length_add_append, fill_tile place L (done ++ x.2.2) (tail.drop x.2.2.length) (by rw [List.length_append]; exact h3) (by rw [List.length_drop]; omega), tileL_cons, List.append_assoc]
theorem execBuildT {P : Program} {o : Oper} {ev : Operand → Value} {w : World} {v : Value} (t : TypeId) (parts : Array (Nat × Operand)) (ho : o.op = .build t parts) (vs : Array (Nat × Value)) (hv : (parts.map fun (i, x) => (i, ev x)) = vs) (h : (Instr.build t vs).run P w = .ok v w) :
    (execOp ev o).run P w = .ok (.value v) w := by
  unfold execOp
  simp only [ho, hv, Sem.run_bind, Sem.run_pure, Result.andThen_ok, h]
theorem wpList_bldgT {P : Program} {ops : Array Oper} {rest : List Oper} {o : Oper} {a : Act} {w : World} {Q : Exit → Act → World → Prop} (hw : Region.wanted o (yielded ops a.tmps) = true) (t : TypeId) (parts : Array (Nat × Operand)) (ho : o.op = .build t parts) (vals : Array (Nat × Value)) (hv : (parts.map fun (i, x) => (i, a.eval x)) = vals) (v : Value) (hrun : (Instr.build t vals).run P w = .ok v w)
    (h : wpList P ops Q rest (a.put o.dst v) w) : wpList P ops Q (o :: rest) a w :=
  wpList_step fun K hK => by
    rw [if_pos hw]
    exact wpx_bld t parts ho vals hv v hrun (hK _ _ h)
end Go.Proofs.YtfainlfiphdaeaaGreatDoor
namespace Go.Proofs.YtfainlfiphdaeaaGreatDoor
open Go.RowKit
set_option maxRecDepth 20000
set_option linter.unusedSimpArgs false
set_option maxHeartbeats 2000000 in
theorem gotE_ok (E : Ev) (hE : E.past.length = 8) (w : World) : Calls Tryz.prog 69 #[.agg E.cells.toArray, .int .i64 0] w fun e w' => e = .returned (.agg E.cells.toArray) ∧ Below w.heap.size w w' := by
  have hk0 := (CellsAt.new w 33 E.cells).alloc (.cells evZ.cells.toArray 33)
  have hz0 := CellsAt.new (w.alloc (.cells E.cells.toArray 33)) 33 evZ.cells
  rw [World.size_alloc] at hz0
  have hB0 : Below w.heap.size w ((w.alloc (.cells E.cells.toArray 33)).alloc (.cells evZ.cells.toArray 33)) := ((Below.refl _ _).alloc (Nat.le_refl _) _).alloc (by simp) _
  have HP := Veil.mk fpass_ok
  have hiE := sizeEvZ E hE
  have h1E := ev_one E
  have hlE : evZ.cells.length = E.cells.length := by rw [ev_len E hE]; rfl
  have HE := Veil.mk hE
  clear hE
  generalize E.cells = EC at hk0 hz0 hB0 hiE h1E hlE ⊢
  go_enter Tryz.func69, Tryz.ntmps69
  go_upto_region 1 with fail
  refine forget (p := fun y => Code.wp _ _ _ _ y) (fun W => Below w.heap.size w W ∧ CellsAt W w.heap.size 33 EC ∧ CellsAt W (w.heap.size + 1) 33 evZ.cells) ⟨hB0, hk0, hz0⟩ ?_
  clear hB0 hk0 hz0
  rintro W ⟨hB, hK, hZ⟩
  have hn := HP.out W
  have rE := hK.wholeM
  go_wp2_with (first
    | (go_at_call 67; refine hn.mono ?_; rintro e w1 ⟨⟨r, rfl⟩, rfl⟩; clear hn)
    | (refine wpList_ldv rfl 33 _ rfl _ _ rfl EC rE Tryz.underlying33 rfl hiE ?_)
    | (refine wpList_stv rfl 33 _ _ rfl _ rfl rfl hZ hiE hlE h1E ?_))
  refine bodyPost_ret (results_cells (Tryz.results69) _ rfl (hZ.setRow _) Tryz.underlying33 rfl hiE) rfl ⟨rfl, ?_⟩
  exact below_setRow hB (by omega) _
set_option maxHeartbeats 2000000 in
theorem gotE_bad (E : Ev) (n : Int) (hn0 : n ≠ 0) (w : World) : Calls Tryz.prog 69 #[.agg E.cells.toArray, .int .i64 n] w fun e w' => e = .panicked [stopP n] ∧ Below w.heap.size w w' := by
  have hB0 : Below w.heap.size w ((w.alloc (.cells E.cells.toArray 33)).alloc (.cells evZ.cells.toArray 33)) := ((Below.refl _ _).alloc (Nat.le_refl _) _).alloc (by simp) _
  have HP := Veil.mk (fpass_bad n hn0)
  clear hn0
  generalize E.cells = EC at hB0 ⊢
  go_enter Tryz.func69, Tryz.ntmps69
  go_upto_region 1 with fail
  refine forget (p := fun y => Code.wp _ _ _ _ y) (fun W => Below w.heap.size w W) hB0 ?_
  clear hB0
  rintro W hB
  have hn := HP.out W
  go_wp2_with (go_at_call 67; refine hn.mono ?_; rintro e w1 ⟨rfl, rfl⟩)
  exact bodyPost_gone ⟨rfl, hB⟩
set_option maxHeartbeats 2000000 in
theorem gotK_bad (k : List Int) (n : Int) (hn0 : n ≠ 0) (w : World) : Calls Tryz.prog 48 #[.agg (row .u8 k), .int .i64 n] w fun e w' => e = .panicked [stopP n] ∧ Below w.heap.size w w' := by
  obtain ⟨Z, hZl, hZ⟩ : ∃ Z : List Int, Z.length = 32 ∧ Z = List.replicate 32 0 := ⟨_, rfl, rfl⟩
  have hzv : ∀ wx, (zeroValue 23).run Tryz.prog wx = .ok (.agg (row .u8 Z)) wx := fun wx => by rw [hZ]; kernel_rfl
  have hB0 : Below w.heap.size w ((w.alloc (.cells (row .u8 k) 23)).alloc (.cells (row .u8 Z) 23)) := ((Below.refl _ _).alloc (Nat.le_refl _) _).alloc (by simp) _
  have HP := Veil.mk (fpass_bad n hn0)
  have hz1 : ¬ (row .u8 Z) = #[] := by intro h; have := congrArg Array.size h; rw [row_size] at this; simp at this; rw [this] at hZl; simp at hZl
  clear hZ hn0
  go_enter Tryz.func48, Tryz.ntmps48
  go_upto_region 1 with fail
  refine forget (p := fun y => Code.wp _ _ _ _ y) (fun W => Below w.heap.size w W) hB0 ?_
  clear hB0 hzv hz1
  rintro W hB
  have hn := HP.out W
  go_wp2_with (go_at_call 67; refine hn.mono ?_; rintro e w1 ⟨rfl, rfl⟩)
  exact bodyPost_gone ⟨rfl, hB⟩
def mayB (n : Int) : Bool := decide (1 ≤ n) && decide (n ≤ 256)
set_option maxHeartbeats 1000000 in
theorem mayNum_any (n : Int) (w : World) : Calls Tryz.prog 44 #[.int .u32 n] w fun e w' => e = .returned (.bool (mayB n)) ∧ w = w' := by
  by_cases h1 : n ≥ 1
  · by_cases h2 : n ≤ 256
    · have HR : Veil (mayB n = true) := ⟨by unfold mayB; have : 1 ≤ n := h1; simp [this, h2]⟩
      go_enter Tryz.func44, Tryz.ntmps44
      go_wp2
      go_ret
      exact ⟨ret_bC HR.out.symm, rfl⟩
    · have HR : Veil (mayB n = false) := ⟨by unfold mayB; simp [h2]⟩
      go_enter Tryz.func44, Tryz.ntmps44
      go_wp2
      go_ret
      exact ⟨ret_bC HR.out.symm, rfl⟩
  · have HR : Veil (mayB n = false) := ⟨by unfold mayB; have : ¬ 1 ≤ n := h1; simp [this]⟩
    go_enter Tryz.func44, Tryz.ntmps44
    go_wp2
    go_ret
    exact ⟨ret_bC HR.out.symm, rfl⟩
def fitsB (E : Ev) (F : Fr) : Bool := rightB E && ((E.da == F.author) && (E.ds == F.number))
theorem dot_built (a n : Int) (wx : World) : (Instr.build 26 #[(0, .int .u8 a), (1, .int .u32 n)]).run Tryz.prog wx = .ok (.agg (dotC a n).toArray) wx := run_build wx _ _ _ (by kernel_rfl)
set_option maxHeartbeats 4000000 in
theorem fits_any (E : Ev) (F : Fr) (hE : E.In) (hp : F.prev.length = 32) (hm : F.mac.length = 32) (w : World) :
    Calls Tryz.prog 47 #[.agg E.cells.toArray, .agg F.cells.toArray] w fun e w' => e = .returned (.bool (fitsB E F)) ∧ Below w.heap.size w w' := by
  have hA0 := (CellsAt.new w 33 E.cells).alloc (.cells F.cells.toArray 43)
  have hF0 := CellsAt.new (w.alloc (.cells E.cells.toArray 33)) 43 F.cells
  rw [World.size_alloc] at hF0
  have hB0 : Below w.heap.size w ((w.alloc (.cells E.cells.toArray 33)).alloc (.cells F.cells.toArray 43)) := ((Below.refl _ _).alloc (Nat.le_refl _) _).alloc (by simp) _
  have HR : Veil (∀ W, Calls Tryz.prog 100 #[.agg E.cells.toArray] W fun x w' => x = .returned (.bool (rightB E)) ∧ Below W.heap.size W w') := ⟨fun W => cright_any E W hE.plen hE.da.1 hE.ds.1 (by have := hE.ds.2; omega) hE.pa.1 hE.ps.1⟩
  have hiE := sizeEvZ E hE.plen
  have HF : Veil (∀ W, CellsAt W w.heap.size 33 E.cells → CellsAt W (w.heap.size + 1) 43 F.cells → W.rangeAt w.heap.size 0 (dotC E.da E.ds) ∧ W.cell? ⟨w.heap.size + 1, 0, none⟩ = some (.int .u8 F.author) ∧ W.cell? ⟨w.heap.size + 1, 1, none⟩ = some (.int .u32 F.number)) := ⟨fun W h1 h2 => by
    obtain ⟨_, q0, q1, _⟩ := fr_parts F hp hm
    refine ⟨?_, (h2.cell 0).trans q0, (h2.cell 1).trans q1⟩
    have := h1.range 0 2
    rw [ev_dot E hE.plen] at this
    exact this⟩
  have HEQ : Veil (∀ wx, (binOp .eql 26 (.agg (dotC E.da E.ds).toArray) (.agg (dotC F.author F.number).toArray)).run Tryz.prog wx = .ok (.bool ((E.da == F.author) && (E.ds == F.number))) wx) := ⟨fun wx => dot_eql E.da E.ds F.author F.number wx⟩
  have HBD := Veil.mk (dot_built F.author F.number)
  have HH : Veil (fitsB E F = (rightB E && ((E.da == F.author) && (E.ds == F.number)))) := ⟨rfl⟩
  have iD : (Tryz.prog.info? 26).map (·.size) = some (dotC E.da E.ds).length := sizeDot
  clear hE hp hm
  generalize fitsB E F = FB at HH ⊢
  generalize ((E.da == F.author) && (E.ds == F.number)) = eb at HEQ HH
  generalize rightB E = rb at HR HH
  generalize dotC E.da E.ds = DE at HF HEQ iD
  generalize dotC F.author F.number = DF at HEQ HBD
  generalize E.cells = EC at hA0 hF0 hB0 HR HF hiE ⊢
  generalize F.cells = FC at hA0 hF0 hB0 HF ⊢
  generalize F.author = FA at HF HBD
  generalize F.number = FN at HF HBD
  have uD := Tryz.underlying26
  have uE := Tryz.underlying33
  go_enter Tryz.func47, Tryz.ntmps47
  go_upto_region 1 with fail
  refine forget (p := fun y => Code.wp _ _ _ _ y) (fun W => Below w.heap.size w W ∧ CellsAt W w.heap.size 33 EC ∧ CellsAt W (w.heap.size + 1) 43 FC) ⟨hB0, hA0, hF0⟩ ?_
  clear hB0 hA0 hF0
  rintro W ⟨hB, hA, hF⟩
  have hr := HR.out W
  have rE := hA.wholeM
  have heq := HEQ.out
  cases rb
  · clear heq
    go_wp2_with (first
      | (refine wpList_ldv rfl 33 _ rfl _ _ rfl EC rE uE rfl hiE ?_)
      | (go_at_call 100; refine hr.mono ?_; rintro e w1 ⟨rfl, hb1⟩))
    go_ret
    exact ⟨by rw [HH.out]; rfl, hB.trans (hb1.mono hB.size)⟩
  · go_wp2_with (first
      | (refine wpList_ldv rfl 33 _ rfl _ _ rfl EC rE uE rfl hiE ?_)
      | (go_at_call 100; refine hr.mono ?_; rintro e w1 ⟨rfl, hb1⟩; obtain ⟨rD, c0, c1⟩ := HF.out w1 (hA.farM hb1) (hF.farM hb1); clear rE)
      | (refine wpList_ldgv (by kernel_rfl) 26 _ rfl w.heap.size 0 rfl DE rD uD rfl iD ?_)
      | (refine wpList_bldgT (by kernel_rfl) 26 _ rfl #[(0, .int .u8 FA), (1, .int .u32 FN)] (by first | rfl | kernel_rfl) _ (HBD.out _) ?_))
    go_ret
    exact ⟨by rw [HH.out]; cases eb <;> rfl, hB.trans (hb1.mono hB.size)⟩
end Go.Proofs.YtfainlfiphdaeaaGreatDoor
