/- Cv5 Fm1 Bt -/
import Derived.Test.YtlhajphjppjlgaaGreatDoorV31
import Derived.Test.YtlhajphjppjlgaaGreatDoorT02
import Derived.Test.YtlhajphjppjlgaaGreatDoorT29
import Derived.Test.YtlhajphjppjlgaaGreatDoorT30
import Derived.Test.YtlhajphjppjlgaaGreatDoorT03
import Derived.Test.YtlhajphjppjlgaaGreatDoorT26
import Derived.Test.YtlhajphjppjlgaaGreatDoorT27
namespace Go.Proofs.YtlhajphjppjlgaaGreatDoor
open Go.RowKit
set_option maxRecDepth 20000
set_option linter.unusedSimpArgs false
set_option maxHeartbeats 16000000 in
theorem cright_any (e : Ev) (w : World) (hp : e.past.length = 8) (ha : 0 ≤ e.da) (hs : 0 ≤ e.ds) (hs2 : e.ds < 4294967296) (hpa : 0 ≤ e.pa) (hps : 0 ≤ e.ps) :
    Calls Tryz.prog 86 #[.agg e.cells.toArray] w fun x w' => x = .returned (.bool (rightB e)) ∧ Below w.heap.size w w' := by
  have h0 := CellsAt.new w 76 e.cells
  have hB0 : Below w.heap.size w (w.alloc (.cells e.cells.toArray 76)) := (Below.refl _ _).alloc (Nat.le_refl _) _
  have HRD : Veil (∀ W, Calls Tryz.prog 109 #[.agg e.cells.toArray] W fun x w' => x = .returned (.bool (rightDotB e)) ∧ Below W.heap.size W w') := ⟨fun W => crightDot_any e W hp ha hs hs2⟩
  have HRP : Veil (∀ W, Calls Tryz.prog 110 #[.agg e.cells.toArray] W fun x w' => x = .returned (.bool (rightParB e)) ∧ Below W.heap.size W w') := ⟨fun W => crightPar_any e W hp hpa hps⟩
  have HNM : Veil (∀ W, Calls Tryz.prog 111 #[.agg e.cells.toArray] W fun x w' => x = .returned (.bool (noMemB e)) ∧ Below W.heap.size W w') := ⟨fun W => cnoMem_any e W hp⟩
  have HNT : Veil (∀ W, Calls Tryz.prog 113 #[.agg e.cells.toArray] W fun x w' => x = .returned (.bool (noTextB e)) ∧ Below W.heap.size W w') := ⟨fun W => cnoText_any e W hp⟩
  have HCH : Veil (∀ W, Calls Tryz.prog 112 #[.agg (e.past.map (Value.int .u32)).toArray, .agg (dotC e.pa e.ps).toArray] W fun x w' => x = .returned (.bool (hasB e.past e.pa e.ps)) ∧ Below W.heap.size W w') := ⟨fun W => chas_any e.past e.pa e.ps W hp hpa hps⟩
  have HH : Veil (rightB e = (rightDotB e && (if e.kind = 1 then ((decide (1 ≤ e.char) && decide (e.char ≤ 127)) && rightParB e) && noMemB e else if e.kind = 2 then ((hasB e.past e.pa e.ps && !e.right) && (e.char == 0)) && noMemB e else if e.kind = 3 then ((decide (e.who < 8) && decide (1 ≤ e.role)) && decide (e.role ≤ 3)) && noTextB e else if e.kind = 4 then (decide (e.who < 8) && (e.role == 0)) && noTextB e else false))) := ⟨rfl⟩
  have HF : Veil (∀ W, CellsAt W w.heap.size 76 e.cells → W.cell? ⟨w.heap.size, 10, none⟩ = some (.int .u8 e.kind) ∧ W.cell? ⟨w.heap.size, 13, none⟩ = some (.bool e.right) ∧ W.cell? ⟨w.heap.size, 14, none⟩ = some (.int .u8 e.char) ∧ W.cell? ⟨w.heap.size, 15, none⟩ = some (.int .u8 e.who) ∧ W.cell? ⟨w.heap.size, 16, none⟩ = some (.int .u8 e.role) ∧ W.rangeAt w.heap.size 11 (dotC e.pa e.ps) ∧ W.rangeAt w.heap.size 2 (e.past.map (Value.int .u32)) ∧ W.rangeAt w.heap.size 0 e.cells) := ⟨fun W h => by
    obtain ⟨_, q2, q10, q11, q13, q14, q15, q16⟩ := ev_parts e hp
    refine ⟨(h.cell 10).trans q10, (h.cell 13).trans q13, (h.cell 14).trans q14, (h.cell 15).trans q15, (h.cell 16).trans q16, ?_, ?_, h.wholeM⟩
    · have := h.range 11 2; rw [q11] at this; exact this
    · have := h.range 2 8; rw [q2] at this; exact this⟩
  have iE : (Tryz.prog.info? 76).map (·.size) = some e.cells.length := by rw [(ev_cell15 e hp).2.2.2.2]; kernel_rfl
  have iV : (Tryz.prog.info? 74).map (·.size) = some (e.past.map (Value.int .u32)).length := by rw [List.length_map, hp]; exact sizeV8c
  have iD : (Tryz.prog.info? 28).map (·.size) = some (dotC e.pa e.ps).length := sizeDot
  have uD := Tryz.underlying28
  have uV := Tryz.underlying74
  have uE := Tryz.underlying76
  clear hp ha hs hs2 hpa hps
  generalize rightB e = RB at HH ⊢
  generalize rightDotB e = rd at HRD HH
  generalize rightParB e = rp at HRP HH
  generalize noMemB e = nm at HNM HH
  generalize noTextB e = nt at HNT HH
  generalize hasB e.past e.pa e.ps = hb at HCH HH
  generalize dotC e.pa e.ps = DP at HCH HF iD
  generalize e.past.map (Value.int .u32) = PV at HCH HF iV
  generalize e.cells = EC at h0 hB0 HRD HRP HNM HNT HF iE ⊢
  generalize e.kind = KD at HF HH
  generalize e.right = ri at HF HH
  generalize e.char = CH at HF HH
  generalize e.who = WO at HF HH
  generalize e.role = RO at HF HH
  have r0 := h0.wholeM
  have hrd := HRD.out (w.alloc (.cells EC.toArray 76))
  clear HRD
  have HB : Veil (∀ W w1, Below w.heap.size w W → Below W.heap.size W w1 → Below w.heap.size w w1) := ⟨fun W w1 h h2 => h.trans (h2.mono h.size)⟩
  have H1 : Veil (∀ w1, Below (w.alloc (.cells EC.toArray 76)).heap.size (w.alloc (.cells EC.toArray 76)) w1 → Below w.heap.size w w1 ∧ CellsAt w1 w.heap.size 76 EC) := ⟨fun w1 h => ⟨hB0.trans (h.mono hB0.size), h0.farM h⟩⟩
  clear h0 hB0
  cases rd
  · go_enter Tryz.func86, Tryz.ntmps86
    go_wp2_with (first
      | (refine wpList_ldv rfl 76 _ rfl w.heap.size 0 rfl EC r0 uE rfl iE ?_)
      | (go_at_call 109; refine hrd.mono ?_; rintro e w1 ⟨rfl, hb1⟩))
    go_ret
    exact ⟨by rw [HH.out]; rfl, (H1.out w1 hb1).1⟩
  go_enter Tryz.func86, Tryz.ntmps86
  go_upto_region 3 with (first
    | (refine wpList_ldv rfl 76 _ rfl w.heap.size 0 rfl EC r0 uE rfl iE ?_)
    | (go_at_call 109; refine hrd.mono ?_; rintro e w1 ⟨rfl, hb1⟩))
  refine forget (p := fun y => Code.wp _ _ _ _ y) (fun W => Below w.heap.size w W ∧ CellsAt W w.heap.size 76 EC) (H1.out w1 hb1) ?_
  clear hb1 hrd r0 H1
  clear w1
  rintro W ⟨hB, hE⟩
  obtain ⟨c10, c13, c14, c15, c16, rD, rV, rE⟩ := HF.out W hE
  have hh := HCH.out W
  by_cases k1 : KD = 1
  · subst k1
    by_cases k2 : CH ≥ 1
    rotate_left
    · clear hh
      have HR : Veil (RB = false) := ⟨by rw [HH.out]; have k2' : ¬ 1 ≤ CH := (by omega); simp [k2']⟩
      go_wp2
      go_ret
      exact ⟨ret_bC HR.out.symm, hB⟩
    by_cases k3 : CH ≤ 127
    rotate_left
    · clear hh
      have HR : Veil (RB = false) := ⟨by rw [HH.out]; simp [k3]⟩
      go_wp2
      go_ret
      exact ⟨ret_bC HR.out.symm, hB⟩
    have hrp := HRP.out W
    have HR : Veil (RB = (rp && nm)) := ⟨by rw [HH.out]; have k2' : 1 ≤ CH := (by omega); simp [k2', k3]⟩
    clear hh
    cases rp
    · go_wp2_with (first
        | (refine wpList_ldgv (by kernel_rfl) 76 _ rfl w.heap.size 0 rfl EC rE uE rfl iE ?_)
        | (go_at_call 110; refine hrp.mono ?_; rintro e w1 ⟨rfl, hb1⟩; replace hB := HB.out W w1 hB hb1; clear hrp rE))
      go_ret
      exact ⟨ret_bC HR.out.symm, hB⟩
    · go_wp2_with (first
        | (refine wpList_ldgv (by kernel_rfl) 76 _ rfl w.heap.size 0 rfl EC rE1 uE rfl iE ?_)
        | (refine wpList_ldgv (by kernel_rfl) 76 _ rfl w.heap.size 0 rfl EC rE uE rfl iE ?_)
        | (go_at_call 110; refine hrp.mono ?_; rintro e w1 ⟨rfl, hb1⟩; have rE1 := (hE.farM hb1).wholeM; have hn := HNM.out w1; replace hB := HB.out W w1 hB hb1; clear hrp)
        | (go_at_call 111; refine hn.mono ?_; rintro e w2 ⟨rfl, hb2⟩; replace hB := HB.out _ w2 hB hb2))
      go_ret
      exact ⟨ret_bC HR.out.symm, hB⟩
  have k1' : (KD == 1) = false := by simpa using k1
  by_cases k2 : KD = 2
  · subst k2
    cases hb
    · have HR : Veil (RB = false) := ⟨by rw [HH.out]; simp⟩
      go_wp2_with (first
        | (refine wpList_ldv rfl 74 _ rfl w.heap.size 2 rfl PV rV uV rfl iV ?_)
        | (refine wpList_ldv rfl 28 _ rfl w.heap.size 11 rfl DP rD uD rfl iD ?_)
        | (go_at_call 112; refine hh.mono ?_; rintro e w1 ⟨rfl, hb1⟩; obtain ⟨c10, c13, c14, c15, c16, rD1, rV1, rE1⟩ := HF.out w1 (hE.farM hb1); replace hB := HB.out W w1 hB hb1; clear hh))
      go_ret
      exact ⟨ret_bC HR.out.symm, hB⟩
    cases ri
    rotate_left
    · have HR : Veil (RB = false) := ⟨by rw [HH.out]; simp⟩
      go_wp2_with (first
        | (refine wpList_ldv rfl 74 _ rfl w.heap.size 2 rfl PV rV uV rfl iV ?_)
        | (refine wpList_ldv rfl 28 _ rfl w.heap.size 11 rfl DP rD uD rfl iD ?_)
        | (go_at_call 112; refine hh.mono ?_; rintro e w1 ⟨rfl, hb1⟩; obtain ⟨c10, c13, c14, c15, c16, rD1, rV1, rE1⟩ := HF.out w1 (hE.farM hb1); replace hB := HB.out W w1 hB hb1; clear hh))
      go_ret
      exact ⟨ret_bC HR.out.symm, hB⟩
    by_cases k3 : CH = 0
    · have k3' : (CH == 0) = true := by simp [k3]
      clear k3
      have HR : Veil (RB = nm) := ⟨by rw [HH.out, k3']; simp⟩
      go_wp2_with (first
        | (refine wpList_ldv rfl 74 _ rfl w.heap.size 2 rfl PV rV uV rfl iV ?_)
        | (refine wpList_ldv rfl 28 _ rfl w.heap.size 11 rfl DP rD uD rfl iD ?_)
        | (refine wpList_ldgv (by kernel_rfl) 76 _ rfl w.heap.size 0 rfl EC rE1 uE rfl iE ?_)
        | (go_at_call 112; refine hh.mono ?_; rintro e w1 ⟨rfl, hb1⟩; obtain ⟨c10, c13, c14, c15, c16, rD1, rV1, rE1⟩ := HF.out w1 (hE.farM hb1); have hn := HNM.out w1; replace hB := HB.out W w1 hB hb1; clear hh)
        | (go_at_call 111; refine hn.mono ?_; rintro e w2 ⟨rfl, hb2⟩; replace hB := HB.out _ w2 hB hb2))
      go_ret
      exact ⟨ret_bC HR.out.symm, hB⟩
    · have k3' : (CH == 0) = false := by simpa using k3
      clear k3
      have HR : Veil (RB = false) := ⟨by rw [HH.out, k3']; simp⟩
      go_wp2_with (first
        | (refine wpList_ldv rfl 74 _ rfl w.heap.size 2 rfl PV rV uV rfl iV ?_)
        | (refine wpList_ldv rfl 28 _ rfl w.heap.size 11 rfl DP rD uD rfl iD ?_)
        | (go_at_call 112; refine hh.mono ?_; rintro e w1 ⟨rfl, hb1⟩; obtain ⟨c10, c13, c14, c15, c16, rD1, rV1, rE1⟩ := HF.out w1 (hE.farM hb1); have hn := HNM.out w1; replace hB := HB.out W w1 hB hb1; clear hh))
      go_ret
      exact ⟨ret_bC HR.out.symm, hB⟩
  have k2' : (KD == 2) = false := by simpa using k2
  clear hh
  have hnt := HNT.out W
  by_cases k3 : KD = 3
  · subst k3
    by_cases k4 : WO < 8
    rotate_left
    · have HR : Veil (RB = false) := ⟨by rw [HH.out]; simp [k4]⟩
      go_wp2
      go_ret
      exact ⟨ret_bC HR.out.symm, hB⟩
    by_cases k5 : RO ≥ 1
    rotate_left
    · have HR : Veil (RB = false) := ⟨by rw [HH.out]; have k5' : ¬ 1 ≤ RO := (by omega); simp [k5']⟩
      go_wp2
      go_ret
      exact ⟨ret_bC HR.out.symm, hB⟩
    by_cases k6 : RO ≤ 3
    rotate_left
    · have HR : Veil (RB = false) := ⟨by rw [HH.out]; simp [k6]⟩
      go_wp2
      go_ret
      exact ⟨ret_bC HR.out.symm, hB⟩
    have HR : Veil (RB = nt) := ⟨by rw [HH.out]; have k5' : 1 ≤ RO := (by omega); simp [k4, k5', k6]⟩
    go_wp2_with (first
      | (refine wpList_ldgv (by kernel_rfl) 76 _ rfl w.heap.size 0 rfl EC rE uE rfl iE ?_)
      | (go_at_call 113; refine hnt.mono ?_; rintro e w1 ⟨rfl, hb1⟩; replace hB := HB.out W w1 hB hb1; clear hnt))
    go_ret
    exact ⟨ret_bC HR.out.symm, hB⟩
  have k3' : (KD == 3) = false := by simpa using k3
  by_cases k4 : KD = 4
  · subst k4
    by_cases k5 : WO < 8
    rotate_left
    · have HR : Veil (RB = false) := ⟨by rw [HH.out]; simp [k5]⟩
      go_wp2
      go_ret
      exact ⟨ret_bC HR.out.symm, hB⟩
    by_cases k6 : RO = 0
    rotate_left
    · have k6' : (RO == 0) = false := by simpa using k6
      clear k6
      have HR : Veil (RB = false) := ⟨by rw [HH.out, k6']; simp⟩
      go_wp2
      go_ret
      exact ⟨ret_bC HR.out.symm, hB⟩
    have k6' : (RO == 0) = true := by simp [k6]
    clear k6
    have HR : Veil (RB = nt) := ⟨by rw [HH.out, k6']; simp [k5]⟩
    go_wp2_with (first
      | (refine wpList_ldgv (by kernel_rfl) 76 _ rfl w.heap.size 0 rfl EC rE uE rfl iE ?_)
      | (go_at_call 113; refine hnt.mono ?_; rintro e w1 ⟨rfl, hb1⟩; replace hB := HB.out W w1 hB hb1; clear hnt))
    go_ret
    exact ⟨ret_bC HR.out.symm, hB⟩
  have k4' : (KD == 4) = false := by simpa using k4
  have HKF : Veil (RB = false) := ⟨by rw [HH.out, if_neg k1, if_neg k2, if_neg k3, if_neg k4]; rfl⟩
  clear k1 k2 k3 k4
  go_wp2
  go_ret
  exact ⟨ret_bC HKF.out.symm, hB⟩
def stopP (why : Int) : PanicEntry := { v := .iface 157 (.agg #[.int .i64 why]), recovered := false }
set_option maxHeartbeats 1000000 in
theorem fneed_ok (n : Int) (w : World) : Calls Tryz.prog 45 #[.bool true, .int .i64 n] w fun e w' => (∃ r, e = .returned r) ∧ w = w' := by
  go_enter Tryz.func45, Tryz.ntmps45
  go_wp2
  go_end0
  exact ⟨⟨_, rfl⟩, rfl⟩
theorem stop_built (n : Int) (wx : World) : (Instr.build 157 #[(0, .int .i64 n)]).run Tryz.prog wx = .ok (.agg #[.int .i64 n]) wx := run_build wx _ _ _ (by kernel_rfl)
set_option maxHeartbeats 1000000 in
theorem fneed_bad (n : Int) (w : World) : Calls Tryz.prog 45 #[.bool false, .int .i64 n] w fun e w' => e = .panicked [stopP n] ∧ w = w' := by
  go_enter Tryz.func45, Tryz.ntmps45
  go_wp2_with (refine wpList_bldx rfl 157 _ rfl #[(0, .int .i64 n)] (by first | rfl | kernel_rfl) _ (stop_built n _) ?_)
  exact bodyPost_gone ⟨rfl, rfl⟩
set_option maxHeartbeats 1000000 in
theorem fpass_ok (w : World) : Calls Tryz.prog 82 #[.int .i64 0] w fun e w' => (∃ r, e = .returned r) ∧ w = w' := by
  have hn := fneed_ok 0 w
  go_enter Tryz.func82, Tryz.ntmps82
  go_wp2_with (go_at_call 45; refine hn.mono ?_; rintro e w1 ⟨⟨r, rfl⟩, rfl⟩)
  go_end0
  exact ⟨⟨_, rfl⟩, rfl⟩
set_option maxHeartbeats 1000000 in
theorem fpass_bad (n : Int) (hn0 : n ≠ 0) (w : World) : Calls Tryz.prog 82 #[.int .i64 n] w fun e w' => e = .panicked [stopP n] ∧ w = w' := by
  have hn := fneed_bad n w
  have hne : (n == 0) = false := by simpa using hn0
  clear hn0
  go_enter Tryz.func82, Tryz.ntmps82
  go_wp2_with (go_at_call 45; refine hn.mono ?_; rintro e w1 ⟨rfl, rfl⟩)
  exact bodyPost_gone ⟨rfl, rfl⟩
set_option maxHeartbeats 1000000 in
theorem gotB_ok (v : Value) (w : World) : Calls Tryz.prog 47 #[v, .int .i64 0] w fun e w' => e = .returned v ∧ w = w' := by
  have hn := fpass_ok w
  go_enter Tryz.func47, Tryz.ntmps47
  go_wp2_with (go_at_call 82; refine hn.mono ?_; rintro e w1 ⟨⟨r, rfl⟩, rfl⟩)
  go_ret
  exact ⟨rfl, rfl⟩
set_option maxHeartbeats 2000000 in
theorem gotK_ok (k : List Int) (hk : k.length = 32) (w : World) : Calls Tryz.prog 55 #[.agg (row .u8 k), .int .i64 0] w fun e w' => e = .returned (.agg (row .u8 k)) ∧ Below w.heap.size w w' := by
  obtain ⟨Z, hZl, hZ⟩ : ∃ Z : List Int, Z.length = 32 ∧ Z = List.replicate 32 0 := ⟨_, rfl, rfl⟩
  have hzv : ∀ wx, (zeroValue 23).run Tryz.prog wx = .ok (.agg (row .u8 Z)) wx := fun wx => by rw [hZ]; kernel_rfl
  have hk0 := (Holds.new w .u8 23 k).alloc (.cells (row .u8 Z) 23)
  have hz0 := Holds.new (w.alloc (.cells (row .u8 k) 23)) .u8 23 Z
  rw [World.size_alloc] at hz0
  have hB0 : Below w.heap.size w ((w.alloc (.cells (row .u8 k) 23)).alloc (.cells (row .u8 Z) 23)) := ((Below.refl _ _).alloc (Nat.le_refl _) _).alloc (by simp) _
  have HP := Veil.mk fpass_ok
  clear hZ
  have hz1 : ¬ (row .u8 Z) = #[] := by intro h; have := congrArg Array.size h; rw [row_size] at this; simp at this; rw [this] at hZl; simp at hZl
  go_enter Tryz.func55, Tryz.ntmps55
  go_upto_region 1 with fail
  refine forget (p := fun y => Code.wp _ _ _ _ y) (fun W => Below w.heap.size w W ∧ Holds W w.heap.size .u8 23 k ∧ Holds W (w.heap.size + 1) .u8 23 Z) ⟨hB0, hk0, hz0⟩ ?_
  clear hB0 hk0 hz0 hzv hz1
  rintro W ⟨hB, hK, hZ⟩
  have hn := HP.out W
  go_wp2_with (first
    | (go_at_call 82; refine hn.mono ?_; rintro e w1 ⟨⟨r, rfl⟩, rfl⟩; clear hn)
    | (refine wpList_ld rfl 23 _ rfl _ rfl hK Tryz.underlying23 sizeKeyD hk ?_)
    | (refine wpList_st rfl 23 _ _ rfl _ rfl rfl hZ (by rw [hk]; exact sizeKeyD) (by rw [hZl, hk]) ?_))
  refine bodyPost_ret (results_holds (Tryz.results55) _ rfl (hZ.setRow _) Tryz.underlying23 sizeKeyD hk) rfl ⟨rfl, ?_⟩
  exact below_setRow hB (by omega) _
def Tiles (place : Nat → Option (Nat × Nat)) : Nat → List (Nat × Value × List Value) → Prop
  | _, [] => True
  | off, x :: L => place x.1 = some (off, x.2.2.length) ∧ x.2.1.cells = x.2.2.toArray ∧ Tiles place (off + x.2.2.length) L
def tileL (L : List (Nat × Value × List Value)) : List Value := (L.map (·.2.2)).flatten
theorem tileL_cons (x : Nat × Value × List Value) (L : List (Nat × Value × List Value)) : tileL (x :: L) = x.2.2 ++ tileL L := by simp [tileL]
theorem fill_tile (place : Nat → Option (Nat × Nat)) : ∀ (L : List (Nat × Value × List Value)) (done tail : List Value), Tiles place done.length L → tail.length = (tileL L).length →
    Instr.fill place (done ++ tail).toArray (L.map fun x => (x.1, x.2.1)) = some (done ++ tileL L).toArray
  | [], done, tail, _, hl => by
    have : tail = [] := List.length_eq_zero_iff.1 (by simpa [tileL] using hl)
    rw [this]; simp [Instr.fill, tileL]
  | x :: L, done, tail, hT, hl => by
    obtain ⟨h1, h2, h3⟩ := hT
    rw [tileL_cons, List.length_append] at hl
    rw [List.map_cons, fill_cons place (done ++ tail) x.2.2 x.1 done.length x.2.2.length x.2.1 _ h1 h2 rfl (by rw [List.length_append]; omega)]
    rw [List.take_left, List.drop_length_add_append, fill_tile place L (done ++ x.2.2) (tail.drop x.2.2.length) (by rw [List.length_append]; exact h3) (by rw [List.length_drop]; omega), tileL_cons, List.append_assoc]
theorem built_tile {P : Program} {t : TypeId} {fields : Array Field} {n : Nat} {places : List (Nat × Nat)} (hz : (P.info? t).map (fun i => i.zero.map (·.cells.size)) = some (some n)) (hu : P.underlying t = some (.struct fields)) (hp : fields.toList.mapM (fun f => (P.info? f.type).map fun i => (f.offset, i.size)) = some places)
    (L : List (Nat × Value × List Value)) (hT : Tiles (places.toArray[·]?) 0 L) (hn : n = (tileL L).length) (w : World) : (Instr.build t (L.map fun x => (x.1, x.2.1)).toArray).run P w = .ok (.agg (tileL L).toArray) w := by
  refine run_build w _ _ _ ?_
  unfold Program.built
  cases hi : P.info? t with
  | none => simp [hi] at hz
  | some it =>
    cases hq : it.zero with
    | none => simp [hi, hq] at hz
    | some zv =>
      have hs : zv.cells.size = n := by simpa [hi, hq] using hz
      simp only [hu, hp, hq]
      have := fill_tile (places.toArray[·]?) L [] zv.cells.toList hT (by rw [Array.length_toList, hs, hn])
      rw [List.nil_append, List.nil_append] at this
      simpa using this
theorem execBuildT {P : Program} {o : Oper} {ev : Operand → Value} {w : World} {v : Value} (t : TypeId) (parts : Array (Nat × Operand)) (ho : o.op = .build t parts) (vs : Array (Nat × Value)) (hv : (parts.map fun (i, x) => (i, ev x)) = vs) (h : (Instr.build t vs).run P w = .ok v w) :
    (execOp ev o).run P w = .ok (.value v) w := by
  unfold execOp
  simp only [ho, hv, Sem.run_bind, Sem.run_pure, Result.andThen_ok, h]
theorem wpList_bldgT {P : Program} {ops : Array Oper} {rest : List Oper} {o : Oper} {a : Act} {w : World} {Q : Exit → Act → World → Prop} (hw : Region.wanted o (yielded ops a.tmps) = true) (t : TypeId) (parts : Array (Nat × Operand)) (ho : o.op = .build t parts) (vals : Array (Nat × Value)) (hv : (parts.map fun (i, x) => (i, a.eval x)) = vals) (v : Value) (hrun : (Instr.build t vals).run P w = .ok v w)
    (h : wpList P ops Q rest (a.put o.dst v) w) : wpList P ops Q (o :: rest) a w :=
  wpList_step fun K hK => by
    rw [if_pos hw]
    exact wpx_bld t parts ho vals hv v hrun (hK _ _ h)
end Go.Proofs.YtlhajphjppjlgaaGreatDoor
