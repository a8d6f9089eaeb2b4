/- The statement FrameNone, walked. -/
import Derived.Test.YtfainlfiphdaeaaGreatDoorMFlvEqwSf0
import Derived.Test.YtfainlfiphdaeaaGreatDoorMGoZPaPb
import Derived.Test.YtfainlfiphdaeaaGreatDoorSf2
import Derived.Test.YtfainlfiphdaeaaGreatDoorEvs
namespace Go.Proofs.YtfainlfiphdaeaaGreatDoor
open Go.RowKit
set_option maxRecDepth 20000
set_option linter.unusedSimpArgs false

theorem frZ1_built (wx : World) : (Instr.build 43 #[]).run Tryz.prog wx = .ok (.agg frZ1.cells.toArray) wx := run_build wx _ _ _ (by kernel_rfl)
theorem evZ_built (wx : World) : (Instr.build 33 #[]).run Tryz.prog wx = .ok (.agg evZ.cells.toArray) wx := run_build wx _ _ _ (by kernel_rfl)
theorem same_zero (W : World) : Calls Tryz.prog 20 #[.agg frZ1.cells.toArray, .agg frZ1.cells.toArray] W fun e w' => e = .returned (.bool true) ∧ Below W.heap.size W w' := by
  have := refSame_any frZ1 none 0 0 [] none 0 0 [] frZ1 none 0 0 [] none 0 0 [] W rfl rfl rfl (wraps_nilL W) rfl (bytes_nil W) rfl rfl rfl (wraps_nilL W) rfl (bytes_nil W)
  have e : sameB frZ1 [] [] frZ1 [] [] = true := sameB_refl frZ1 [] []
  rw [e] at this
  exact this
set_option maxHeartbeats 16000000 in
theorem frameNone_walk (q : Aq) (xw : Option Addr) (lw cw : Nat) (ws : List Wp) (F : Fr) (yw : Option Addr) (mw dw : Nat) (vs : List Wp) (xb : Option Addr) (lb cb : Nat) (body : List Int) (w : World) (hq : AqIn w q xw lw cw ws) (hF : FrIn w F yw mw dw vs xb lb cb body) (hKT : S.KTab w) (hBT : BTab w) :
    Calls Tryz.prog 9 #[.agg q.cells.toArray, .agg F.cells.toArray] w fun e w' => e = .returned (.bool true) ∧ Below w.heap.size w w' := by
  obtain ⟨_, _, _, q33, q34, q66, q68, q69⟩ := aq_parts q hq.seed hq.prev hq.E.plen
  rw [hq.wraps] at q68
  have hA := (CellsAt.new w 35 q.cells).alloc (.cells F.cells.toArray 43)
  have hB := CellsAt.new (w.alloc (.cells q.cells.toArray 35)) 43 F.cells
  rw [World.size_alloc] at hB
  have hb0 : Below w.heap.size w ((w.alloc (.cells q.cells.toArray 35)).alloc (.cells F.cells.toArray 43)) := ((Below.refl _ _).alloc (Nat.le_refl _) _).alloc (by simp) _
  have HQ : Veil (∀ W, CellsAt W w.heap.size 35 q.cells → W.cell? ⟨w.heap.size, 33, none⟩ = some (.int .u32 q.num) ∧ W.rangeAt w.heap.size 34 (q.prev.map (Value.int .u8)) ∧ W.rangeAt w.heap.size 66 (dotC q.ea q.es) ∧ W.cell? ⟨w.heap.size, 68, none⟩ = some (.slice xw lw cw) ∧ W.rangeAt w.heap.size 69 q.E.cells) := ⟨fun W h => by
    refine ⟨(h.cell 33).trans q33, ?_, ?_, (h.cell 68).trans q68, ?_⟩
    · have := h.range 34 32; rw [q34] at this; exact this
    · have := h.range 66 2; rw [q66] at this; exact this
    · have := h.range 69 17; rw [q69] at this; exact this⟩
  have HSL : Veil (∀ W, Calls Tryz.prog 17 #[.pointer none, .int .u32 q.num, .agg (q.prev.map (Value.int .u8)).toArray, .agg (dotC q.ea q.es).toArray, .slice xw lw cw, .agg q.E.cells.toArray] W fun e w' => e = .returned (.tuple #[.agg frZ1.cells.toArray, .int .i64 1]) ∧ Below W.heap.size W w') := ⟨fun W => Seal_nil W q.num xw lw cw q.ea q.es q.prev q.E⟩
  have HOP := Veil.mk (fun W => Open_nilF W F hF.prev hF.mac)
  have HCK := Veil.mk (fun W => Check_nil W F)
  have HSM := Veil.mk same_zero
  have HLV : Veil (∀ W, Below w.heap.size w W → Calls Tryz.prog 19 #[] W fun e w' => e = .returned (.bool true) ∧ Below W.heap.size W w') := ⟨fun W hb => flive_any W (hKT.below hb) (hBT.below hb)⟩
  have iP : (Tryz.prog.info? 23).map (·.size) = some (q.prev.map (Value.int .u8)).length := by rw [List.length_map, hq.prev]; exact sizeKeyD
  have iD : (Tryz.prog.info? 26).map (·.size) = some (dotC q.ea q.es).length := sizeDot
  have iE := sizeEvZ q.E hq.E.plen
  have iF : (Tryz.prog.info? 43).map (·.size) = some F.cells.length := by rw [(fr_parts F hF.prev hF.mac).1]; exact sizeFrame
  have iZ : (Tryz.prog.info? 33).map (·.size) = some evZ.cells.length := sizeEvZ evZ rfl
  have h1Z := ev_one evZ
  obtain ⟨Z, hZ⟩ : ∃ q, frZ1.cells = q := ⟨_, rfl⟩
  have hzv : ∀ wx, (zeroValue 43).run Tryz.prog wx = .ok (.agg Z.toArray) wx := fun wx => by rw [← hZ]; kernel_rfl
  have hz1 : ¬ Z.toArray = #[] := by rw [← hZ]; decide
  have iFZ : (Tryz.prog.info? 43).map (·.size) = some Z.length := by rw [← hZ]; kernel_rfl
  have h1F : ∀ v ∈ Z, v.oneCell' = true := by rw [← hZ]; decide
  have HBF := Veil.mk frZ1_built
  have HBE := Veil.mk evZ_built
  have heqE : ∀ wx, (binOp BinOp.eql 33 (.agg evZ.cells.toArray) (.agg evZ.cells.toArray)).run Tryz.prog wx = .ok (.bool true) wx := fun wx => event_same5 evZ rfl wx
  have HEQ := Veil.mk heqE
  rw [hZ] at HSL HSM HBF
  clear heqE hZ hq hF hKT hBT q33 q34 q66 q68 q69
  have uF := Tryz.underlying43
  have uE := Tryz.underlying33
  have uK := Tryz.underlying23
  have uD := Tryz.underlying26
  generalize q.num = QN at HQ HSL
  generalize q.prev.map (Value.int .u8) = PV at HQ HSL iP
  generalize dotC q.ea q.es = DV at HQ HSL iD
  generalize q.E.cells = EV at HQ HSL iE
  generalize q.cells = QC at hA hB hb0 HQ ⊢
  generalize F.cells = FC at hA hB hb0 HOP HCK iF ⊢
  go_enter Tryz.func9, Tryz.ntmps9
  go_upto_region 1 with fail
  refine forget (p := fun y => Code.wp _ _ _ _ y) (fun W => Below w.heap.size w W ∧ CellsAt W w.heap.size 35 QC ∧ CellsAt W (w.heap.size + 1) 43 FC) ⟨hb0, hA, hB⟩ ?_
  clear hb0 hA hB
  rintro W ⟨hb, hA, hB⟩
  obtain ⟨c33, r34, r66, c68, r69⟩ := HQ.out W hA
  have hsl := HSL.out W
  go_upto_region 2 with (first
    | (refine wpList_ldv rfl 23 _ rfl _ _ rfl PV r34 uK rfl iP ?_)
    | (refine wpList_ldv rfl 26 _ rfl _ _ rfl DV r66 uD rfl iD ?_)
    | (refine wpList_ldv rfl 33 _ rfl _ _ rfl EV r69 uE rfl iE ?_)
    | (go_at_call 17; refine hsl.mono ?_; rintro e w1 ⟨rfl, hb1⟩; have hG1 := CellsAt.new w1 43 Z; clear hsl)
    | (refine wpList_stv rfl 43 _ _ rfl _ rfl rfl hG1 iFZ rfl h1F ?_))
  have hb2 : Below w1.heap.size w1 ((w1.alloc (.cells Z.toArray 43)).setRow w1.heap.size Z.toArray) := below_setRow ((Below.refl _ _).alloc (Nat.le_refl _) _) (Nat.le_refl _) _
  have hb12 := hb1.trans (hb2.mono hb1.size)
  refine forget (p := fun y => Code.wp _ _ _ _ y) (fun V => Below w.heap.size w V ∧ CellsAt V (w.heap.size + 1) 43 FC ∧ CellsAt V w1.heap.size 43 Z) ⟨hb.trans (hb12.mono hb.size), hB.farM hb12, hG1.setRow _⟩ ?_
  clear hb12 hb2 hb1 hG1 hb hA hB c33 r34 r66 c68 r69 hzv hz1
  obtain ⟨G, hG⟩ : ∃ q, w1.heap.size = q := ⟨_, rfl⟩
  rw [hG]
  clear hG
  clear w1 W
  rintro W ⟨hb, hB, hG⟩
  have rF := hB.wholeM
  have hop := HOP.out W
  go_upto_region 3 with (first
    | (refine wpList_ldv rfl 43 _ rfl _ _ rfl FC rF uF rfl iF ?_)
    | (go_at_call 21; refine hop.mono ?_; rintro e w1 ⟨rfl, hb1⟩; have hE1 := CellsAt.new w1 33 evZ.cells; clear hop)
    | (refine wpList_stv rfl 33 _ _ rfl _ rfl rfl hE1 iZ rfl h1Z ?_))
  have hb2 : Below w1.heap.size w1 ((w1.alloc (.cells evZ.cells.toArray 33)).setRow w1.heap.size evZ.cells.toArray) := below_setRow ((Below.refl _ _).alloc (Nat.le_refl _) _) (Nat.le_refl _) _
  have hb12 := hb1.trans (hb2.mono hb1.size)
  refine forget (p := fun y => Code.wp _ _ _ _ y) (fun V => Below w.heap.size w V ∧ CellsAt V (w.heap.size + 1) 43 FC ∧ CellsAt V G 43 Z ∧ CellsAt V w1.heap.size 33 evZ.cells) ⟨hb.trans (hb12.mono hb.size), hB.farM hb12, hG.farM hb12, hE1.setRow _⟩ ?_
  clear hb12 hb2 hb1 hE1 hb hB hG rF
  obtain ⟨X, hX⟩ : ∃ q, w1.heap.size = q := ⟨_, rfl⟩
  rw [hX]
  clear hX
  clear w1 W
  rintro W ⟨hb, hB, hG, hX⟩
  have hlv := HLV.out W hb
  have HFAR : Veil (∀ V, Below W.heap.size W V → Below w.heap.size w V ∧ V.rangeAt (w.heap.size + 1) 0 FC ∧ V.rangeAt G 0 Z ∧ V.rangeAt X 0 evZ.cells) := ⟨fun V h => ⟨hb.trans (h.mono hb.size), (hB.farM h).wholeM, (hG.farM h).wholeM, (hX.farM h).wholeM⟩⟩
  have heqE := HEQ.out
  have HEV : Veil (evZ.cells.length = 17) := ⟨rfl⟩
  obtain ⟨EZ, hEZ⟩ : ∃ q, evZ.cells = q := ⟨_, rfl⟩
  rw [hEZ] at HFAR heqE iZ HBE
  clear hb hB hG hX hEZ
  go_wp2_with (first
    | (go_at_call 19; refine hlv.mono ?_; rintro e w1 ⟨rfl, hb1⟩; obtain ⟨-, -, rG1, -⟩ := HFAR.out w1 hb1; have hsm := HSM.out w1; clear hlv)
    | (refine wpList_ldgv (by kernel_rfl) 43 (.tmp 5) rfl G 0 rfl Z rG1 uF rfl iFZ ?_)
    | (refine wpList_bldgT (by kernel_rfl) 43 #[] rfl #[] (by first | rfl | kernel_rfl) _ (HBF.out _) ?_)
    | (go_at_call 20; refine hsm.mono ?_; rintro e w2 ⟨rfl, hb2⟩; have hb12 := hb1.trans (hb2.mono hb1.size); obtain ⟨-, rF2, -, -⟩ := HFAR.out w2 hb12; have hck := HCK.out w2; clear hsm)
    | (refine wpList_ldgv (by kernel_rfl) 43 (.tmp 3) rfl (w.heap.size + 1) 0 rfl FC rF2 uF rfl iF ?_)
    | (go_at_call 23; refine hck.mono ?_; rintro e w3 ⟨rfl, hb3⟩; have hb13 := hb12.trans (hb3.mono hb12.size); obtain ⟨hB3, -, -, rX3⟩ := HFAR.out w3 hb13; clear hck)
    | (refine wpList_ldgv (by kernel_rfl) 33 _ rfl X 0 rfl EZ rX3 uE rfl iZ ?_)
    | (refine wpList_bldgT (by kernel_rfl) 33 #[] rfl #[] (by first | rfl | kernel_rfl) _ (HBE.out _) ?_))
  go_ret
  exact ⟨rfl, hB3⟩
end Go.Proofs.YtfainlfiphdaeaaGreatDoor
