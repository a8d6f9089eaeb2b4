/- FrameTagsW -/
import Derived.Test.YtfainlfiphdaeaaGreatDoorQ50
namespace Go.Proofs.YtfainlfiphdaeaaGreatDoor
open Go.RowKit
set_option maxRecDepth 20000
set_option linter.unusedSimpArgs false
set_option maxHeartbeats 16000000 in
theorem frameTags_walk (q0 : Aq) (xw : Option Addr) (lw0 cw : Nat) (ws0 : List Wp) (t : List Int) (w : World) (hq0 : AqIn w q0 xw lw0 cw ws0) (ht : t.length = 32) (hti : ∀ x ∈ t, 0 ≤ x ∧ x ≤ 255) (hKT : S.KTab w) (hBT : BTab w) :
    Calls Tryz.prog 7 #[.agg q0.cells.toArray, .agg (row .u8 t)] w fun e w' => e = .returned (.bool true) ∧ Below w.heap.size w w' := by
  have hA := (CellsAt.new w 35 q0.cells).alloc (.cells (row .u8 t) 23)
  have hB := CellsAt.new (w.alloc (.cells q0.cells.toArray 35)) 23 (t.map (Value.int .u8))
  rw [World.size_alloc] at hB
  have hb0 : Below w.heap.size w ((w.alloc (.cells q0.cells.toArray 35)).alloc (.cells (row .u8 t) 23)) := ((Below.refl _ _).alloc (Nat.le_refl _) _).alloc (by simp) _
  have HFW : Veil (∀ W, Below w.heap.size w W → Calls Tryz.prog 15 #[.agg q0.cells.toArray] W fun e w' => ∃ (q : Aq) (lw : Nat) (ws : List Wp), e = .returned (.agg q.cells.toArray) ∧ AqIn w q xw lw cw ws ∧ q.cells.length = 86 ∧ (∀ v ∈ q.cells, v.oneCell' = true) ∧ Below W.heap.size W w') := ⟨fun W hb => by
    refine (few7_any q0 xw lw0 cw ws0 W (hq0.below hb)).mono ?_
    rintro e w' ⟨q, lw, ws, he, hq, -, hb'⟩
    have hq := hq w hq0
    exact ⟨q, lw, ws, he, hq, (aq_parts q hq.seed hq.prev hq.E.plen).1, aq_one q hq.wraps, hb'⟩⟩
  have h86 := (aq_parts q0 hq0.seed hq0.prev hq0.E.plen).1
  have iA0 : (Tryz.prog.info? 35).map (·.size) = some q0.cells.length := by rw [h86]; exact sizeAq
  have HKT : Veil (∀ W, Below w.heap.size w W → S.KTab W ∧ BTab W) := ⟨fun W hb => ⟨hKT.below hb, hBT.below hb⟩⟩
  have HLV : Veil (∀ W, Below w.heap.size w W → Calls Tryz.prog 19 #[] W fun e w' => e = .returned (.bool true) ∧ Below W.heap.size W w') := ⟨fun W hb => flive_any W (hKT.below hb) (hBT.below hb)⟩
  have uA := Tryz.underlying35
  have uF := Tryz.underlying43
  have uE := Tryz.underlying33
  have uK := Tryz.underlying23
  have uD := Tryz.underlying26
  have iT : (Tryz.prog.info? 23).map (·.size) = some (t.map (Value.int .u8)).length := by rw [List.length_map, ht]; exact sizeKeyD
  have hTl : (t.map (Value.int .u8)).length = 32 := by rw [List.length_map, ht]
  have h1T : ∀ v ∈ t.map (Value.int .u8), v.oneCell' = true := fun v hv => by obtain ⟨x, _, rfl⟩ := List.mem_map.1 hv; rfl
  have HT := Veil.mk (And.intro ht hti)
  obtain ⟨TV, hTV⟩ : ∃ q, t.map (Value.int .u8) = q := ⟨_, rfl⟩
  have HTV := Veil.mk hTV
  have hTr : row .u8 t = TV.toArray := by rw [← hTV]; rfl
  rw [hTV] at hB iT h1T hTl
  rw [hTr] at hA hb0 ⊢
  clear hq0 ht hti hKT hBT hTV hTr
  generalize q0.cells = QC at hA hB hb0 HFW h86 iA0 ⊢
  go_enter Tryz.func7, Tryz.ntmps7
  go_upto_region 1 with fail
  refine forget (p := fun y => Code.wp _ _ _ _ y) (fun W => Below w.heap.size w W ∧ CellsAt W w.heap.size 35 QC ∧ CellsAt W (w.heap.size + 1) 23 TV) ⟨hb0, hA, hB⟩ ?_
  clear hb0 hA hB
  rintro W ⟨hb, hA, hB⟩
  have rA := hA.wholeM
  have hfw := HFW.out W hb
  go_upto_region 2 with (first
    | (refine wpList_ldv rfl 35 _ rfl _ _ rfl QC rA uA rfl iA0 ?_)
    | (go_at_call 15; refine hfw.mono ?_; rintro e w1 ⟨q, lw, ws, rfl, hq, q86, q1, hb1⟩; have hA1 := hA.farM hb1; have iA : (Tryz.prog.info? 35).map (·.size) = some q.cells.length := (by rw [q86]; exact sizeAq); clear hfw)
    | (refine wpList_stv rfl 35 _ _ rfl _ rfl rfl hA1 iA (by rw [h86, q86]) q1 ?_))
  have hB1 := hb.trans (hb1.mono hb.size)
  refine forget (p := fun y => Code.wp _ _ _ _ y) (fun V => Below w.heap.size w V ∧ CellsAt V w.heap.size 35 q.cells ∧ CellsAt V (w.heap.size + 1) 23 TV) ⟨below_setRow hB1 (Nat.le_refl _) _, hA1.setRow _, (hB.farM hb1).congr (setRow_other _ _ _ _ (by omega))⟩ ?_
  clear hB1 hA1 hb1 iA q1 q86 rA hA hB hb iA0 h86 HFW
  clear w1 W
  -- what the asking says
  obtain ⟨_, q0', q1, q33, q34, q66, q68, q69⟩ := aq_parts q hq.seed hq.prev hq.E.plen
  rw [hq.wraps] at q68
  obtain ⟨m, hm, hm5⟩ : ∃ m : Nat, q.own = (m : Int) ∧ m ≤ 255 := ⟨q.own.toNat, by have := hq.own.1; omega, by have := hq.own.1; have := hq.own.2; omega⟩
  rw [hm] at q0'
  have HQ : Veil (∀ W, CellsAt W w.heap.size 35 q.cells → W.cell? ⟨w.heap.size, 0, none⟩ = some (.int .u8 (m : Int)) ∧ W.rangeAt w.heap.size 1 (q.seed.map (Value.int .u8)) ∧ W.cell? ⟨w.heap.size, 33, none⟩ = some (.int .u32 q.num) ∧ W.rangeAt w.heap.size 34 (q.prev.map (Value.int .u8)) ∧ W.rangeAt w.heap.size 66 (dotC q.ea q.es) ∧ W.cell? ⟨w.heap.size, 68, none⟩ = some (.slice xw lw cw) ∧ W.rangeAt w.heap.size 69 q.E.cells) := ⟨fun W h => by
    refine ⟨(h.cell 0).trans q0', ?_, (h.cell 33).trans q33, ?_, ?_, (h.cell 68).trans q68, ?_⟩
    · have := h.range 1 32; rw [q1] at this; exact this
    · have := h.range 34 32; rw [q34] at this; exact this
    · have := h.range 66 2; rw [q66] at this; exact this
    · have := h.range 69 17; rw [q69] at this; exact this⟩
  have HRG : Veil (∀ W, Below w.heap.size w W → Calls Tryz.prog 16 #[.int .u8 (m : Int), .agg (q.seed.map (Value.int .u8)).toArray, .agg (dotC q.ea q.es).toArray] W fun e w' => ∃ H O b v L vo, e = .returned (.tuple #[.pointer (some ⟨H, 0, none⟩), .pointer (some ⟨O, 0, none⟩)]) ∧ Rings W w' H O ((m % 8 : Nat) : Int) q.seed q.ea q.es b v L vo) := ⟨fun W hb => rings_any m hm5 q.seed hq.seed q.ea q.es ⟨hq.ea, hq.es⟩ W (HKT.out W hb).1⟩
  have HSL : Veil (∀ W base H b v L, Below w.heap.size w W → RingAt W base H ((m % 8 : Nat) : Int) q.seed b (ringM ((m % 8 : Nat) : Int) q.seed q.ea q.es) v L → Calls Tryz.prog 17 #[.pointer (some ⟨H, 0, none⟩), .int .u32 q.num, .agg (q.prev.map (Value.int .u8)).toArray, .agg (dotC q.ea q.es).toArray, .slice xw lw cw, .agg q.E.cells.toArray] W fun e w' => ∃ (F : Fr) (n : Int), e = .returned (.tuple #[.agg F.cells.toArray, .int .i64 n]) ∧ F.prev.length = 32 ∧ F.mac.length = 32 ∧ (∀ v ∈ F.cells, v.oneCell' = true) ∧ (n = 0 → F.mac ≠ t → ∀ V, Below w'.heap.size w' V → RingAt V base H ((m % 8 : Nat) : Int) q.seed b (ringM ((m % 8 : Nat) : Int) q.seed q.ea q.es) v L → S.KTab V → BTab V → (Calls Tryz.prog 21 #[.pointer (some ⟨H, 0, none⟩), .agg ({ F with mac := t } : Fr).cells.toArray] V fun e w'' => e = .returned (.tuple #[.agg evZ.cells.toArray, .int .i64 4]) ∧ Below V.heap.size V w'') ∧ (Calls Tryz.prog 23 #[.pointer (some ⟨H, 0, none⟩), .agg ({ F with mac := t } : Fr).cells.toArray] V fun e w'' => e = .returned (.int .i64 4) ∧ Below V.heap.size V w'')) ∧ Below W.heap.size W w') := ⟨fun W base H b v L hb hR => sealT_any base H _ _ b _ v L W q xw lw cw ws t HT.out.1 HT.out.2 (hq.below hb) hR (HKT.out W hb).1 (HKT.out W hb).2 (by omega)⟩
  have iS : (Tryz.prog.info? 23).map (·.size) = some (q.seed.map (Value.int .u8)).length := by rw [List.length_map, hq.seed]; exact sizeKeyD
  have iP : (Tryz.prog.info? 23).map (·.size) = some (q.prev.map (Value.int .u8)).length := by rw [List.length_map, hq.prev]; exact sizeKeyD
  have iD : (Tryz.prog.info? 26).map (·.size) = some (dotC q.ea q.es).length := sizeDot
  have iE := sizeEvZ q.E hq.E.plen
  obtain ⟨M, hM⟩ : ∃ M, ringM ((m % 8 : Nat) : Int) q.seed q.ea q.es = M := ⟨_, rfl⟩
  have HRG2 : Veil (∀ W w' H O b v L vo, Rings W w' H O ((m % 8 : Nat) : Int) q.seed q.ea q.es b v L vo → RingAt w' W.heap.size H ((m % 8 : Nat) : Int) q.seed b M v L ∧ Below W.heap.size W w') := ⟨fun W w' H O b v L vo h => ⟨by rw [← hM]; exact h.ring, h.below⟩⟩
  rw [hM] at HSL
  have h1Z := ev_one evZ
  have iZ : (Tryz.prog.info? 33).map (·.size) = some evZ.cells.length := sizeEvZ evZ rfl
  have HBE := Veil.mk evZ_built7
  have heqE : ∀ wx, (binOp BinOp.eql 33 (.agg evZ.cells.toArray) (.agg evZ.cells.toArray)).run Tryz.prog wx = .ok (.bool true) wx := fun wx => event_same5 evZ rfl wx
  have HEQ := Veil.mk heqE
  clear heqE hM hq hm q0' q1 q33 q34 q66 q68 q69
  generalize q.num = QN at HQ HSL
  generalize q.prev.map (Value.int .u8) = PV at HQ HSL iP
  generalize hSD : q.seed = SD at HQ HSL HRG HRG2 iS
  generalize SD.map (Value.int .u8) = SV at HQ HRG iS
  generalize hea : q.ea = EA at HQ HSL HRG HRG2 iD
  generalize hes : q.es = ES at HQ HSL HRG HRG2 iD
  generalize q.E.cells = EV at HQ HSL iE
  generalize q.cells = QC2 at HQ ⊢
  clear hSD hea hes
  rintro W ⟨hb, hA, hB⟩
  obtain ⟨c0, r1, -, -, r66, -, -⟩ := HQ.out W hA
  have hrg := HRG.out W hb
  go_upto_region 3 with (first
    | (refine wpList_ldv rfl 23 _ rfl _ _ rfl SV r1 uK rfl iS ?_)
    | (refine wpList_ldv rfl 26 _ rfl _ _ rfl (dotC EA ES) r66 uD rfl iD ?_)
    | (go_at_call 16; refine hrg.mono ?_; rintro e w1 ⟨H, O, b, v, L, vo, rfl, hR1⟩; clear hrg))
  obtain ⟨hRr, hb1⟩ := HRG2.out _ _ _ _ _ _ _ _ hR1
  refine forget (p := fun y => Code.wp _ _ _ _ y) (fun V => Below w.heap.size w V ∧ CellsAt V w.heap.size 35 QC2 ∧ CellsAt V (w.heap.size + 1) 23 TV ∧ RingAt V W.heap.size H ((m % 8 : Nat) : Int) SD b M v L) ⟨hb.trans (hb1.mono hb.size), hA.farM hb1, hB.farM hb1, hRr⟩ ?_
  clear hRr hb1 hR1 HRG HRG2 c0 r1 r66 hA hB hb iS
  obtain ⟨BS, hBS⟩ : ∃ q, W.heap.size = q := ⟨_, rfl⟩
  rw [hBS]
  clear hBS
  clear w1 W
  rintro W ⟨hb, hA, hB, hR⟩
  obtain ⟨-, -, c33, r34, r66, c68, r69⟩ := HQ.out W hA
  have hsl := HSL.out W BS H b v L hb hR
  obtain ⟨Z, hzv, hz1, hZ⟩ : ∃ Z : List Value, (∀ wx, (zeroValue 43).run Tryz.prog wx = .ok (.agg Z.toArray) wx) ∧ ¬ Z.toArray = #[] ∧ Z.length = 70 := ⟨frZ1.cells, fun wx => by kernel_rfl, by decide, rfl⟩
  have HR := Veil.mk hR
  clear hR HSL HQ
  generalize dotC EA ES = DV at r66 hsl iD
  go_upto_region 4 with (first
    | (refine wpList_ldv rfl 23 _ rfl _ _ rfl PV r34 uK rfl iP ?_)
    | (refine wpList_ldv rfl 26 _ rfl _ _ rfl DV r66 uD rfl iD ?_)
    | (refine wpList_ldv rfl 33 _ rfl _ _ rfl EV r69 uE rfl iE ?_)
    | (go_at_call 17; refine hsl.mono ?_; rintro e w1 ⟨F, n, rfl, hFp, hFm, h1F, hop, hb1⟩; have hG1 := CellsAt.new w1 43 Z; have hF70 := (fr_parts F hFp hFm).1; have iF : (Tryz.prog.info? 43).map (·.size) = some F.cells.length := (by rw [hF70]; exact sizeFrame); have HOP := Veil.mk hop; clear hop hsl)
    | (refine wpList_stv rfl 43 _ _ rfl _ rfl rfl hG1 iF (by rw [hZ, hF70]) h1F ?_))
  have hb2 : Below w1.heap.size w1 ((w1.alloc (.cells Z.toArray 43)).setRow w1.heap.size F.cells.toArray) := below_setRow ((Below.refl _ _).alloc (Nat.le_refl _) _) (Nat.le_refl _) _
  have hb12 := hb1.trans (hb2.mono hb1.size)
  have hs1 := hb1.size
  have HRV : Veil (∀ V, Below W.heap.size W V → RingAt V BS H ((m % 8 : Nat) : Int) SD b M v L) := ⟨fun V h => HR.out.far h⟩
  refine forget (p := fun y => Code.wp _ _ _ _ y) (fun V => Below w1.heap.size w1 V ∧ Below w.heap.size w V ∧ CellsAt V (w.heap.size + 1) 23 TV ∧ CellsAt V w1.heap.size 43 F.cells) ⟨hb2, hb.trans (hb12.mono hb.size), hB.farM hb12, hG1.setRow _⟩ ?_
  have hwG : w.heap.size + 2 ≤ w1.heap.size := by have := hB.lt; omega
  have HB1 := Veil.mk hb1
  clear hb12 hb2 hG1 hb hA hB c33 r34 r66 c68 r69 hzv hz1 HR hb1 hs1
  obtain ⟨G, hG⟩ : ∃ q, w1.heap.size = q := ⟨_, rfl⟩
  rw [hG] at hwG ⊢
  have HG := Veil.mk hG
  clear hG
  rintro V ⟨hbG, hb, hB, hG⟩
  have hlv := HLV.out V hb
  by_cases hn : n = 0
  rotate_left
  · have hn0 : (n == 0) = false := by simpa using hn
    go_wp2_with (first
      | (go_at_call 19; refine hlv.mono ?_; rintro e w2 ⟨rfl, hb3⟩; clear hlv))
    go_ret
    exact ⟨rfl, hb.trans (hb3.mono hb.size)⟩
  subst hn
  have rM : V.rangeAt G 38 (F.mac.map (Value.int .u8)) := by
    have := hG.range 38 32
    rw [(fr_parts F hFp hFm).2.2.2.2.2.2.2] at this
    exact this
  have rT := hB.wholeM
  have HKQ : Veil (∀ wx, (binOp BinOp.eql 23 (.agg (F.mac.map (Value.int .u8)).toArray) (.agg TV.toArray)).run Tryz.prog wx = .ok (.bool (F.mac == t)) wx) := ⟨fun wx => by rw [← HTV.out]; exact key_eql _ _ hFm HT.out.1 wx⟩
  have iM : (Tryz.prog.info? 23).map (·.size) = some (F.mac.map (Value.int .u8)).length := by rw [List.length_map, hFm]; exact sizeKeyD
  by_cases hmt : F.mac = t
  · have heqK : ∀ wx, (binOp BinOp.eql 23 (.agg (F.mac.map (Value.int .u8)).toArray) (.agg TV.toArray)).run Tryz.prog wx = .ok (.bool true) wx := fun wx => by rw [HKQ.out wx, hmt]; simp
    clear hmt
    generalize F.mac.map (Value.int .u8) = MV at rM heqK iM
    go_wp2_with (first
      | (refine wpList_ldgv (by kernel_rfl) 23 (.tmp 41) rfl G 38 rfl MV rM uK rfl iM ?_; clear rM)
      | (refine wpList_ldgv (by kernel_rfl) 23 (.tmp 3) rfl (w.heap.size + 1) 0 rfl TV rT uK rfl iT ?_; clear rT)
      | (go_at_call 19; refine hlv.mono ?_; rintro e w2 ⟨rfl, hb3⟩; clear hlv))
    go_ret
    exact ⟨rfl, hb.trans (hb3.mono hb.size)⟩
  have heqK : ∀ wx, (binOp BinOp.eql 23 (.agg (F.mac.map (Value.int .u8)).toArray) (.agg TV.toArray)).run Tryz.prog wx = .ok (.bool false) wx := fun wx => by rw [HKQ.out wx]; simp [hmt]
  have HNX : Veil (∀ V, Below w1.heap.size w1 V → Below w.heap.size w V → (Calls Tryz.prog 21 #[.pointer (some ⟨H, 0, none⟩), .agg ({ F with mac := t } : Fr).cells.toArray] V fun e w'' => e = .returned (.tuple #[.agg evZ.cells.toArray, .int .i64 4]) ∧ Below V.heap.size V w'') ∧ (Calls Tryz.prog 23 #[.pointer (some ⟨H, 0, none⟩), .agg ({ F with mac := t } : Fr).cells.toArray] V fun e w'' => e = .returned (.int .i64 4) ∧ Below V.heap.size V w'')) := ⟨fun V h1 h2 => HOP.out rfl hmt V h1 (HRV.out V (HB1.out.trans (h1.mono HB1.out.size))) (HKT.out V h2).1 (HKT.out V h2).2⟩
  have HFSc : Veil (F.cells.take 38 ++ TV ++ F.cells.drop 70 = ({ F with mac := t } : Fr).cells) := ⟨by rw [← HTV.out]; exact fr_setT6 F t hFp hFm⟩
  have h7S := (fr_parts ({ F with mac := t } : Fr) hFp HT.out.1).1
  obtain ⟨FS, hFS⟩ : ∃ q, ({ F with mac := t } : Fr).cells = q := ⟨_, rfl⟩
  rw [hFS] at HNX HFSc h7S
  have iFS : (Tryz.prog.info? 43).map (·.size) = some FS.length := by rw [h7S]; exact sizeFrame
  clear hFS hmt HOP HRV HB1 HKQ
  generalize F.mac.map (Value.int .u8) = MV at rM heqK iM
  go_upto_region 6 with (first
    | (refine wpList_ldgv (by kernel_rfl) 23 (.tmp 41) rfl G 38 rfl MV rM uK rfl iM ?_; clear rM)
    | (refine wpList_ldgv (by kernel_rfl) 23 (.tmp 3) rfl (w.heap.size + 1) 0 rfl TV rT uK rfl iT ?_; clear rT))
  have rT := hB.wholeM
  clear heqK iM
  go_upto_region 7 with (first
    | (refine wpList_ldv rfl 23 _ rfl _ _ rfl TV rT uK rfl iT ?_)
    | (refine wpList_stm rfl 23 _ _ rfl G 38 rfl (cs := TV) rfl hG iT (by rw [hTl, hF70]; omega) h1T ?_))
  rw [show 38 + TV.length = 70 by rw [hTl], HFSc.out]
  refine forget (p := fun y => Code.wp _ _ _ _ y) (fun V' => Below G w1 V' ∧ Below w.heap.size w V' ∧ CellsAt V' G 43 FS) ⟨below_setRow hbG (Nat.le_refl _) _, below_setRow hb (by omega) _, hG.setRow _⟩ ?_
  clear hbG hb hB hG rT hlv
  clear V
  rintro V ⟨hbG, hb, hG⟩
  have hop := (HNX.out V (by rw [HG.out]; exact hbG) hb).1
  have rG := hG.wholeM
  go_upto_region 8 with (first
    | (refine wpList_ldv rfl 43 _ rfl _ _ rfl FS rG uF rfl iFS ?_)
    | (go_at_call 21; refine hop.mono ?_; rintro e w4 ⟨rfl, hb4⟩; have hE1 := CellsAt.new w4 33 evZ.cells; clear hop)
    | (refine wpList_stv rfl 33 _ _ rfl _ rfl rfl hE1 iZ rfl h1Z ?_))
  have hb5 : Below w4.heap.size w4 ((w4.alloc (.cells evZ.cells.toArray 33)).setRow w4.heap.size evZ.cells.toArray) := below_setRow ((Below.refl _ _).alloc (Nat.le_refl _) _) (Nat.le_refl _) _
  have hb45 := hb4.trans (hb5.mono hb4.size)
  have hsG := hbG.size
  refine forget (p := fun y => Code.wp _ _ _ _ y) (fun V' => Below G w1 V' ∧ Below w.heap.size w V' ∧ CellsAt V' G 43 FS ∧ CellsAt V' w4.heap.size 33 evZ.cells) ⟨hbG.trans (hb45.mono (by rw [← HG.out]; rw [← HG.out] at hbG; exact hbG.size)), hb.trans (hb45.mono hb.size), hG.farM hb45, hE1.setRow _⟩ ?_
  clear hb45 hb5 hb4 hE1 hbG hb hG rG hsG
  obtain ⟨X, hX⟩ : ∃ q, w4.heap.size = q := ⟨_, rfl⟩
  rw [hX]
  clear hX
  clear w4 V
  rintro V ⟨hbG, hb, hG, hX⟩
  have hlv := HLV.out V hb
  have HFAR : Veil (∀ V', Below V.heap.size V V' → Below w1.heap.size w1 V' ∧ Below w.heap.size w V' ∧ V'.rangeAt G 0 FS ∧ V'.rangeAt X 0 evZ.cells) := ⟨fun V' h => ⟨by rw [← HG.out] at hbG; exact hbG.trans (h.mono hbG.size), hb.trans (h.mono hb.size), (hG.farM h).wholeM, (hX.farM h).wholeM⟩⟩
  have heqE := HEQ.out
  obtain ⟨EZ, hEZ⟩ : ∃ q, evZ.cells = q := ⟨_, rfl⟩
  rw [hEZ] at HFAR heqE iZ HBE
  clear hbG hb hG hX hEZ
  go_wp2_with (first
    | (go_at_call 19; refine hlv.mono ?_; rintro e w5 ⟨rfl, hb5⟩; obtain ⟨hc1, hc2, rG5, -⟩ := HFAR.out w5 hb5; have hck := (HNX.out w5 hc1 hc2).2; clear hlv hc1 hc2)
    | (refine wpList_ldgv (by kernel_rfl) 43 (.tmp 7) rfl G 0 rfl FS rG5 uF rfl iFS ?_)
    | (go_at_call 23; refine hck.mono ?_; rintro e w6 ⟨rfl, hb6⟩; have hb56 := hb5.trans (hb6.mono hb5.size); obtain ⟨-, hB6, -, rX6⟩ := HFAR.out w6 hb56; clear hck)
    | (refine wpList_ldgv (by kernel_rfl) 33 _ rfl X 0 rfl EZ rX6 uE rfl iZ ?_)
    | (refine wpList_bldgT (by kernel_rfl) 33 #[] rfl #[] (by first | rfl | kernel_rfl) _ (HBE.out _) ?_))
  go_ret
  exact ⟨rfl, hB6⟩
end Go.Proofs.YtfainlfiphdaeaaGreatDoor
