/- FrameToldW -/
import Derived.Test.YtfainlfiphdaeaaGreatDoorT50
namespace Go.Proofs.YtfainlfiphdaeaaGreatDoor
open Go.RowKit
set_option maxRecDepth 20000
set_option linter.unusedSimpArgs false
set_option maxHeartbeats 16000000 in
theorem frameTold_walk (m : Nat) (hm : m ≤ 255) (seed : List Int) (hs : seed.length = 32) (F : Fr) (xw : Option Addr) (lw cw : Nat) (ws : List Wp) (xb : Option Addr) (lb cb : Nat) (body : List Int) (w : World) (hF : FrIn w F xw lw cw ws xb lb cb body) (hKT : S.KTab w) (hBT : BTab w) :
    Calls Tryz.prog 8 #[.int .u8 (m : Int), .agg (row .u8 seed), .agg F.cells.toArray] w fun e w' => e = .returned (.bool true) ∧ Below w.heap.size w w' := by
  have hA := (CellsAt.new w 23 (seed.map (Value.int .u8))).alloc (.cells F.cells.toArray 43)
  have hB := CellsAt.new (w.alloc (.cells (row .u8 seed) 23)) 43 F.cells
  rw [World.size_alloc] at hB
  have hb0 : Below w.heap.size w ((w.alloc (.cells (row .u8 seed) 23)).alloc (.cells F.cells.toArray 43)) := ((Below.refl _ _).alloc (Nat.le_refl _) _).alloc (by simp) _
  have HLV : Veil (∀ W, Below w.heap.size w W → Calls Tryz.prog 19 #[] W fun e w' => e = .returned (.bool true) ∧ Below W.heap.size W w') := ⟨fun W hb => flive_any W (hKT.below hb) (hBT.below hb)⟩
  obtain ⟨f70, f0, f1, f2, f4, f36, f37, f38⟩ := fr_parts F hF.prev hF.mac
  rw [hF.wraps] at f36
  rw [hF.body_] at f37
  have HFC : Veil (∀ W, CellsAt W (w.heap.size + 1) 43 F.cells → W.cell? ⟨w.heap.size + 1, 36, none⟩ = some (.slice xw lw cw) ∧ W.cell? ⟨w.heap.size + 1, 37, none⟩ = some (.slice xb lb cb) ∧ W.rangeAt (w.heap.size + 1) 2 (dotC F.ea F.es) ∧ W.rangeAt (w.heap.size + 1) 0 F.cells ∧ W.cell? ⟨w.heap.size + 1, 0, none⟩ = some (.int .u8 F.author) ∧ W.cell? ⟨w.heap.size + 1, 1, none⟩ = some (.int .u32 F.number)) := ⟨fun W h => ⟨(h.cell 36).trans f36, (h.cell 37).trans f37, by have := h.range 2 2; rw [f2] at this; exact this, h.wholeM, (h.cell 0).trans f0, (h.cell 1).trans f1⟩⟩
  have HRG : Veil (∀ W, Below w.heap.size w W → Calls Tryz.prog 16 #[.int .u8 (m : Int), .agg (seed.map (Value.int .u8)).toArray, .agg (dotC F.ea F.es).toArray] W fun e w' => ∃ H O b v L vo, e = .returned (.tuple #[.pointer (some ⟨H, 0, none⟩), .pointer (some ⟨O, 0, none⟩)]) ∧ RingAt w' W.heap.size H ((m % 8 : Nat) : Int) seed b (ringM ((m % 8 : Nat) : Int) seed F.ea F.es) v L ∧ Below W.heap.size W w') := ⟨fun W hb => (rings_any m hm seed hs F.ea F.es ⟨hF.inF.ea, hF.inF.es⟩ W (hKT.below hb)).mono fun e w' ⟨H, O, b, v, L, vo, he, hR⟩ => ⟨H, O, b, v, L, vo, he, hR.ring, hR.below⟩⟩
  have HOP : Veil (∀ W base H b v L, Below w.heap.size w W → RingAt W base H ((m % 8 : Nat) : Int) seed b (ringM ((m % 8 : Nat) : Int) seed F.ea F.es) v L → Calls Tryz.prog 21 #[.pointer (some ⟨H, 0, none⟩), .agg F.cells.toArray] W fun e w' => ∃ (E : Ev) (n : Int), e = .returned (.tuple #[.agg E.cells.toArray, .int .i64 n]) ∧ E.In ∧ (n ≠ 0 → E = evZ) ∧ (n = 0 → rightB E = true ∧ E.da = F.author ∧ E.ds = F.number) ∧ Below W.heap.size W w') := ⟨fun W base H b v L hb hR => openT_any base H _ seed b _ v L W F xw lw cw ws xb lb cb body hR (hKT.below hb) (hBT.below hb) ⟨hF.prev, hF.mac, hF.wraps, hF.body_, hF.hw.below hb, hF.hb.below hb, hF.inF, hF.inW, hF.inB⟩⟩
  have iF : (Tryz.prog.info? 43).map (·.size) = some F.cells.length := by rw [f70]; exact sizeFrame
  have iS : (Tryz.prog.info? 23).map (·.size) = some (seed.map (Value.int .u8)).length := by rw [List.length_map, hs]; exact sizeKeyD
  have iD : (Tryz.prog.info? 26).map (·.size) = some (dotC F.ea F.es).length := sizeDot
  have uF := Tryz.underlying43
  have uK := Tryz.underlying23
  have uD := Tryz.underlying26
  have uE := Tryz.underlying33
  have hrow : (row .u8 seed) = (seed.map (Value.int .u8)).toArray := rfl
  rw [hrow] at hB hb0 ⊢
  clear hrow hF hs hKT hBT f0 f1 f2 f4 f36 f37 f38 f70
  obtain ⟨M, hM⟩ : ∃ M, ringM ((m % 8 : Nat) : Int) seed F.ea F.es = M := ⟨_, rfl⟩
  rw [hM] at HRG HOP
  clear hM
  generalize dotC F.ea F.es = DV at HFC HRG iD
  generalize F.author = FA at HFC HOP
  generalize F.number = FN at HFC HOP
  generalize F.cells = FC at hA hB hb0 HFC HOP iF ⊢
  generalize hSV : seed.map (Value.int .u8) = SV at hA hB hb0 HRG iS ⊢
  clear hSV
  have hmm : (m : Int) ≤ 255 := by omega
  clear hm
  go_enter Tryz.func8, Tryz.ntmps8
  go_upto_region 1 with fail
  refine forget (p := fun y => Code.wp _ _ _ _ y) (fun W => Below w.heap.size w W ∧ CellsAt W w.heap.size 23 SV ∧ CellsAt W (w.heap.size + 1) 43 FC) ⟨hb0, hA, hB⟩ ?_
  clear hb0 hA hB
  rintro W ⟨hb, hA, hB⟩
  obtain ⟨c36, c37, r2, rF, -, -⟩ := HFC.out W hB
  have hlv := HLV.out W hb
  by_cases g1 : (lw : Int) > 70
  · go_wp2_with (first
      | (go_at_call 19; refine hlv.mono ?_; rintro e w2 ⟨rfl, hb3⟩; clear hlv))
    go_ret
    exact ⟨rfl, hb.trans (hb3.mono hb.size)⟩
  by_cases g2 : (lb : Int) > 4200
  · go_wp2_with (first
      | (go_at_call 19; refine hlv.mono ?_; rintro e w2 ⟨rfl, hb3⟩; clear hlv))
    go_ret
    exact ⟨rfl, hb.trans (hb3.mono hb.size)⟩
  clear hlv
  have rA := hA.wholeM
  have hrg := HRG.out W hb
  go_upto_region 4 with (first
    | (refine wpList_ldv rfl 23 _ rfl _ _ rfl SV rA uK rfl iS ?_)
    | (refine wpList_ldv rfl 26 _ rfl _ _ rfl DV r2 uD rfl iD ?_)
    | (go_at_call 16; refine hrg.mono ?_; rintro e w1 ⟨H, O, b, v, L, vo, rfl, hR1, hb1⟩; clear hrg))
  refine forget (p := fun y => Code.wp _ _ _ _ y) (fun V => Below w.heap.size w V ∧ CellsAt V (w.heap.size + 1) 43 FC ∧ RingAt V W.heap.size H ((m % 8 : Nat) : Int) seed b M v L) ⟨hb.trans (hb1.mono hb.size), hB.farM hb1, hR1⟩ ?_
  clear hb1 hR1 HRG c36 c37 r2 rF hA hB hb rA g1 g2
  obtain ⟨BS, hBS⟩ : ∃ q, W.heap.size = q := ⟨_, rfl⟩
  rw [hBS]
  clear hBS
  clear w1 W
  rintro W ⟨hb, hB, hR⟩
  obtain ⟨-, -, -, rF, -, -⟩ := HFC.out W hB
  have hop := HOP.out W BS H b v L hb hR
  clear HOP hR
  obtain ⟨EZ, hEZ⟩ : ∃ q, evZ.cells = q := ⟨_, rfl⟩
  have hz17 : EZ.length = 17 := by rw [← hEZ]; rfl
  have hzE : ∀ wx, (zeroValue 33).run Tryz.prog wx = .ok (.agg EZ.toArray) wx := fun wx => by rw [← hEZ]; kernel_rfl
  have hz1 : ¬ EZ.toArray = #[] := by rw [← hEZ]; decide
  have HEZ := Veil.mk hEZ
  clear hEZ
  go_upto_region 5 with (first
    | (refine wpList_ldv rfl 43 _ rfl _ _ rfl FC rF uF rfl iF ?_)
    | (go_at_call 21; refine hop.mono ?_; rintro e w4 ⟨E, n, rfl, hEI, hnz, hz, hb4⟩; have hE1 := CellsAt.new w4 33 EZ; have iE := sizeEvZ E hEI.plen; have hE17 := (ev_cell15 E hEI.plen).2.2.2.2; have HEI := Veil.mk hEI; have HNZ := Veil.mk hnz; have HZ := Veil.mk hz; clear hop hEI hnz hz)
    | (refine wpList_stv rfl 33 _ _ rfl _ rfl rfl hE1 iE (by rw [hz17, hE17]) (ev_one E) ?_))
  have hb5 : Below w4.heap.size w4 ((w4.alloc (.cells EZ.toArray 33)).setRow w4.heap.size E.cells.toArray) := below_setRow ((Below.refl _ _).alloc (Nat.le_refl _) _) (Nat.le_refl _) _
  have hb45 := hb4.trans (hb5.mono hb4.size)
  refine forget (p := fun y => Code.wp _ _ _ _ y) (fun V' => Below w.heap.size w V' ∧ CellsAt V' (w.heap.size + 1) 43 FC ∧ CellsAt V' w4.heap.size 33 E.cells) ⟨hb.trans (hb45.mono hb.size), hB.farM hb45, hE1.setRow _⟩ ?_
  clear hb45 hb5 hb4 hE1 hb hB rF hzE hz1
  obtain ⟨X, hX⟩ : ∃ q, w4.heap.size = q := ⟨_, rfl⟩
  rw [hX]
  clear hX
  clear w4 W
  rintro V ⟨hb, hB, hX⟩
  have hlv := HLV.out V hb
  have HFAR : Veil (∀ V', Below V.heap.size V V' → Below w.heap.size w V' ∧ CellsAt V' (w.heap.size + 1) 43 FC ∧ CellsAt V' X 33 E.cells) := ⟨fun V' h => ⟨hb.trans (h.mono hb.size), hB.farM h, hX.farM h⟩⟩
  clear hb hB hX
  by_cases hn : n = 0
  rotate_left
  · have hEe := HNZ.out hn
    subst hEe
    have hn0 : (n == 0) = false := by simpa using hn
    have heqE : ∀ wx, (binOp BinOp.eql 33 (.agg evZ.cells.toArray) (.agg evZ.cells.toArray)).run Tryz.prog wx = .ok (.bool true) wx := fun wx => event_same5 evZ rfl wx
    have HBE := Veil.mk evZ_built8
    clear hn HNZ HZ HEI HEZ
    obtain ⟨EY, hEY⟩ : ∃ q, evZ.cells = q := ⟨_, rfl⟩
    rw [hEY] at HFAR heqE iE HBE
    clear hEY
    go_wp2_with (first
      | (go_at_call 19; refine hlv.mono ?_; rintro e w5 ⟨rfl, hb5⟩; obtain ⟨hB6, -, hX5⟩ := HFAR.out w5 hb5; have rX := hX5.wholeM; clear hlv)
      | (refine wpList_ldgv (by kernel_rfl) 33 _ rfl X 0 rfl EY rX uE rfl iE ?_)
      | (refine wpList_bldgT (by kernel_rfl) 33 #[] rfl #[] (by first | rfl | kernel_rfl) _ (HBE.out _) ?_))
    go_ret
    exact ⟨rfl, hB6⟩
  subst hn
  obtain ⟨hr1, hr2, hr3⟩ := HZ.out rfl
  have HRR : Veil (∀ W, Calls Tryz.prog 32 #[.agg E.cells.toArray] W fun x w' => x = .returned (.bool true) ∧ Below W.heap.size W w') := ⟨fun W => by
    have h := HEI.out
    refine (rright_any E W h.plen h.da.1 h.ds.1 (by have := h.ds.2; omega) h.pa.1 h.ps.1).mono fun e w' hh => ?_
    rw [hr1] at hh
    exact hh⟩
  have HEC : Veil (∀ W, CellsAt W X 33 E.cells → W.cell? ⟨X, 0, none⟩ = some (.int .u8 FA) ∧ W.cell? ⟨X, 1, none⟩ = some (.int .u32 FN) ∧ W.rangeAt X 0 E.cells) := ⟨fun W h => ⟨(h.cell 0).trans (by rw [← hr2]; rfl), (h.cell 1).trans (by rw [← hr3]; rfl), h.wholeM⟩⟩
  clear hr1 hr2 hr3 HNZ HZ HEI HEZ
  generalize E.cells = EC at HFAR HRR HEC iE
  go_wp2_with (first
    | (go_at_call 19; refine hlv.mono ?_; rintro e w5 ⟨rfl, hb5⟩; obtain ⟨hB6, -, hX5⟩ := HFAR.out w5 hb5; have rX := hX5.wholeM; have hrr := HRR.out w5; clear hlv)
    | (refine wpList_ldgv (by kernel_rfl) 33 _ rfl X 0 rfl EC rX uE rfl iE ?_)
    | (go_at_call 32; refine hrr.mono ?_; rintro e w6 ⟨rfl, hb6⟩; obtain ⟨hB7, hF7, hX7⟩ := HFAR.out w6 (hb5.trans (hb6.mono hb5.size)); obtain ⟨e0, e1, -⟩ := HEC.out w6 hX7; obtain ⟨-, -, -, -, p0, p1⟩ := HFC.out w6 hF7; clear hrr))
  go_ret
  exact ⟨rfl, hB7⟩
theorem frameTold_walkI (n : Int) (hn : 0 ≤ n ∧ n ≤ 255) (seed : List Int) (hs : seed.length = 32) (F : Fr) (xw : Option Addr) (lw cw : Nat) (ws : List Wp) (xb : Option Addr) (lb cb : Nat) (body : List Int) (w : World) (hF : FrIn w F xw lw cw ws xb lb cb body) (hKT : S.KTab w) (hBT : BTab w) :
    Calls Tryz.prog 8 #[.int .u8 n, .agg (row .u8 seed), .agg F.cells.toArray] w fun e w' => e = .returned (.bool true) ∧ Below w.heap.size w w' := by
  obtain ⟨m, rfl⟩ := Int.eq_ofNat_of_zero_le hn.1
  exact frameTold_walk m (by have := hn.2; omega) seed hs F xw lw cw ws xb lb cb body w hF hKT hBT
end Go.Proofs.YtfainlfiphdaeaaGreatDoor
