/- Fq Flv Evs Ftg Fbk Eqw -/
import Derived.Test.YtfainlfiphdaeaaGreatDoorR48
import Derived.Test.YtfainlfiphdaeaaGreatDoorR09
import Derived.Test.YtfainlfiphdaeaaGreatDoorR40
import Derived.Laws.StructEq
import Derived.Test.YtfainlfiphdaeaaGreatDoorR13
import Derived.Test.YtfainlfiphdaeaaGreatDoorR39
import Derived.Test.YtfainlfiphdaeaaGreatDoorR07
import Derived.Test.YtfainlfiphdaeaaGreatDoorR35
import Derived.Test.YtfainlfiphdaeaaGreatDoorR02
namespace Go.Proofs.YtfainlfiphdaeaaGreatDoor
open Go.RowKit
set_option maxRecDepth 20000
set_option linter.unusedSimpArgs false
theorem padL_in9 (z : List Int) (s : Nat) (hz : ∀ v ∈ z, b8 v) : ∀ v ∈ padL z s, b8 v := by
  intro v hv
  unfold padL at hv
  rcases List.mem_append.1 hv with h | h
  · rcases List.mem_append.1 h with h | h
    · unfold be2 at h
      simp only [List.mem_cons, List.not_mem_nil, or_false] at h
      unfold b8
      rcases h with rfl | rfl <;> omega
    · exact hz v h
  · have := (List.mem_replicate.1 h).2
    subst this
    exact ⟨by omega, by omega⟩
theorem seal_zero {n : Int} {lw : Nat} {E : Ev} {own : Int} {m : Option (List Int)} (h : sealE n lw E own m = 0) : mayB n = true ∧ lw ≤ 64 ∧ rightB E = true ∧ E.da = own ∧ E.ds = n ∧ own < 8 ∧ m ≠ none := by
  unfold sealE at h
  split at h
  · rename_i h1
    split at h
    · rename_i h2
      split at h
      · rename_i h3
        simp only [Bool.and_eq_true, beq_iff_eq] at h2
        refine ⟨h1.1, h1.2, h2.1, h2.2.1, h2.2.2, h3, fun q => ?_⟩
        rw [q] at h
        exact absurd h (by decide)
      · omega
    · omega
  · omega
theorem seal_of {n : Int} {lw : Nat} {E : Ev} {own : Int} {k : List Int} (h1 : mayB n = true) (h2 : lw ≤ 64) (h3 : rightB E = true) (h4 : E.da = own) (h5 : E.ds = n) (h6 : own < 8) : sealE n lw E own (some k) = 0 := by
  unfold sealE
  rw [if_pos ⟨h1, h2⟩, if_pos (by rw [h3, h4, h5]; simp), if_pos h6]
theorem sealed_opens {seed : List Int} {n : Int} {lw : Nat} {E : Ev} {own : Int} {k : List Int} {F : Fr} {ws : List Wp} (hE : E.In) (h : sealE n lw E own (some k) = 0) (ha : F.author = own) (hn : F.number = n) (hm : F.mac = ftagL seed F ws (sbodyL k F ws E)) :
    checkE seed F lw ws 144 (sbodyL k F ws E) = 0 ∧ openK k F ws 144 (sbodyL k F ws E) = 0 ∧ openV k F 144 (sbodyL k F ws E) = E := by
  obtain ⟨h1, h2, h3, h4, h5, h6, -⟩ := seal_zero h
  have hel := eventL_length E hE.plen
  have hpl : (padL (eventL E) 128).length = 128 := padL_length _ _ (by rw [hel]; omega)
  have hPi : ∀ v ∈ padL (eventL E) 128, b8 v := padL_in9 _ _ (event_in E hE)
  have hP : openP k F 144 (sbodyL k F ws E) = padL (eventL E) 128 := by
    unfold openP sbodyL
    rw [show 144 - 16 = 128 from rfl, seal_take _ _ _ _ 128 hpl.symm]
    exact xor_twice _ _ _ _ hPi
  have hu := padL_ok (eventL E) 128 (by rw [hel]; omega) (by rw [hel]; omega) (by rw [hel]; decide)
  have hU : unpE (padL (eventL E) 128) = 0 ∧ unpB (padL (eventL E) 128) = eventL E := by
    unfold unpE unpB
    rw [if_pos hu.1, if_pos hu.1]
    exact ⟨rfl, hu.2⟩
  have he := event_back E hE
  have hR : revE (eventL E) = 0 ∧ revB (eventL E) = E := by
    unfold revE revB
    rw [if_pos he.1, if_pos he.1]
    exact ⟨rfl, he.2⟩
  have hV : openV k F 144 (sbodyL k F ws E) = E := by
    unfold openV
    rw [hP, hU.2, hR.2]
  refine ⟨?_, ?_, hV⟩
  · unfold checkE
    rw [ha, hn, if_pos ⟨h6, h1⟩, if_pos ⟨h2, by decide⟩, if_pos hm.symm]
  · unfold openK
    rw [if_neg (by decide), if_pos, hP, hU.1, if_pos rfl, hU.2, hR.1, if_pos rfl, hV, if_pos]
    · unfold fitsB
      rw [h3, ha, hn, h4, h5]; simp
    · unfold sbodyL
      rw [show 144 - 16 = 128 from rfl, seal_take _ _ _ _ 128 hpl.symm, seal_drop _ _ _ _ 128 hpl.symm]
theorem sbodyL_in {k : List Int} {F : Fr} {ws : List Wp} {E : Ev} (hF : F.In) (hi : ∀ e ∈ ws, e.In) (hw : ws.length ≤ 64) (hE : E.In) : ∀ v ∈ sbodyL k F ws E, isB v :=
  sealL_in _ _ _ _ (openL_in9 F ws hF hi hw) (padL_in9 _ _ (event_in E hE))
end Go.Proofs.YtfainlfiphdaeaaGreatDoor
namespace Go.Proofs.YtfainlfiphdaeaaGreatDoor
open Go.RowKit
set_option maxRecDepth 20000
set_option linter.unusedSimpArgs false
def evL : Ev := ⟨0, 1, [0, 0, 0, 0, 0, 0, 0, 0], 3, 0, 0, false, 0, 1, 1⟩
def seed1 : List Int := 1 :: List.replicate 31 0
theorem evL_in : evL.In := ⟨⟨by decide, by decide⟩, ⟨by decide, by decide⟩, rfl, fun x hx => by
  have : x ∈ ([0, 0, 0, 0, 0, 0, 0, 0] : List Int) := hx
  simp only [List.mem_cons, List.not_mem_nil, or_false, or_self] at this
  rw [this]; exact ⟨by decide, by decide⟩, ⟨by decide, by decide⟩, ⟨by decide, by decide⟩, ⟨by decide, by decide⟩, ⟨by decide, by decide⟩, ⟨by decide, by decide⟩, ⟨by decide, by decide⟩⟩
theorem wraps_nilL (W : World) : WrapsAt W none 0 0 [] := ⟨rfl, by omega, by omega, fun _ => rfl, by simp, .inl rfl⟩
set_option maxHeartbeats 16000000 in
theorem flive_any (w : World) (hKT : S.KTab w) (hBT : BTab w) :
    Calls Tryz.prog 19 #[] w fun e w' => e = .returned (.bool true) ∧ Below w.heap.size w w' := by
  obtain ⟨Z, hzv, hz1, hZ⟩ : ∃ Z : List Value, (∀ wx, (zeroValue 43).run Tryz.prog wx = .ok (.agg Z.toArray) wx) ∧ ¬ Z.toArray = #[] ∧ Z = frZ1.cells := ⟨frZ1.cells, fun wx => by kernel_rfl, by decide, rfl⟩
  have hZl : Z.length = 70 := by rw [hZ]; rfl
  clear hZ
  have hnew := new_any 0 seed1 w (by decide) rfl hKT
  have HB1 : Veil (∀ wx, (Instr.build 23 #[(0, .int .u8 1)]).run Tryz.prog wx = .ok (.agg (row .u8 seed1)) wx) := ⟨fun wx => run_build wx _ _ _ (by kernel_rfl)⟩
  have HB2 : Veil (∀ wx, (Instr.build 23 #[]).run Tryz.prog wx = .ok (.agg (row .u8 (List.replicate 32 0))) wx) := ⟨fun wx => run_build wx _ _ _ (by kernel_rfl)⟩
  have HB3 : Veil (∀ wx, (Instr.build 26 #[]).run Tryz.prog wx = .ok (.agg (dotC 0 0).toArray) wx) := ⟨fun wx => run_build wx _ _ _ (by kernel_rfl)⟩
  have HB4 : Veil (∀ wx, (Instr.build 26 #[(1, .int .u32 1)]).run Tryz.prog wx = .ok (.agg (dotC 0 1).toArray) wx) := ⟨fun wx => run_build wx _ _ _ (by kernel_rfl)⟩
  have HB5 : Veil (∀ wx, (Instr.build 33 #[(0, .agg (dotC 0 1).toArray), (2, .int .u8 3), (6, .int .u8 1), (7, .int .u8 1)]).run Tryz.prog wx = .ok (.agg evL.cells.toArray) wx) := ⟨fun wx => run_build wx _ _ _ (by kernel_rfl)⟩
  obtain ⟨k0, hk0⟩ : ∃ k, newM 0 seed1 0 0 = some k := ⟨epochL seed1, by unfold newM; rw [if_pos rfl]; unfold putK; simp⟩
  have h0 : sealE 1 0 evL 0 (newM 0 seed1 0 0) = 0 := by
    rw [hk0]
    exact seal_of (by decide) (by decide) (by decide) rfl rfl (by decide)
  have HKT : Veil (∀ W, Below w.heap.size w W → S.KTab W ∧ BTab W) := ⟨fun W hb => ⟨hKT.below hb, hBT.below hb⟩⟩
  have HSL : Veil (∀ W H b v, Below w.heap.size w W → RingAt W w.heap.size H 0 seed1 b (newM 0 seed1) v (newD 0) → Calls Tryz.prog 17 #[.pointer (some ⟨H, 0, none⟩), .int .u32 1, .agg (row .u8 (List.replicate 32 0)), .agg (dotC 0 0).toArray, .slice none 0 0, .agg evL.cells.toArray] W fun e w' => ∃ (F : Fr) (xb : Option Addr) (cb : Nat), e = .returned (.tuple #[.agg F.cells.toArray, .int .i64 0]) ∧ F.cells.length = 70 ∧ (∀ v ∈ F.cells, v.oneCell' = true) ∧ F.cells[37]? = some (.slice xb 144 cb) ∧ (∀ V, Below w'.heap.size w' V → RingAt V w.heap.size H 0 seed1 b (newM 0 seed1) v (newD 0) → Calls Tryz.prog 21 #[.pointer (some ⟨H, 0, none⟩), .agg F.cells.toArray] V fun e w'' => e = .returned (.tuple #[.agg evL.cells.toArray, .int .i64 0]) ∧ Below V.heap.size V w'') ∧ Below W.heap.size W w') := ⟨fun W H b v hbW hR => by
    refine (Seal_any w.heap.size H 0 seed1 b (newM 0 seed1) v (newD 0) W 1 none 0 0 [] 0 0 (List.replicate 32 0) evL hR (HKT.out W hbW).1 (HKT.out W hbW).2 (wraps_nilL W) rfl evL_in ⟨⟨by omega, by omega⟩, by omega, by omega⟩ ⟨by omega, by omega⟩).mono ?_
    rintro e w' ⟨hs | hs, hb'⟩
    · exact absurd h0 hs.1
    · obtain ⟨_, F, k, hk, he, hf, fa, fn, fea, fes, fp, fm⟩ := hs
      obtain ⟨xw, cw, xb, cb, hq⟩ := hf.at_
      have hq0 := hq w' (fun _ _ _ => rfl)
      obtain ⟨f70, _, _, _, _, _, f37, _⟩ := fr_parts F hq0.prev hq0.mac
      rw [hq0.body_] at f37
      have hIn : F.In := ⟨by rw [fa]; exact ⟨by decide, by decide⟩, by rw [fn]; exact ⟨by decide, by decide⟩, by rw [fea]; exact ⟨by decide, by decide⟩, by rw [fes]; exact ⟨by decide, by decide⟩, fun x hx => by
        rw [fp] at hx
        rw [(List.mem_replicate.1 hx).2]; exact ⟨by decide, by decide⟩, fun x hx => by
        rw [fm] at hx
        exact ftagL_in _ _ _ _ x hx⟩
      have hkk : newM 0 seed1 F.ea F.es = some k := by rw [fea, fes]; exact hk
      rw [hk] at h0
      obtain ⟨o1, o2, o3⟩ := sealed_opens (ws := []) evL_in h0 fa fn fm
      refine ⟨F, xb, cb, he, f70, fun v hv => ?_, f37, fun V hbV hRV => ?_, hb'⟩
      · simp only [Fr.cells, dotC, List.mem_append, List.mem_cons, List.not_mem_nil, or_false, List.mem_map, hq0.wraps, hq0.body_] at hv
        rcases hv with ((((rfl | rfl) | rfl | rfl) | ⟨x, _, rfl⟩) | rfl | rfl) | ⟨x, _, rfl⟩ <;> rfl
      · have hwV : Below w.heap.size w V := (hbW.trans (hb'.mono hbW.size)).trans (hbV.mono (hbW.trans (hb'.mono hbW.size)).size)
        refine (Open_anyF w.heap.size H 0 seed1 b (newM 0 seed1) v (newD 0) V F xw 0 cw [] xb 144 cb (sbodyL k F [] evL) hRV (HKT.out V hwV).1 (HKT.out V hwV).2 (hq0.below hbV) hIn (by simp) (sbodyL_in hIn (by simp) (by decide) evL_in)).mono ?_
        rintro e2 w2 ⟨ho | ho, hb2⟩
        · exfalso
          refine ho.1 ?_
          unfold openE
          rw [if_pos o1, hkk]
          exact o2
        · obtain ⟨_, k2, hk2, he2⟩ := ho
          rw [hkk] at hk2
          obtain rfl := Option.some.inj hk2
          rw [o3] at he2
          exact ⟨he2, hb2⟩⟩
  have iF70 : (Tryz.prog.info? 43).map (·.size) = some 70 := sizeFrame
  have iE := sizeEvZ evL rfl
  have h1E := ev_one evL
  have uF := Tryz.underlying43
  have HEC : Veil (∀ W g, CellsAt W g 33 evL.cells → W.cell? ⟨g, 15, none⟩ = some (.int .u8 1)) := ⟨fun W g h => (h.cell 15).trans rfl⟩
  have hlE : evZ.cells.length = evL.cells.length := rfl
  generalize evL.cells = EL at HB5 HSL iE h1E HEC hlE
  generalize row .u8 seed1 = SD at hnew HB1
  generalize row .u8 (List.replicate 32 0) = PZ at HB2 HSL
  clear hKT hBT hk0 h0 HKT
  go_enter Tryz.func19, Tryz.ntmps19
  go_upto_region 2 with (first
    | (refine wpList_bldx rfl 23 #[(0, .const (.int .u8 1))] rfl #[(0, .int .u8 1)] (by first | rfl | kernel_rfl) _ (HB1.out _) ?_)
    | (go_at_call 27; refine hnew.mono ?_; rintro e w1 ⟨H, b, v, rfl, hR1, hb1⟩; clear hnew))
  have hsl := HSL.out w1 H b v hb1 hR1
  have HFAR : Veil (∀ V, Below w1.heap.size w1 V → Below w.heap.size w V ∧ RingAt V w.heap.size H 0 seed1 b (newM 0 seed1) v (newD 0)) := ⟨fun V h => ⟨hb1.trans (h.mono hb1.size), hR1.far h⟩⟩
  clear HSL hR1 hb1
  go_upto_region 3 with (first
    | (refine wpList_bldx rfl 23 #[] rfl #[] (by first | rfl | kernel_rfl) _ (HB2.out _) ?_)
    | (refine wpList_bldx rfl 26 #[] rfl #[] (by first | rfl | kernel_rfl) _ (HB3.out _) ?_)
    | (refine wpList_bldx rfl 26 #[(1, .const (.int .u32 1))] rfl #[(1, .int .u32 1)] (by first | rfl | kernel_rfl) _ (HB4.out _) ?_)
    | (refine wpList_bldx rfl 33 _ rfl #[(0, .agg (dotC 0 1).toArray), (2, .int .u8 3), (6, .int .u8 1), (7, .int .u8 1)] (by first | rfl | kernel_rfl) _ (HB5.out _) ?_)
    | (go_at_call 17; refine hsl.mono ?_; rintro e w2 ⟨F, xb, cb, rfl, hFl, h1F, h37, hop, hb2⟩; have hG2 := CellsAt.new w2 43 Z; have HOP := Veil.mk hop; have H37 := Veil.mk h37; clear hsl hop h37)
    | (refine wpList_stv rfl 43 _ _ rfl _ rfl rfl hG2 (by rw [hFl]; exact iF70) (by rw [hZl, hFl]) h1F ?_))
  have hb3 : Below w2.heap.size w2 ((w2.alloc (.cells Z.toArray 43)).setRow w2.heap.size F.cells.toArray) := below_setRow ((Below.refl _ _).alloc (Nat.le_refl _) _) (Nat.le_refl _) _
  have hb13 := hb2.trans (hb3.mono hb2.size)
  refine forget (p := fun y => Code.wp _ _ _ _ y) (fun W => Below w2.heap.size w2 W ∧ Below w1.heap.size w1 W ∧ CellsAt W w2.heap.size 43 F.cells) ⟨hb3, hb13, hG2.setRow _⟩ ?_
  have hs2 := hb2.size
  clear hb3 hb13 hG2 hb2 hzv hz1
  obtain ⟨G, hGe⟩ : ∃ q, w2.heap.size = q := ⟨_, rfl⟩
  rw [hGe]
  have HGE := Veil.mk hGe
  clear hGe
  rintro W ⟨hbG, hbW, hG⟩
  obtain ⟨hwW, hRW⟩ := HFAR.out W hbW
  have hop := HOP.out W (by rw [HGE.out]; exact hbG) hRW
  have rG := hG.wholeM
  have iF : (Tryz.prog.info? 43).map (·.size) = some F.cells.length := by rw [hFl]; exact iF70
  clear HOP hRW
  go_upto_region 4 with (first
    | (refine wpList_ldv rfl 43 _ rfl _ _ rfl F.cells rG uF rfl iF ?_)
    | (go_at_call 21; refine hop.mono ?_; rintro e w4 ⟨rfl, hb4⟩; have hA4 := CellsAt.new w4 33 evZ.cells; clear hop)
    | (refine wpList_stv rfl 33 _ _ rfl _ rfl rfl hA4 iE hlE h1E ?_))
  have hb5 : Below w4.heap.size w4 ((w4.alloc (.cells evZ.cells.toArray 33)).setRow w4.heap.size EL.toArray) := below_setRow ((Below.refl _ _).alloc (Nat.le_refl _) _) (Nat.le_refl _) _
  have hb45 := hb4.trans (hb5.mono hb4.size)
  refine forget (p := fun y => Code.wp _ _ _ _ y) (fun V => Below w.heap.size w V ∧ CellsAt V G 43 F.cells ∧ CellsAt V w4.heap.size 33 EL) ⟨hwW.trans (hb45.mono hwW.size), hG.farM hb45, hA4.setRow _⟩ ?_
  clear hb45 hb5 hA4 hb4 hwW hbW hbG hG rG
  rintro V ⟨hb, hG, hE⟩
  have c15 := HEC.out V _ hE
  have c37 : V.cell? ⟨G, 37, none⟩ = some (.slice xb 144 cb) := by rw [hG.cell, H37.out]
  go_wp2
  go_ret
  exact ⟨rfl, hb⟩
end Go.Proofs.YtfainlfiphdaeaaGreatDoor
namespace Go.Proofs.YtfainlfiphdaeaaGreatDoor
open Go.RowKit
set_option maxRecDepth 20000
set_option linter.unusedSimpArgs false
theorem event_same5 (E : Ev) (h : E.past.length = 8) (wx : World) : (binOp BinOp.eql 33 (.agg E.cells.toArray) (.agg E.cells.toArray)).run Tryz.prog wx = .ok (.bool true) wx := by
  obtain ⟨da, ds, past, kind, pa, ps, right, char, who, role⟩ := E
  obtain ⟨p0, p1, p2, p3, p4, p5, p6, p7, rfl⟩ := list8 past h
  have hr : (Op.equalIn 9999 29 (.agg (row .u32 [p0, p1, p2, p3, p4, p5, p6, p7])) (.agg (row .u32 [p0, p1, p2, p3, p4, p5, p6, p7]))).run Tryz.prog wx = .ok true wx := by
    have := run_equalIn_rows (P := Tryz.prog) wx 9997 .u32 [p0, p1, p2, p3, p4, p5, p6, p7] [p0, p1, p2, p3, p4, p5, p6, p7] Tryz.underlying29 Tryz.underlying24 (by kernel_rfl) (by kernel_rfl) rfl rfl
    rw [this, beq_self_eq_true]
  simp only [row, List.map_cons, List.map_nil] at hr
  rw [run_eql_struct]
  simp [Ev.cells, dotC, go_sem, hr]
end Go.Proofs.YtfainlfiphdaeaaGreatDoor
namespace Go.Proofs.YtfainlfiphdaeaaGreatDoor
open Go.RowKit
set_option maxRecDepth 20000
set_option linter.unusedSimpArgs false
theorem evZ_built7 (wx : World) : (Instr.build 33 #[]).run Tryz.prog wx = .ok (.agg evZ.cells.toArray) wx := run_build wx _ _ _ (by kernel_rfl)
theorem fr_one7 (F : Fr) {xw : Option Addr} {lw cw : Nat} {xb : Option Addr} {lb cb : Nat} (h1 : F.wraps = .slice xw lw cw) (h2 : F.body = .slice xb lb cb) : ∀ v ∈ F.cells, v.oneCell' = true := by
  intro v hv
  simp only [Fr.cells, dotC, List.mem_append, List.mem_cons, List.not_mem_nil, or_false, List.mem_map, h1, h2] at hv
  rcases hv with ((((rfl | rfl) | rfl | rfl) | ⟨x, _, rfl⟩) | rfl | rfl) | ⟨x, _, rfl⟩ <;> rfl
end Go.Proofs.YtfainlfiphdaeaaGreatDoor
namespace Go.Proofs.YtfainlfiphdaeaaGreatDoor
open Go.RowKit
set_option maxRecDepth 20000
set_option linter.unusedSimpArgs false
def SRing (V : World) (base HS : Nat) (o : Int) (SD : List Int) (bS : Nat) (ea es : Int) (p : Option (List Int)) (c : Nat) : Prop := ∃ M v L, RingAt V base HS o SD bS M v L ∧ M ea es = p ∧ L.length ≤ c
theorem newD_len (o : Int) : (newD o).length ≤ 1 := by unfold newD; split <;> simp
theorem SRing.far {V V' : World} {base HS : Nat} {o : Int} {SD : List Int} {bS : Nat} {ea es : Int} {p : Option (List Int)} {c : Nat} (h : SRing V base HS o SD bS ea es p c) (hb : Below V.heap.size V V') : SRing V' base HS o SD bS ea es p c := by
  obtain ⟨M, v, L, hR, hp, hl⟩ := h
  exact ⟨M, v, L, hR.far hb, hp, hl⟩
theorem sring_key {V : World} {base HS : Nat} {o : Int} {SD : List Int} {bS : Nat} {ea es : Int} {p : Option (List Int)} {c : Nat} (h : SRing V base HS o SD bS ea es p c) (ho : okD ea es) :
    Calls Tryz.prog 28 #[.pointer (some ⟨HS, 0, none⟩), .agg (dotC ea es).toArray] V fun e w' => e = .returned (.tuple #[.agg ((p.getD (List.replicate 32 0)).map (Value.int .u8)).toArray, .bool p.isSome]) ∧ Below V.heap.size V w' := by
  obtain ⟨M, v, L, hR, rfl, hl⟩ := h
  exact rKey_any base HS o SD bS M v L V ea es ho hR
theorem sring_has {V : World} {base HS : Nat} {o : Int} {SD : List Int} {bS : Nat} {ea es : Int} {p : Option (List Int)} {c : Nat} (h : SRing V base HS o SD bS ea es p c) (ho : okD ea es) :
    Calls Tryz.prog 29 #[.pointer (some ⟨HS, 0, none⟩), .agg (dotC ea es).toArray] V fun e w' => e = .returned (.bool p.isSome) ∧ Below V.heap.size V w' := by
  obtain ⟨M, v, L, hR, rfl, hl⟩ := h
  exact rHas_any base HS o SD bS M v L V ea es ho hR
theorem sring_add {W V : World} {HS : Nat} {o : Int} {SD : List Int} {bS : Nat} {ea es : Int} (hb : Below W.heap.size W V) {c : Nat} (h : SRing V W.heap.size HS o SD bS ea es none c) (hc : c < 16) (ho : okD ea es) (k : List Int) (hk : k.length = 32) :
    Calls Tryz.prog 30 #[.pointer (some ⟨HS, 0, none⟩), .agg (dotC ea es).toArray, .agg (k.map (Value.int .u8)).toArray] V fun e w' => e = .returned (.int .i64 0) ∧ SRing w' W.heap.size HS o SD bS ea es (some k) (c + 1) ∧ Below W.heap.size W w' := by
  obtain ⟨M, v, L, hR, hm, hl⟩ := h
  refine (add_ok W.heap.size HS o SD bS M v L V ea es k ho hk hR (by rw [hm]; rfl) (by omega) hb.size).mono ?_
  rintro e w' ⟨he, v', hR', hT, -⟩
  refine ⟨he, ⟨_, v', _, hR', by unfold putK; simp, by simp; omega⟩, hb.trans (hT.below hb.size fun k hk => (hR.inside k hk).2)⟩
structure SealedF (W : World) (seed : List Int) (own : Int) (k : List Int) (n : Int) (lw : Nat) (ws : List Wp) (E : Ev) (ea es : Int) (F : Fr) : Prop where
  ok : ∃ yw dw yb db, FrOk W F yw lw dw ws yb 144 db (sbodyL k F ws E)
  zero : sealE n lw E own (some k) = 0
  a : F.author = own
  n_ : F.number = n
  ea_ : F.ea = ea
  es_ : F.es = es
  m : F.mac = ftagL seed F ws (sbodyL k F ws E)
  E_ : E.In
  In : F.In
  w_ : ∀ e ∈ ws, e.In
  k_ : k.length = 32
theorem SealedF.below {W V : World} {seed : List Int} {own : Int} {k : List Int} {n : Int} {lw : Nat} {ws : List Wp} {E : Ev} {ea es : Int} {F : Fr} (h : SealedF W seed own k n lw ws E ea es F) (hb : Below W.heap.size W V) : SealedF V seed own k n lw ws E ea es F := by
  obtain ⟨yw, dw, yb, db, hq⟩ := h.ok
  exact ⟨⟨yw, dw, yb, db, hq.below hb⟩, h.zero, h.a, h.n_, h.ea_, h.es_, h.m, h.E_, h.In, h.w_, h.k_⟩
theorem sealed_open {V : World} {seed : List Int} {own : Int} {k : List Int} {n : Int} {lw : Nat} {ws : List Wp} {E : Ev} {ea es : Int} {F : Fr} {base HS : Nat} {o : Int} {bS : Nat} {p : Option (List Int)} {c : Nat} (h : SealedF V seed own k n lw ws E ea es F) (hs : SRing V base HS o seed bS ea es p c) (hp : p = none ∨ p = some k) (hKT : S.KTab V) (hBT : BTab V) :
    Calls Tryz.prog 21 #[.pointer (some ⟨HS, 0, none⟩), .agg F.cells.toArray] V fun e w' => e = .returned (.tuple #[.agg (if p = none then evZ else E).cells.toArray, .int .i64 (if p = none then 9 else 0)]) ∧ Below V.heap.size V w' := by
  obtain ⟨M, v, L, hR, hM, -⟩ := hs
  obtain ⟨yw, dw, yb, db, hq⟩ := h.ok
  have hl : ws.length ≤ 64 := by have := hq.hw.len_eq; have := (seal_zero h.zero).2.1; omega
  obtain ⟨o1, o2, o3⟩ := sealed_opens (ws := ws) (seed := seed) h.E_ h.zero h.a h.n_ h.m
  refine (Open_anyF base HS o seed bS M v L V F yw lw dw ws yb 144 db _ hR hKT hBT hq h.In h.w_ (sbodyL_in h.In h.w_ hl h.E_)).mono ?_
  have hMF : M F.ea F.es = p := by rw [h.ea_, h.es_]; exact hM
  rintro e w' ⟨ho, hb⟩
  unfold openOut at ho
  rw [hMF] at ho
  rcases hp with rfl | rfl
  · have h9 : openE seed none F lw ws 144 (sbodyL k F ws E) = 9 := by unfold openE; rw [if_pos o1]
    rw [h9] at ho
    rcases ho with ho | ho
    · exact ⟨ho.2, hb⟩
    · exact absurd ho.1 (by decide)
  · have h9 : openE seed (some k) F lw ws 144 (sbodyL k F ws E) = 0 := by unfold openE; rw [if_pos o1]; exact o2
    rw [h9] at ho
    rcases ho with ho | ho
    · exact absurd rfl ho.1
    · obtain ⟨_, k', hk, he⟩ := ho
      obtain rfl := Option.some.inj hk
      rw [o3] at he
      exact ⟨he, hb⟩
theorem event_neq5 (wx : World) : (binOp BinOp.neq 33 (.agg evZ.cells.toArray) (.agg evZ.cells.toArray)).run Tryz.prog wx = .ok (.bool false) wx := by kernel_rfl
theorem sealed_check {V : World} {seed : List Int} {own : Int} {k : List Int} {n : Int} {lw : Nat} {ws : List Wp} {E : Ev} {ea es : Int} {F : Fr} {base HS : Nat} {o : Int} {bS : Nat} {p : Option (List Int)} {c : Nat} (h : SealedF V seed own k n lw ws E ea es F) (hs : SRing V base HS o seed bS ea es p c) (hKT : S.KTab V) :
    Calls Tryz.prog 23 #[.pointer (some ⟨HS, 0, none⟩), .agg F.cells.toArray] V fun e w' => e = .returned (.int .i64 0) ∧ Below V.heap.size V w' := by
  obtain ⟨M, v, L, hR, hM, -⟩ := hs
  obtain ⟨yw, dw, yb, db, hq⟩ := h.ok
  obtain ⟨o1, -, -⟩ := sealed_opens (ws := ws) (seed := seed) h.E_ h.zero h.a h.n_ h.m
  refine (Check_any base HS o seed bS M v L V F yw lw dw ws yb 144 db _ hR hKT hq h.In.mac).mono ?_
  rw [o1]
  exact fun e w' h => h
theorem sealS_any (base H : Nat) (own : Int) (seed : List Int) (b : Nat) (M : Int → Int → Option (List Int)) (v : Value) (L : List (Int × Int)) (W : World) (q : Aq) (xw : Option Addr) (lw cw : Nat) (ws : List Wp) (hq : AqIn W q xw lw cw ws) (hR : RingAt W base H own seed b M v L) (hKT : S.KTab W) (hBT : BTab W) (hown : 0 ≤ own ∧ own ≤ 255) :
    Calls Tryz.prog 17 #[.pointer (some ⟨H, 0, none⟩), .int .u32 q.num, .agg (q.prev.map (Value.int .u8)).toArray, .agg (dotC q.ea q.es).toArray, .slice xw lw cw, .agg q.E.cells.toArray] W fun e w' => ∃ (F : Fr) (n : Int), e = .returned (.tuple #[.agg F.cells.toArray, .int .i64 n]) ∧ F.prev.length = 32 ∧ F.mac.length = 32 ∧ (∀ v ∈ F.cells, v.oneCell' = true) ∧ (n ≠ 0 → F = frZ1) ∧ (n = 0 → ∃ k, M q.ea q.es = some k ∧ SealedF w' seed own k q.num lw ws q.E q.ea q.es F) ∧ Below W.heap.size W w' := by
  refine (Seal_any base H own seed b M v L W q.num xw lw cw ws q.ea q.es q.prev q.E hR hKT hBT hq.hw hq.prev hq.E ⟨hq.ea, hq.es⟩ hown).mono ?_
  rintro e w' ⟨hs | hs, hb'⟩
  · exact ⟨frZ1, _, hs.2, rfl, rfl, by decide, fun _ => rfl, fun h => absurd h hs.1, hb'⟩
  · obtain ⟨h0, F, k, hk, he, hf, fa, fn, fea, fes, fp, fm⟩ := hs
    obtain ⟨yw, dw, yb, db, hqq⟩ := hf.at_
    have hq0 := hqq w' (fun _ _ _ => rfl)
    have hFi : F.In := ⟨by rw [fa]; exact hown, by rw [fn]; exact hq.num, by rw [fea]; exact hq.ea, by rw [fes]; exact hq.es, by rw [fp]; exact hq.prevI, fun x hx => by rw [fm] at hx; exact ftagL_in _ _ _ _ x hx⟩
    refine ⟨F, 0, he, hq0.prev, hq0.mac, fr_one7 F hq0.wraps hq0.body_, fun h => absurd rfl h, fun _ => ⟨k, hk, ⟨⟨yw, dw, yb, db, hq0⟩, ?_, fa, fn, fea, fes, fm, hq.E, hFi, hq.inW, hR.is32 _ _ k hk⟩⟩, hb'⟩
    rw [← hk]; exact h0
end Go.Proofs.YtfainlfiphdaeaaGreatDoor
namespace Go.Proofs.YtfainlfiphdaeaaGreatDoor
open Go.RowKit
set_option maxRecDepth 20000
set_option linter.unusedSimpArgs false
noncomputable def wsB (a b : List Wp) : Bool := open Classical in decide (a = b)
theorem wsB_true {a b : List Wp} (h : a = b) : wsB a b = true := by unfold wsB; simp [h]
theorem wsB_false {a b : List Wp} (h : a ≠ b) : wsB a b = false := by unfold wsB; simp [h]
theorem take_differ {a b : List Wp} {j : Nat} (h1 : j < a.length) (h2 : j < b.length) (h : a[j] ≠ b[j]) : a ≠ b := fun e => by subst e; exact h rfl
theorem take_more {a b : List Wp} {j : Nat} (h1 : j < a.length) (h2 : j < b.length) (h : a[j] = b[j]) (h0 : a.take j = b.take j) : a.take (j + 1) = b.take (j + 1) := by
  rw [List.take_succ_eq_append_getElem h1, List.take_succ_eq_append_getElem h2, h0, h]
end Go.Proofs.YtfainlfiphdaeaaGreatDoor
