/- frame: 'live' of the statements. Dots, keys, wraps, rows of wraps, bytes: two of them compared. 'SameFrame' of wire, and the reference's, of any two frames. (Written by mksame.py.) -/
import Derived.Test.YtfainlfiphdaeaaGreatDoorMFm9Fm10Fq
import Derived.Test.YtfainlfiphdaeaaGreatDoorMRe3Wr5Wr6
import Derived.Test.YtfainlfiphdaeaaGreatDoorMAn6EqdGate3
import Derived.Test.YtfainlfiphdaeaaGreatDoorMGate2EvmGb
import Derived.Laws.StructEq
import Derived.Test.YtfainlfiphdaeaaGreatDoorMEvlCv4Cv5
import Derived.Test.YtfainlfiphdaeaaGreatDoorMWo2Cv1Cv3
namespace Go.Proofs.YtfainlfiphdaeaaGreatDoor
open Go.RowKit
set_option maxRecDepth 20000
set_option linter.unusedSimpArgs false

def evL : Ev := ⟨0, 1, [0, 0, 0, 0, 0, 0, 0, 0], 3, 0, 0, false, 0, 1, 1⟩
def seed1 : List Int := 1 :: List.replicate 31 0
theorem evL_in : evL.In := ⟨⟨by decide, by decide⟩, ⟨by decide, by decide⟩, rfl, fun x hx => by
  have : x ∈ ([0, 0, 0, 0, 0, 0, 0, 0] : List Int) := hx
  simp only [List.mem_cons, List.not_mem_nil, or_false, or_self] at this
  rw [this]; exact ⟨by decide, by decide⟩, ⟨by decide, by decide⟩, ⟨by decide, by decide⟩, ⟨by decide, by decide⟩, ⟨by decide, by decide⟩, ⟨by decide, by decide⟩, ⟨by decide, by decide⟩⟩
theorem wraps_nilL (W : World) : WrapsAt W none 0 0 [] := ⟨rfl, by omega, by omega, fun _ => rfl, by simp, .inl rfl⟩
set_option maxHeartbeats 16000000 in
theorem flive_any (w : World) (hKT : S.KTab w) (hBT : BTab w) :
    Calls Tryz.prog 19 #[] w fun e w' => e = .returned (.bool true) ∧ Below w.heap.size w w' := by
  obtain ⟨Z, hzv, hz1, hZ⟩ : ∃ Z : List Value, (∀ wx, (zeroValue 43).run Tryz.prog wx = .ok (.agg Z.toArray) wx) ∧ ¬ Z.toArray = #[] ∧ Z = frZ1.cells := ⟨frZ1.cells, fun wx => by kernel_rfl, by decide, rfl⟩
  have hZl : Z.length = 70 := by rw [hZ]; rfl
  clear hZ
  have hnew := new_any 0 seed1 w (by decide) rfl hKT
  have HB1 : Veil (∀ wx, (Instr.build 23 #[(0, .int .u8 1)]).run Tryz.prog wx = .ok (.agg (row .u8 seed1)) wx) := ⟨fun wx => run_build wx _ _ _ (by kernel_rfl)⟩
  have HB2 : Veil (∀ wx, (Instr.build 23 #[]).run Tryz.prog wx = .ok (.agg (row .u8 (List.replicate 32 0))) wx) := ⟨fun wx => run_build wx _ _ _ (by kernel_rfl)⟩
  have HB3 : Veil (∀ wx, (Instr.build 26 #[]).run Tryz.prog wx = .ok (.agg (dotC 0 0).toArray) wx) := ⟨fun wx => run_build wx _ _ _ (by kernel_rfl)⟩
  have HB4 : Veil (∀ wx, (Instr.build 26 #[(1, .int .u32 1)]).run Tryz.prog wx = .ok (.agg (dotC 0 1).toArray) wx) := ⟨fun wx => run_build wx _ _ _ (by kernel_rfl)⟩
  have HB5 : Veil (∀ wx, (Instr.build 33 #[(0, .agg (dotC 0 1).toArray), (2, .int .u8 3), (6, .int .u8 1), (7, .int .u8 1)]).run Tryz.prog wx = .ok (.agg evL.cells.toArray) wx) := ⟨fun wx => run_build wx _ _ _ (by kernel_rfl)⟩
  obtain ⟨k0, hk0⟩ : ∃ k, newM 0 seed1 0 0 = some k := ⟨epochL seed1, by unfold newM; rw [if_pos rfl]; unfold putK; simp⟩
  have h0 : sealE 1 0 evL 0 (newM 0 seed1 0 0) = 0 := by
    rw [hk0]
    exact seal_of (by decide) (by decide) (by decide) rfl rfl (by decide)
  have HKT : Veil (∀ W, Below w.heap.size w W → S.KTab W ∧ BTab W) := ⟨fun W hb => ⟨hKT.below hb, hBT.below hb⟩⟩
  have HSL : Veil (∀ W H b v, Below w.heap.size w W → RingAt W w.heap.size H 0 seed1 b (newM 0 seed1) v (newD 0) → Calls Tryz.prog 17 #[.pointer (some ⟨H, 0, none⟩), .int .u32 1, .agg (row .u8 (List.replicate 32 0)), .agg (dotC 0 0).toArray, .slice none 0 0, .agg evL.cells.toArray] W fun e w' => ∃ (F : Fr) (xb : Option Addr) (cb : Nat), e = .returned (.tuple #[.agg F.cells.toArray, .int .i64 0]) ∧ F.cells.length = 70 ∧ (∀ v ∈ F.cells, v.oneCell' = true) ∧ F.cells[37]? = some (.slice xb 144 cb) ∧ (∀ V, Below w'.heap.size w' V → RingAt V w.heap.size H 0 seed1 b (newM 0 seed1) v (newD 0) → Calls Tryz.prog 21 #[.pointer (some ⟨H, 0, none⟩), .agg F.cells.toArray] V fun e w'' => e = .returned (.tuple #[.agg evL.cells.toArray, .int .i64 0]) ∧ Below V.heap.size V w'') ∧ Below W.heap.size W w') := ⟨fun W H b v hbW hR => by
    refine (Seal_any w.heap.size H 0 seed1 b (newM 0 seed1) v (newD 0) W 1 none 0 0 [] 0 0 (List.replicate 32 0) evL hR (HKT.out W hbW).1 (HKT.out W hbW).2 (wraps_nilL W) rfl evL_in ⟨⟨by omega, by omega⟩, by omega, by omega⟩ ⟨by omega, by omega⟩).mono ?_
    rintro e w' ⟨hs | hs, hb'⟩
    · exact absurd h0 hs.1
    · obtain ⟨_, F, k, hk, he, hf, fa, fn, fea, fes, fp, fm⟩ := hs
      obtain ⟨xw, cw, xb, cb, hq⟩ := hf.at_
      have hq0 := hq w' (fun _ _ _ => rfl)
      obtain ⟨f70, _, _, _, _, _, f37, _⟩ := fr_parts F hq0.prev hq0.mac
      rw [hq0.body_] at f37
      have hIn : F.In := ⟨by rw [fa]; exact ⟨by decide, by decide⟩, by rw [fn]; exact ⟨by decide, by decide⟩, by rw [fea]; exact ⟨by decide, by decide⟩, by rw [fes]; exact ⟨by decide, by decide⟩, fun x hx => by
        rw [fp] at hx
        rw [(List.mem_replicate.1 hx).2]; exact ⟨by decide, by decide⟩, fun x hx => by
        rw [fm] at hx
        exact ftagL_in _ _ _ _ x hx⟩
      have hkk : newM 0 seed1 F.ea F.es = some k := by rw [fea, fes]; exact hk
      rw [hk] at h0
      obtain ⟨o1, o2, o3⟩ := sealed_opens (ws := []) evL_in h0 fa fn fm
      refine ⟨F, xb, cb, he, f70, fun v hv => ?_, f37, fun V hbV hRV => ?_, hb'⟩
      · simp only [Fr.cells, dotC, List.mem_append, List.mem_cons, List.not_mem_nil, or_false, List.mem_map, hq0.wraps, hq0.body_] at hv
        rcases hv with ((((rfl | rfl) | rfl | rfl) | ⟨x, _, rfl⟩) | rfl | rfl) | ⟨x, _, rfl⟩ <;> rfl
      · have hwV : Below w.heap.size w V := (hbW.trans (hb'.mono hbW.size)).trans (hbV.mono (hbW.trans (hb'.mono hbW.size)).size)
        refine (Open_anyF w.heap.size H 0 seed1 b (newM 0 seed1) v (newD 0) V F xw 0 cw [] xb 144 cb (sbodyL k F [] evL) hRV (HKT.out V hwV).1 (HKT.out V hwV).2 (hq0.below hbV) hIn (by simp) (sbodyL_in hIn (by simp) (by decide) evL_in)).mono ?_
        rintro e2 w2 ⟨ho | ho, hb2⟩
        · exfalso
          refine ho.1 ?_
          unfold openE
          rw [if_pos o1, hkk]
          exact o2
        · obtain ⟨_, k2, hk2, he2⟩ := ho
          rw [hkk] at hk2
          obtain rfl := Option.some.inj hk2
          rw [o3] at he2
          exact ⟨he2, hb2⟩⟩
  have iF70 : (Tryz.prog.info? 43).map (·.size) = some 70 := sizeFrame
  have iE := sizeEvZ evL rfl
  have h1E := ev_one evL
  have uF := Tryz.underlying43
  have HEC : Veil (∀ W g, CellsAt W g 33 evL.cells → W.cell? ⟨g, 15, none⟩ = some (.int .u8 1)) := ⟨fun W g h => (h.cell 15).trans rfl⟩
  have hlE : evZ.cells.length = evL.cells.length := rfl
  generalize evL.cells = EL at HB5 HSL iE h1E HEC hlE
  generalize row .u8 seed1 = SD at hnew HB1
  generalize row .u8 (List.replicate 32 0) = PZ at HB2 HSL
  clear hKT hBT hk0 h0 HKT
  go_enter Tryz.func19, Tryz.ntmps19
  go_upto_region 2 with (first
    | (refine wpList_bldx rfl 23 #[(0, .const (.int .u8 1))] rfl #[(0, .int .u8 1)] (by first | rfl | kernel_rfl) _ (HB1.out _) ?_)
    | (go_at_call 27; refine hnew.mono ?_; rintro e w1 ⟨H, b, v, rfl, hR1, hb1⟩; clear hnew))
  have hsl := HSL.out w1 H b v hb1 hR1
  have HFAR : Veil (∀ V, Below w1.heap.size w1 V → Below w.heap.size w V ∧ RingAt V w.heap.size H 0 seed1 b (newM 0 seed1) v (newD 0)) := ⟨fun V h => ⟨hb1.trans (h.mono hb1.size), hR1.far h⟩⟩
  clear HSL hR1 hb1
  go_upto_region 3 with (first
    | (refine wpList_bldx rfl 23 #[] rfl #[] (by first | rfl | kernel_rfl) _ (HB2.out _) ?_)
    | (refine wpList_bldx rfl 26 #[] rfl #[] (by first | rfl | kernel_rfl) _ (HB3.out _) ?_)
    | (refine wpList_bldx rfl 26 #[(1, .const (.int .u32 1))] rfl #[(1, .int .u32 1)] (by first | rfl | kernel_rfl) _ (HB4.out _) ?_)
    | (refine wpList_bldx rfl 33 _ rfl #[(0, .agg (dotC 0 1).toArray), (2, .int .u8 3), (6, .int .u8 1), (7, .int .u8 1)] (by first | rfl | kernel_rfl) _ (HB5.out _) ?_)
    | (go_at_call 17; refine hsl.mono ?_; rintro e w2 ⟨F, xb, cb, rfl, hFl, h1F, h37, hop, hb2⟩; have hG2 := CellsAt.new w2 43 Z; have HOP := Veil.mk hop; have H37 := Veil.mk h37; clear hsl hop h37)
    | (refine wpList_stv rfl 43 _ _ rfl _ rfl rfl hG2 (by rw [hFl]; exact iF70) (by rw [hZl, hFl]) h1F ?_))
  have hb3 : Below w2.heap.size w2 ((w2.alloc (.cells Z.toArray 43)).setRow w2.heap.size F.cells.toArray) := below_setRow ((Below.refl _ _).alloc (Nat.le_refl _) _) (Nat.le_refl _) _
  have hb13 := hb2.trans (hb3.mono hb2.size)
  refine forget (p := fun y => Code.wp _ _ _ _ y) (fun W => Below w2.heap.size w2 W ∧ Below w1.heap.size w1 W ∧ CellsAt W w2.heap.size 43 F.cells) ⟨hb3, hb13, hG2.setRow _⟩ ?_
  have hs2 := hb2.size
  clear hb3 hb13 hG2 hb2 hzv hz1
  obtain ⟨G, hGe⟩ : ∃ q, w2.heap.size = q := ⟨_, rfl⟩
  rw [hGe]
  have HGE := Veil.mk hGe
  clear hGe
  rintro W ⟨hbG, hbW, hG⟩
  obtain ⟨hwW, hRW⟩ := HFAR.out W hbW
  have hop := HOP.out W (by rw [HGE.out]; exact hbG) hRW
  have rG := hG.wholeM
  have iF : (Tryz.prog.info? 43).map (·.size) = some F.cells.length := by rw [hFl]; exact iF70
  clear HOP hRW
  go_upto_region 4 with (first
    | (refine wpList_ldv rfl 43 _ rfl _ _ rfl F.cells rG uF rfl iF ?_)
    | (go_at_call 21; refine hop.mono ?_; rintro e w4 ⟨rfl, hb4⟩; have hA4 := CellsAt.new w4 33 evZ.cells; clear hop)
    | (refine wpList_stv rfl 33 _ _ rfl _ rfl rfl hA4 iE hlE h1E ?_))
  have hb5 : Below w4.heap.size w4 ((w4.alloc (.cells evZ.cells.toArray 33)).setRow w4.heap.size EL.toArray) := below_setRow ((Below.refl _ _).alloc (Nat.le_refl _) _) (Nat.le_refl _) _
  have hb45 := hb4.trans (hb5.mono hb4.size)
  refine forget (p := fun y => Code.wp _ _ _ _ y) (fun V => Below w.heap.size w V ∧ CellsAt V G 43 F.cells ∧ CellsAt V w4.heap.size 33 EL) ⟨hwW.trans (hb45.mono hwW.size), hG.farM hb45, hA4.setRow _⟩ ?_
  clear hb45 hb5 hA4 hb4 hwW hbW hbG hG rG
  rintro V ⟨hb, hG, hE⟩
  have c15 := HEC.out V _ hE
  have c37 : V.cell? ⟨G, 37, none⟩ = some (.slice xb 144 cb) := by rw [hG.cell, H37.out]
  go_wp2
  go_ret
  exact ⟨rfl, hb⟩
end Go.Proofs.YtfainlfiphdaeaaGreatDoor

namespace Go.Proofs.YtfainlfiphdaeaaGreatDoor
open Go.RowKit
set_option maxRecDepth 20000
set_option linter.unusedSimpArgs false
/-- Are rows of wraps the same? -/
noncomputable def wsB (a b : List Wp) : Bool := open Classical in decide (a = b)
theorem wsB_true {a b : List Wp} (h : a = b) : wsB a b = true := by unfold wsB; simp [h]
theorem wsB_false {a b : List Wp} (h : a ≠ b) : wsB a b = false := by unfold wsB; simp [h]
theorem take_differ {a b : List Wp} {j : Nat} (h1 : j < a.length) (h2 : j < b.length) (h : a[j] ≠ b[j]) : a ≠ b := fun e => by subst e; exact h rfl
theorem take_more {a b : List Wp} {j : Nat} (h1 : j < a.length) (h2 : j < b.length) (h : a[j] = b[j]) (h0 : a.take j = b.take j) : a.take (j + 1) = b.take (j + 1) := by
  rw [List.take_succ_eq_append_getElem h1, List.take_succ_eq_append_getElem h2, h0, h]
end Go.Proofs.YtfainlfiphdaeaaGreatDoor

namespace Go.Proofs.YtfainlfiphdaeaaGreatDoor
open Go.RowKit
set_option maxRecDepth 20000
set_option linter.unusedSimpArgs false

/-- Are frames the same? -/
noncomputable def sameB (F : Fr) (ws : List Wp) (body : List Int) (G : Fr) (vs : List Wp) (bp : List Int) : Bool :=
  (F.author == G.author) && (F.number == G.number) && ((F.ea == G.ea) && (F.es == G.es)) && (F.prev == G.prev) && wsB ws vs && ((strOfNums body).toList == (strOfNums bp).toList) && (F.mac == G.mac)
theorem sameB_refl (F : Fr) (ws : List Wp) (body : List Int) : sameB F ws body F ws body = true := by unfold sameB; simp [wsB_true]
theorem wsB_comm (a b : List Wp) : wsB a b = wsB b a := by
  by_cases h : a = b
  · rw [wsB_true h, wsB_true h.symm]
  · rw [wsB_false h, wsB_false (fun e => h e.symm)]
theorem beqInt_comm (a b : Int) : (a == b) = (b == a) := BEq.comm
theorem beqList_comm (a b : List Int) : (a == b) = (b == a) := BEq.comm
theorem beqBytes_comm (a b : List UInt8) : (a == b) = (b == a) := BEq.comm
theorem sameB_comm (F : Fr) (ws : List Wp) (body : List Int) (G : Fr) (vs : List Wp) (bp : List Int) : sameB F ws body G vs bp = sameB G vs bp F ws body := by
  unfold sameB
  rw [beqInt_comm F.author, beqInt_comm F.number, beqInt_comm F.ea, beqInt_comm F.es, beqList_comm F.prev, beqList_comm F.mac, wsB_comm ws, beqBytes_comm (strOfNums body).toList]
end Go.Proofs.YtfainlfiphdaeaaGreatDoor
