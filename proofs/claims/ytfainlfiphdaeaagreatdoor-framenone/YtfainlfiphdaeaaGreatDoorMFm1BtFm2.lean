/- frame: 'need', 'pass', 'got', 'mayNumber', 'fits', 'tagOf'. Structs all of whose fields are given: what is built is the parts, one behind the other; nothing of one program. frame: 'got' of an event, 'mayNumber', 'fits'. -/
import Derived.Test.YtfainlfiphdaeaaGreatDoorMGate4KfzKf
import Derived.Test.YtfainlfiphdaeaaGreatDoorMWo2Cv1Cv3
import Derived.Test.YtfainlfiphdaeaaGreatDoorMEvlCv4Cv5
import Derived.Test.YtfainlfiphdaeaaGreatDoorMGdRd1Rd2
import Derived.Test.YtfainlfiphdaeaaGreatDoorMGxKy2Ky3
import Derived.Test.YtfainlfiphdaeaaGreatDoorMBgKy4Ky5
import Derived.Test.YtfainlfiphdaeaaGreatDoorMRe6PureLeaf
namespace Go.Proofs.YtfainlfiphdaeaaGreatDoor
open Go.RowKit
set_option maxRecDepth 20000
set_option linter.unusedSimpArgs false

/-- What a step gives up with. -/
def stopP (why : Int) : PanicEntry := { v := .iface 140 (.agg #[.int .i64 why]), recovered := false }
set_option maxHeartbeats 1000000 in
theorem fneed_ok (n : Int) (w : World) : Calls Tryz.prog 43 #[.bool true, .int .i64 n] w fun e w' => (∃ r, e = .returned r) ∧ w = w' := by
  go_enter Tryz.func43, Tryz.ntmps43
  go_wp2
  go_end0
  exact ⟨⟨_, rfl⟩, rfl⟩
theorem stop_built (n : Int) (wx : World) : (Instr.build 140 #[(0, .int .i64 n)]).run Tryz.prog wx = .ok (.agg #[.int .i64 n]) wx := run_build wx _ _ _ (by kernel_rfl)
set_option maxHeartbeats 1000000 in
theorem fneed_bad (n : Int) (w : World) : Calls Tryz.prog 43 #[.bool false, .int .i64 n] w fun e w' => e = .panicked [stopP n] ∧ w = w' := by
  go_enter Tryz.func43, Tryz.ntmps43
  go_wp2_with (refine wpList_bldx rfl 140 _ rfl #[(0, .int .i64 n)] (by first | rfl | kernel_rfl) _ (stop_built n _) ?_)
  exact bodyPost_gone ⟨rfl, rfl⟩
set_option maxHeartbeats 1000000 in
theorem fpass_ok (w : World) : Calls Tryz.prog 67 #[.int .i64 0] w fun e w' => (∃ r, e = .returned r) ∧ w = w' := by
  have hn := fneed_ok 0 w
  go_enter Tryz.func67, Tryz.ntmps67
  go_wp2_with (go_at_call 43; refine hn.mono ?_; rintro e w1 ⟨⟨r, rfl⟩, rfl⟩)
  go_end0
  exact ⟨⟨_, rfl⟩, rfl⟩
set_option maxHeartbeats 1000000 in
theorem fpass_bad (n : Int) (hn0 : n ≠ 0) (w : World) : Calls Tryz.prog 67 #[.int .i64 n] w fun e w' => e = .panicked [stopP n] ∧ w = w' := by
  have hn := fneed_bad n w
  have hne : (n == 0) = false := by simpa using hn0
  clear hn0
  go_enter Tryz.func67, Tryz.ntmps67
  go_wp2_with (go_at_call 43; refine hn.mono ?_; rintro e w1 ⟨rfl, rfl⟩)
  exact bodyPost_gone ⟨rfl, rfl⟩
set_option maxHeartbeats 1000000 in
theorem gotB_ok (v : Value) (w : World) : Calls Tryz.prog 50 #[v, .int .i64 0] w fun e w' => e = .returned v ∧ w = w' := by
  have hn := fpass_ok w
  go_enter Tryz.func50, Tryz.ntmps50
  go_wp2_with (go_at_call 67; refine hn.mono ?_; rintro e w1 ⟨⟨r, rfl⟩, rfl⟩)
  go_ret
  exact ⟨rfl, rfl⟩
set_option maxHeartbeats 1000000 in
theorem gotB_bad (v : Value) (n : Int) (hn0 : n ≠ 0) (w : World) : Calls Tryz.prog 50 #[v, .int .i64 n] w fun e w' => e = .panicked [stopP n] ∧ w = w' := by
  have hn := fpass_bad n hn0 w
  clear hn0
  go_enter Tryz.func50, Tryz.ntmps50
  go_wp2_with (go_at_call 67; refine hn.mono ?_; rintro e w1 ⟨rfl, rfl⟩)
  exact bodyPost_gone ⟨rfl, rfl⟩
set_option maxHeartbeats 2000000 in
theorem gotK_ok (k : List Int) (hk : k.length = 32) (w : World) : Calls Tryz.prog 48 #[.agg (row .u8 k), .int .i64 0] w fun e w' => e = .returned (.agg (row .u8 k)) ∧ Below w.heap.size w w' := by
  obtain ⟨Z, hZl, hZ⟩ : ∃ Z : List Int, Z.length = 32 ∧ Z = List.replicate 32 0 := ⟨_, rfl, rfl⟩
  have hzv : ∀ wx, (zeroValue 23).run Tryz.prog wx = .ok (.agg (row .u8 Z)) wx := fun wx => by rw [hZ]; kernel_rfl
  have hk0 := (Holds.new w .u8 23 k).alloc (.cells (row .u8 Z) 23)
  have hz0 := Holds.new (w.alloc (.cells (row .u8 k) 23)) .u8 23 Z
  rw [World.size_alloc] at hz0
  have hB0 : Below w.heap.size w ((w.alloc (.cells (row .u8 k) 23)).alloc (.cells (row .u8 Z) 23)) := ((Below.refl _ _).alloc (Nat.le_refl _) _).alloc (by simp) _
  have HP := Veil.mk fpass_ok
  clear hZ
  have hz1 : ¬ (row .u8 Z) = #[] := by intro h; have := congrArg Array.size h; rw [row_size] at this; simp at this; rw [this] at hZl; simp at hZl
  go_enter Tryz.func48, Tryz.ntmps48
  go_upto_region 1 with fail
  refine forget (p := fun y => Code.wp _ _ _ _ y) (fun W => Below w.heap.size w W ∧ Holds W w.heap.size .u8 23 k ∧ Holds W (w.heap.size + 1) .u8 23 Z) ⟨hB0, hk0, hz0⟩ ?_
  clear hB0 hk0 hz0 hzv hz1
  rintro W ⟨hB, hK, hZ⟩
  have hn := HP.out W
  go_wp2_with (first
    | (go_at_call 67; refine hn.mono ?_; rintro e w1 ⟨⟨r, rfl⟩, rfl⟩; clear hn)
    | (refine wpList_ld rfl 23 _ rfl _ rfl hK Tryz.underlying23 sizeKeyD hk ?_)
    | (refine wpList_st rfl 23 _ _ rfl _ rfl rfl hZ (by rw [hk]; exact sizeKeyD) (by rw [hZl, hk]) ?_))
  refine bodyPost_ret (results_holds (Tryz.results48) _ rfl (hZ.setRow _) Tryz.underlying23 sizeKeyD hk) rfl ⟨rfl, ?_⟩
  exact below_setRow hB (by omega) _
end Go.Proofs.YtfainlfiphdaeaaGreatDoor

namespace Go.Proofs.YtfainlfiphdaeaaGreatDoor
open Go.RowKit
set_option maxRecDepth 20000
set_option linter.unusedSimpArgs false

/-- The parts L (the field's number, its value, its cells) lie one behind the other from off on. -/
def Tiles (place : Nat → Option (Nat × Nat)) : Nat → List (Nat × Value × List Value) → Prop
  | _, [] => True
  | off, x :: L => place x.1 = some (off, x.2.2.length) ∧ x.2.1.cells = x.2.2.toArray ∧ Tiles place (off + x.2.2.length) L
def tileL (L : List (Nat × Value × List Value)) : List Value := (L.map (·.2.2)).flatten
theorem tileL_cons (x : Nat × Value × List Value) (L : List (Nat × Value × List Value)) : tileL (x :: L) = x.2.2 ++ tileL L := by simp [tileL]
theorem fill_tile (place : Nat → Option (Nat × Nat)) : ∀ (L : List (Nat × Value × List Value)) (done tail : List Value), Tiles place done.length L → tail.length = (tileL L).length →
    Instr.fill place (done ++ tail).toArray (L.map fun x => (x.1, x.2.1)) = some (done ++ tileL L).toArray
  | [], done, tail, _, hl => by
    have : tail = [] := List.length_eq_zero_iff.1 (by simpa [tileL] using hl)
    rw [this]; simp [Instr.fill, tileL]
  | x :: L, done, tail, hT, hl => by
    obtain ⟨h1, h2, h3⟩ := hT
    rw [tileL_cons, List.length_append] at hl
    rw [List.map_cons, fill_cons place (done ++ tail) x.2.2 x.1 done.length x.2.2.length x.2.1 _ h1 h2 rfl (by rw [List.length_append]; omega)]
    rw [List.take_left, List.drop_length_add_append, fill_tile place L (done ++ x.2.2) (tail.drop x.2.2.length) (by rw [List.length_append]; exact h3) (by rw [List.length_drop]; omega), tileL_cons, List.append_assoc]
theorem built_tile {P : Program} {t : TypeId} {fields : Array Field} {n : Nat} {places : List (Nat × Nat)} (hz : (P.info? t).map (fun i => i.zero.map (·.cells.size)) = some (some n)) (hu : P.underlying t = some (.struct fields)) (hp : fields.toList.mapM (fun f => (P.info? f.type).map fun i => (f.offset, i.size)) = some places)
    (L : List (Nat × Value × List Value)) (hT : Tiles (places.toArray[·]?) 0 L) (hn : n = (tileL L).length) (w : World) : (Instr.build t (L.map fun x => (x.1, x.2.1)).toArray).run P w = .ok (.agg (tileL L).toArray) w := by
  refine run_build w _ _ _ ?_
  unfold Program.built
  cases hi : P.info? t with
  | none => simp [hi] at hz
  | some it =>
    cases hq : it.zero with
    | none => simp [hi, hq] at hz
    | some zv =>
      have hs : zv.cells.size = n := by simpa [hi, hq] using hz
      simp only [hu, hp, hq]
      have := fill_tile (places.toArray[·]?) L [] zv.cells.toList hT (by rw [Array.length_toList, hs, hn])
      rw [List.nil_append, List.nil_append] at this
      simpa using this
theorem execBuildT {P : Program} {o : Oper} {ev : Operand → Value} {w : World} {v : Value} (t : TypeId) (parts : Array (Nat × Operand)) (ho : o.op = .build t parts) (vs : Array (Nat × Value)) (hv : (parts.map fun (i, x) => (i, ev x)) = vs) (h : (Instr.build t vs).run P w = .ok v w) :
    (execOp ev o).run P w = .ok (.value v) w := by
  unfold execOp
  simp only [ho, hv, Sem.run_bind, Sem.run_pure, Result.andThen_ok, h]
theorem wpList_bldgT {P : Program} {ops : Array Oper} {rest : List Oper} {o : Oper} {a : Act} {w : World} {Q : Exit → Act → World → Prop} (hw : Region.wanted o (yielded ops a.tmps) = true) (t : TypeId) (parts : Array (Nat × Operand)) (ho : o.op = .build t parts) (vals : Array (Nat × Value)) (hv : (parts.map fun (i, x) => (i, a.eval x)) = vals) (v : Value) (hrun : (Instr.build t vals).run P w = .ok v w)
    (h : wpList P ops Q rest (a.put o.dst v) w) : wpList P ops Q (o :: rest) a w :=
  wpList_step fun K hK => by
    rw [if_pos hw]
    exact wpx_bld t parts ho vals hv v hrun (hK _ _ h)
theorem wpList_eqgT {P : Program} {ops : Array Oper} {rest : List Oper} {o : Oper} {a : Act} {w : World} {Q : Exit → Act → World → Prop} (hw : Region.wanted o (yielded ops a.tmps) = true) (op : BinOp) (t u : TypeId) (x y : Operand) (ho : o.op = .binOp op t x y u) (xv yv v : Value) (hx : a.eval x = xv) (hy : a.eval y = yv) (hgd : (eqGuard op t x y xv yv).run P w = .ok () w) (hrun : (binOp op t xv yv).run P w = .ok v w)
    (h : wpList P ops Q rest (a.put o.dst v) w) : wpList P ops Q (o :: rest) a w :=
  wpList_step fun K hK => by
    rw [if_pos hw]
    unfold Oper.wp execOp
    simp only [ho, hx, hy, Sem.run_bind, hgd, hrun, Result.andThen_ok, Sem.run_pure]
    exact hK _ _ h
end Go.Proofs.YtfainlfiphdaeaaGreatDoor

namespace Go.Proofs.YtfainlfiphdaeaaGreatDoor
open Go.RowKit
set_option maxRecDepth 20000
set_option linter.unusedSimpArgs false

set_option maxHeartbeats 2000000 in
theorem gotE_ok (E : Ev) (hE : E.past.length = 8) (w : World) : Calls Tryz.prog 69 #[.agg E.cells.toArray, .int .i64 0] w fun e w' => e = .returned (.agg E.cells.toArray) ∧ Below w.heap.size w w' := by
  have hk0 := (CellsAt.new w 33 E.cells).alloc (.cells evZ.cells.toArray 33)
  have hz0 := CellsAt.new (w.alloc (.cells E.cells.toArray 33)) 33 evZ.cells
  rw [World.size_alloc] at hz0
  have hB0 : Below w.heap.size w ((w.alloc (.cells E.cells.toArray 33)).alloc (.cells evZ.cells.toArray 33)) := ((Below.refl _ _).alloc (Nat.le_refl _) _).alloc (by simp) _
  have HP := Veil.mk fpass_ok
  have hiE := sizeEvZ E hE
  have h1E := ev_one E
  have hlE : evZ.cells.length = E.cells.length := by rw [ev_len E hE]; rfl
  have HE := Veil.mk hE
  clear hE
  generalize E.cells = EC at hk0 hz0 hB0 hiE h1E hlE ⊢
  go_enter Tryz.func69, Tryz.ntmps69
  go_upto_region 1 with fail
  refine forget (p := fun y => Code.wp _ _ _ _ y) (fun W => Below w.heap.size w W ∧ CellsAt W w.heap.size 33 EC ∧ CellsAt W (w.heap.size + 1) 33 evZ.cells) ⟨hB0, hk0, hz0⟩ ?_
  clear hB0 hk0 hz0
  rintro W ⟨hB, hK, hZ⟩
  have hn := HP.out W
  have rE := hK.wholeM
  go_wp2_with (first
    | (go_at_call 67; refine hn.mono ?_; rintro e w1 ⟨⟨r, rfl⟩, rfl⟩; clear hn)
    | (refine wpList_ldv rfl 33 _ rfl _ _ rfl EC rE Tryz.underlying33 rfl hiE ?_)
    | (refine wpList_stv rfl 33 _ _ rfl _ rfl rfl hZ hiE hlE h1E ?_))
  refine bodyPost_ret (results_cells (Tryz.results69) _ rfl (hZ.setRow _) Tryz.underlying33 rfl hiE) rfl ⟨rfl, ?_⟩
  exact below_setRow hB (by omega) _
set_option maxHeartbeats 2000000 in
theorem gotE_bad (E : Ev) (n : Int) (hn0 : n ≠ 0) (w : World) : Calls Tryz.prog 69 #[.agg E.cells.toArray, .int .i64 n] w fun e w' => e = .panicked [stopP n] ∧ Below w.heap.size w w' := by
  have hB0 : Below w.heap.size w ((w.alloc (.cells E.cells.toArray 33)).alloc (.cells evZ.cells.toArray 33)) := ((Below.refl _ _).alloc (Nat.le_refl _) _).alloc (by simp) _
  have HP := Veil.mk (fpass_bad n hn0)
  clear hn0
  generalize E.cells = EC at hB0 ⊢
  go_enter Tryz.func69, Tryz.ntmps69
  go_upto_region 1 with fail
  refine forget (p := fun y => Code.wp _ _ _ _ y) (fun W => Below w.heap.size w W) hB0 ?_
  clear hB0
  rintro W hB
  have hn := HP.out W
  go_wp2_with (go_at_call 67; refine hn.mono ?_; rintro e w1 ⟨rfl, rfl⟩)
  exact bodyPost_gone ⟨rfl, hB⟩
set_option maxHeartbeats 2000000 in
theorem gotK_bad (k : List Int) (n : Int) (hn0 : n ≠ 0) (w : World) : Calls Tryz.prog 48 #[.agg (row .u8 k), .int .i64 n] w fun e w' => e = .panicked [stopP n] ∧ Below w.heap.size w w' := by
  obtain ⟨Z, hZl, hZ⟩ : ∃ Z : List Int, Z.length = 32 ∧ Z = List.replicate 32 0 := ⟨_, rfl, rfl⟩
  have hzv : ∀ wx, (zeroValue 23).run Tryz.prog wx = .ok (.agg (row .u8 Z)) wx := fun wx => by rw [hZ]; kernel_rfl
  have hB0 : Below w.heap.size w ((w.alloc (.cells (row .u8 k) 23)).alloc (.cells (row .u8 Z) 23)) := ((Below.refl _ _).alloc (Nat.le_refl _) _).alloc (by simp) _
  have HP := Veil.mk (fpass_bad n hn0)
  have hz1 : ¬ (row .u8 Z) = #[] := by intro h; have := congrArg Array.size h; rw [row_size] at this; simp at this; rw [this] at hZl; simp at hZl
  clear hZ hn0
  go_enter Tryz.func48, Tryz.ntmps48
  go_upto_region 1 with fail
  refine forget (p := fun y => Code.wp _ _ _ _ y) (fun W => Below w.heap.size w W) hB0 ?_
  clear hB0 hzv hz1
  rintro W hB
  have hn := HP.out W
  go_wp2_with (go_at_call 67; refine hn.mono ?_; rintro e w1 ⟨rfl, rfl⟩)
  exact bodyPost_gone ⟨rfl, hB⟩
/-- A number that a frame may have. -/
def mayB (n : Int) : Bool := decide (1 ≤ n) && decide (n ≤ 256)
set_option maxHeartbeats 1000000 in
theorem mayNum_any (n : Int) (w : World) : Calls Tryz.prog 44 #[.int .u32 n] w fun e w' => e = .returned (.bool (mayB n)) ∧ w = w' := by
  by_cases h1 : n ≥ 1
  · by_cases h2 : n ≤ 256
    · have HR : Veil (mayB n = true) := ⟨by unfold mayB; have : 1 ≤ n := h1; simp [this, h2]⟩
      go_enter Tryz.func44, Tryz.ntmps44
      go_wp2
      go_ret
      exact ⟨ret_bC HR.out.symm, rfl⟩
    · have HR : Veil (mayB n = false) := ⟨by unfold mayB; simp [h2]⟩
      go_enter Tryz.func44, Tryz.ntmps44
      go_wp2
      go_ret
      exact ⟨ret_bC HR.out.symm, rfl⟩
  · have HR : Veil (mayB n = false) := ⟨by unfold mayB; have : ¬ 1 ≤ n := h1; simp [this]⟩
    go_enter Tryz.func44, Tryz.ntmps44
    go_wp2
    go_ret
    exact ⟨ret_bC HR.out.symm, rfl⟩
/-- Is an event right, and the one that a frame of its author and number holds? -/
def fitsB (E : Ev) (F : Fr) : Bool := rightB E && ((E.da == F.author) && (E.ds == F.number))
theorem dot_built (a n : Int) (wx : World) : (Instr.build 26 #[(0, .int .u8 a), (1, .int .u32 n)]).run Tryz.prog wx = .ok (.agg (dotC a n).toArray) wx := run_build wx _ _ _ (by kernel_rfl)
set_option maxHeartbeats 4000000 in
theorem fits_any (E : Ev) (F : Fr) (hE : E.In) (hp : F.prev.length = 32) (hm : F.mac.length = 32) (w : World) :
    Calls Tryz.prog 47 #[.agg E.cells.toArray, .agg F.cells.toArray] w fun e w' => e = .returned (.bool (fitsB E F)) ∧ Below w.heap.size w w' := by
  have hA0 := (CellsAt.new w 33 E.cells).alloc (.cells F.cells.toArray 43)
  have hF0 := CellsAt.new (w.alloc (.cells E.cells.toArray 33)) 43 F.cells
  rw [World.size_alloc] at hF0
  have hB0 : Below w.heap.size w ((w.alloc (.cells E.cells.toArray 33)).alloc (.cells F.cells.toArray 43)) := ((Below.refl _ _).alloc (Nat.le_refl _) _).alloc (by simp) _
  have HR : Veil (∀ W, Calls Tryz.prog 100 #[.agg E.cells.toArray] W fun x w' => x = .returned (.bool (rightB E)) ∧ Below W.heap.size W w') := ⟨fun W => cright_any E W hE.plen hE.da.1 hE.ds.1 (by have := hE.ds.2; omega) hE.pa.1 hE.ps.1⟩
  have hiE := sizeEvZ E hE.plen
  have HF : Veil (∀ W, CellsAt W w.heap.size 33 E.cells → CellsAt W (w.heap.size + 1) 43 F.cells → W.rangeAt w.heap.size 0 (dotC E.da E.ds) ∧ W.cell? ⟨w.heap.size + 1, 0, none⟩ = some (.int .u8 F.author) ∧ W.cell? ⟨w.heap.size + 1, 1, none⟩ = some (.int .u32 F.number)) := ⟨fun W h1 h2 => by
    obtain ⟨_, q0, q1, _⟩ := fr_parts F hp hm
    refine ⟨?_, (h2.cell 0).trans q0, (h2.cell 1).trans q1⟩
    have := h1.range 0 2
    rw [ev_dot E hE.plen] at this
    exact this⟩
  have HEQ : Veil (∀ wx, (binOp .eql 26 (.agg (dotC E.da E.ds).toArray) (.agg (dotC F.author F.number).toArray)).run Tryz.prog wx = .ok (.bool ((E.da == F.author) && (E.ds == F.number))) wx) := ⟨fun wx => dot_eql E.da E.ds F.author F.number wx⟩
  have HBD := Veil.mk (dot_built F.author F.number)
  have HH : Veil (fitsB E F = (rightB E && ((E.da == F.author) && (E.ds == F.number)))) := ⟨rfl⟩
  have iD : (Tryz.prog.info? 26).map (·.size) = some (dotC E.da E.ds).length := sizeDot
  clear hE hp hm
  generalize fitsB E F = FB at HH ⊢
  generalize ((E.da == F.author) && (E.ds == F.number)) = eb at HEQ HH
  generalize rightB E = rb at HR HH
  generalize dotC E.da E.ds = DE at HF HEQ iD
  generalize dotC F.author F.number = DF at HEQ HBD
  generalize E.cells = EC at hA0 hF0 hB0 HR HF hiE ⊢
  generalize F.cells = FC at hA0 hF0 hB0 HF ⊢
  generalize F.author = FA at HF HBD
  generalize F.number = FN at HF HBD
  have uD := Tryz.underlying26
  have uE := Tryz.underlying33
  go_enter Tryz.func47, Tryz.ntmps47
  go_upto_region 1 with fail
  refine forget (p := fun y => Code.wp _ _ _ _ y) (fun W => Below w.heap.size w W ∧ CellsAt W w.heap.size 33 EC ∧ CellsAt W (w.heap.size + 1) 43 FC) ⟨hB0, hA0, hF0⟩ ?_
  clear hB0 hA0 hF0
  rintro W ⟨hB, hA, hF⟩
  have hr := HR.out W
  have rE := hA.wholeM
  have heq := HEQ.out
  cases rb
  · clear heq
    go_wp2_with (first
      | (refine wpList_ldv rfl 33 _ rfl _ _ rfl EC rE uE rfl hiE ?_)
      | (go_at_call 100; refine hr.mono ?_; rintro e w1 ⟨rfl, hb1⟩))
    go_ret
    exact ⟨by rw [HH.out]; rfl, hB.trans (hb1.mono hB.size)⟩
  · go_wp2_with (first
      | (refine wpList_ldv rfl 33 _ rfl _ _ rfl EC rE uE rfl hiE ?_)
      | (go_at_call 100; refine hr.mono ?_; rintro e w1 ⟨rfl, hb1⟩; obtain ⟨rD, c0, c1⟩ := HF.out w1 (hA.farM hb1) (hF.farM hb1); clear rE)
      | (refine wpList_ldgv (by kernel_rfl) 26 _ rfl w.heap.size 0 rfl DE rD uD rfl iD ?_)
      | (refine wpList_bldgT (by kernel_rfl) 26 _ rfl #[(0, .int .u8 FA), (1, .int .u32 FN)] (by first | rfl | kernel_rfl) _ (HBD.out _) ?_))
    go_ret
    exact ⟨by rw [HH.out]; cases eb <;> rfl, hB.trans (hb1.mono hB.size)⟩
end Go.Proofs.YtfainlfiphdaeaaGreatDoor
