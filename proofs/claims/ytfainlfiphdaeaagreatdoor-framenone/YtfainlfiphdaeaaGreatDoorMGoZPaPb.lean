/- What the rows on frame want: both tables, a world for the witness, an asking that came in. The number of five limbs behind a pointer: 'cut', 'carry', 'fold', 'add', as they are carried out. Bytes as numbers of five limbs: 'half', 'bare', 'numberOf'. -/
import Derived.Test.YtfainlfiphdaeaaGreatDoorMRe6PureLeaf
import Derived.Test.YtfainlfiphdaeaaGreatDoorMPureBPadSum
import Derived.Test.YtfainlfiphdaeaaGreatDoorMGate2EvmGb
import Derived.OwnWalk
import Derived.Laws.BitsLemmas
import Derived.Laws.Bits64
import Derived.Laws.Bits64b
namespace Go.Proofs.YtfainlfiphdaeaaGreatDoor
open Go.ChangeShapes Go.WideShapes Go.ChangeAt Go.RowKit
set_option maxRecDepth 20000
set_option linter.unusedSimpArgs false

theorem gTabK : Tryz.prog.globalNamed "escritoire/sha.roundWords" = some 1 := by kernel_rfl
theorem gTabKType : (Tryz.prog.globals[1]?).map (·.type) = some 207 := by kernel_rfl
theorem cellsK64 : Tryz.prog.cellsOf 207 = 64 := by kernel_rfl
theorem cellsKU32 : Tryz.prog.cellsOf 24 = 1 := by kernel_rfl
/-- What the row's list gives: both tables' cells. -/
theorem tables2 {W : World} (h : laidMetH Tryz.prog [("escritoire/sha.roundWords", Rows.laid_escritoire_sha_roundWords), ("escritoire/wire.buckets", Rows.laid_escritoire_wire_buckets)] W) : S.KTab W ∧ BTab W := by
  have ht : Lib.TabIs Tryz.prog W "escritoire/sha.roundWords" .u32 S.kTab := Lib.tabIs_of_head (rest := [("escritoire/wire.buckets", Rows.laid_escritoire_wire_buckets)]) gTabK gTabKType Tryz.underlying207 Tryz.underlying24 cellsKU32 cellsK64 h
  have hb : Lib.TabIs Tryz.prog W "escritoire/wire.buckets" .i64 bTab := by
    obtain ⟨ps, ⟨_, _, _, _, _, _, _, _, _, _, hrest, _⟩, _⟩ := h
    obtain ⟨g', t', cs, fuel, p, q, hg', ht', hvar, hd, _, _⟩ := hrest
    obtain rfl := Option.some.inj (gTab.symm.trans hg')
    obtain rfl := Option.some.inj (gTabType.symm.trans ht')
    unfold Lib.TabIs
    rw [hvar, ← Lib.cells_of_tab Tryz.underlying180 Tryz.underlying3 cellsI64 cells6 hd]
  refine ⟨fun j hj => ?_, fun j v hv => ?_⟩
  · have := ht.cell gTabK j hj
    rw [List.getD_eq_getElem?_getD] at this
    exact this
  · have hj : j < bTab.length := by have := (List.getElem?_eq_some_iff.1 hv).1; simpa using this
    have := hb.cell gTab j hj
    rw [Nat.zero_add, this, ← hv, List.getElem?_map, List.getD_eq_getElem?_getD, List.getElem?_eq_getElem hj]; rfl
def layB : Obj → Obj
  | .cells _ t frozen => .cells (row .i64 bTab) t frozen
  | o => o
def layK : Obj → Obj
  | .cells _ t frozen => .cells (row .u32 S.kTab) t frozen
  | o => o
/-- A world for the witness: the settled one, both tables holding what their initialisers lay. -/
noncomputable def laidWorld2 (os : Os) : World :=
  { World.holding Tryz.prog os ⟨#[], #[], []⟩ with heap := ((World.holding Tryz.prog os ⟨#[], #[], []⟩).heap.modify 0 layB).modify 1 layK }
theorem event_of_trodZ {H : Type} {enc : TypeId × Value → H} {W : World} {fuel : Nat} {l : List Value} {x : DataW H × List MemPlace} (h : DataW.trod enc Tryz.prog W 0 (fun _ => true) true fuel 33 l = some x) : ∃ E : Ev, l = E.cells ∧ E.In := by
  obtain ⟨xs, m, _, _, hl, hlen, hfd⟩ := DataW.trod_struct Tryz.underlying33 h
  have hc : Tryz.prog.cellsOf 33 = 17 := by kernel_rfl
  have h8 : Tryz.prog.cellsOf 5 = 1 := by kernel_rfl
  have hk1 : Tryz.prog.cellsOf 30 = 1 := by kernel_rfl
  have hr1 : Tryz.prog.cellsOf 31 = 1 := by kernel_rfl
  have hb1 : Tryz.prog.cellsOf 4 = 1 := by kernel_rfl
  have hd : Tryz.prog.cellsOf 26 = 2 := by kernel_rfl
  have hp : Tryz.prog.cellsOf 29 = 8 := by kernel_rfl
  rw [hc] at hl
  have g0 : DataW.trod enc Tryz.prog W 0 (fun _ => true) true m 26 (List.take (Tryz.prog.cellsOf 26) (List.drop 0 l)) = xs[0]? := hfd 0 _ rfl
  have g1 : DataW.trod enc Tryz.prog W 0 (fun _ => true) true m 29 (List.take (Tryz.prog.cellsOf 29) (List.drop 2 l)) = xs[1]? := hfd 1 _ rfl
  have g2 : DataW.trod enc Tryz.prog W 0 (fun _ => true) true m 30 (List.take (Tryz.prog.cellsOf 30) (List.drop 10 l)) = xs[2]? := hfd 2 _ rfl
  have g3 : DataW.trod enc Tryz.prog W 0 (fun _ => true) true m 26 (List.take (Tryz.prog.cellsOf 26) (List.drop 11 l)) = xs[3]? := hfd 3 _ rfl
  have g4 : DataW.trod enc Tryz.prog W 0 (fun _ => true) true m 4 (List.take (Tryz.prog.cellsOf 4) (List.drop 13 l)) = xs[4]? := hfd 4 _ rfl
  have g5 : DataW.trod enc Tryz.prog W 0 (fun _ => true) true m 5 (List.take (Tryz.prog.cellsOf 5) (List.drop 14 l)) = xs[5]? := hfd 5 _ rfl
  have g6 : DataW.trod enc Tryz.prog W 0 (fun _ => true) true m 5 (List.take (Tryz.prog.cellsOf 5) (List.drop 15 l)) = xs[6]? := hfd 6 _ rfl
  have g7 : DataW.trod enc Tryz.prog W 0 (fun _ => true) true m 31 (List.take (Tryz.prog.cellsOf 31) (List.drop 16 l)) = xs[7]? := hfd 7 _ rfl
  simp only [List.size_toArray, List.length_cons, List.length_nil, Nat.reduceAdd] at hlen
  rw [hd, List.getElem?_eq_getElem (by omega)] at g0 g3
  rw [hp, List.getElem?_eq_getElem (by omega)] at g1
  rw [hk1, List.getElem?_eq_getElem (by omega)] at g2
  rw [hb1, List.getElem?_eq_getElem (by omega)] at g4
  rw [h8, List.getElem?_eq_getElem (by omega)] at g5 g6
  rw [hr1, List.getElem?_eq_getElem (by omega)] at g7
  obtain ⟨da, dsq, ed, wd⟩ := dot_of_trod g0
  obtain ⟨pv, hpv, ep, wp⟩ := row_of_trod5 Tryz.underlying29 Tryz.underlying24 (by kernel_rfl) (by simp [hl]) g1
  obtain ⟨k, ek, _, wk⟩ := DataW.trod_int Tryz.underlying30 g2
  obtain ⟨pa, psq, ea, wa⟩ := dot_of_trod g3
  obtain ⟨b, eb, _⟩ := DataW.trod_bool Tryz.underlying4 g4
  obtain ⟨c, ec, _, wc⟩ := DataW.trod_int Tryz.underlying5 g5
  obtain ⟨o, eo, _, wo⟩ := DataW.trod_int Tryz.underlying5 g6
  obtain ⟨ro, er, _, wr⟩ := DataW.trod_int Tryz.underlying31 g7
  refine ⟨⟨da, dsq, pv, k, pa, psq, b, c, o, ro⟩, ?_, ⟨wd.1, wd.2, hpv, fun x hx => bounds_u32 (wp x hx), bounds_u8 wk, wa.1, wa.2, bounds_u8 wc, bounds_u8 wo, bounds_u8 wr⟩⟩
  show l = dotC da dsq ++ pv.map (Value.int .u32) ++ ([.int .u8 k] ++ dotC pa psq ++ [.bool b, .int .u8 c, .int .u8 o, .int .u8 ro])
  have e4 : ([.bool b, .int .u8 c, .int .u8 o, .int .u8 ro] : List Value) = [.bool b] ++ [.int .u8 c] ++ [.int .u8 o] ++ [.int .u8 ro] := rfl
  rw [e4, ← ed, ← ep, ← ek, ← ea, ← eb, ← ec, ← eo, ← er, List.drop_zero]
  have s : ∀ a n m : Nat, a + n = m → l.take a ++ (l.drop a).take n = l.take m := fun a n m h => by rw [← h, List.take_add]
  simp only [← List.append_assoc]
  rw [s 2 8 10 rfl, s 10 1 11 rfl, s 11 2 13 rfl, s 13 1 14 rfl, s 14 1 15 rfl, s 15 1 16 rfl, s 16 1 17 rfl, List.take_of_length_le (by omega)]
/-- An asking. -/
structure Aq where
  own : Int
  seed : List Int
  num : Int
  prev : List Int
  ea : Int
  es : Int
  wraps : Value
  E : Ev
def Aq.cells (q : Aq) : List Value := [.int .u8 q.own] ++ q.seed.map (Value.int .u8) ++ [.int .u32 q.num] ++ q.prev.map (Value.int .u8) ++ dotC q.ea q.es ++ [q.wraps] ++ q.E.cells
structure AqIn (W : World) (q : Aq) (xw : Option Addr) (lw cw : Nat) (ws : List Wp) : Prop where
  own : in8 q.own
  seed : q.seed.length = 32
  seedI : ∀ x ∈ q.seed, in8 x
  num : in32 q.num
  prev : q.prev.length = 32
  prevI : ∀ x ∈ q.prev, in8 x
  ea : in8 q.ea
  es : in32 q.es
  wraps : q.wraps = .slice xw lw cw
  hw : WrapsAt W xw lw cw ws
  inW : ∀ e ∈ ws, e.In
  E : q.E.In
theorem open_ask {H : Type} {enc : TypeId × Value → H} {W : World} {r : Reach} {base : Nat} {v : Value} {d : DataW H} {p : List MemPlace} (hv : Value.okWide Tryz.prog W r base 35 v) (h : DataW.Trod enc Tryz.prog W 0 (fun _ => true) true 35 v d p) :
    ∃ (q : Aq) (xw : Option Addr) (lw cw : Nat) (ws : List Wp), v = .agg q.cells.toArray ∧ AqIn W q xw lw cw ws := by
  simp only [Value.okWide, Tryz.underlying35] at hv
  obtain ⟨cs0, rfl, hsz, _⟩ := hv
  obtain ⟨fuel, hf⟩ := h
  obtain ⟨xs, m, _, _, hl, hlen, hfd⟩ := DataW.trod_struct Tryz.underlying35 hf
  simp only [Value.cells] at hfd hl
  obtain ⟨cs⟩ := cs0
  simp only at hfd hl
  have hc : Tryz.prog.cellsOf 35 = 86 := by kernel_rfl
  have h8 : Tryz.prog.cellsOf 5 = 1 := by kernel_rfl
  have h32 : Tryz.prog.cellsOf 24 = 1 := by kernel_rfl
  have hd : Tryz.prog.cellsOf 26 = 2 := by kernel_rfl
  have hk : Tryz.prog.cellsOf 23 = 32 := by kernel_rfl
  have hw : Tryz.prog.cellsOf 27 = 1 := by kernel_rfl
  have he : Tryz.prog.cellsOf 33 = 17 := by kernel_rfl
  rw [hc] at hl
  have g0 : DataW.trod enc Tryz.prog W 0 (fun _ => true) true m 5 (List.take (Tryz.prog.cellsOf 5) (List.drop 0 cs)) = xs[0]? := hfd 0 _ rfl
  have g1 : DataW.trod enc Tryz.prog W 0 (fun _ => true) true m 23 (List.take (Tryz.prog.cellsOf 23) (List.drop 1 cs)) = xs[1]? := hfd 1 _ rfl
  have g2 : DataW.trod enc Tryz.prog W 0 (fun _ => true) true m 24 (List.take (Tryz.prog.cellsOf 24) (List.drop 33 cs)) = xs[2]? := hfd 2 _ rfl
  have g3 : DataW.trod enc Tryz.prog W 0 (fun _ => true) true m 23 (List.take (Tryz.prog.cellsOf 23) (List.drop 34 cs)) = xs[3]? := hfd 3 _ rfl
  have g4 : DataW.trod enc Tryz.prog W 0 (fun _ => true) true m 26 (List.take (Tryz.prog.cellsOf 26) (List.drop 66 cs)) = xs[4]? := hfd 4 _ rfl
  have g5 : DataW.trod enc Tryz.prog W 0 (fun _ => true) true m 27 (List.take (Tryz.prog.cellsOf 27) (List.drop 68 cs)) = xs[5]? := hfd 5 _ rfl
  have g6 : DataW.trod enc Tryz.prog W 0 (fun _ => true) true m 33 (List.take (Tryz.prog.cellsOf 33) (List.drop 69 cs)) = xs[6]? := hfd 6 _ rfl
  simp only [List.size_toArray, List.length_cons, List.length_nil, Nat.reduceAdd] at hlen
  rw [h8, List.getElem?_eq_getElem (by omega)] at g0
  rw [hk, List.getElem?_eq_getElem (by omega)] at g1 g3
  rw [h32, List.getElem?_eq_getElem (by omega)] at g2
  rw [hd, List.getElem?_eq_getElem (by omega)] at g4
  rw [hw, List.getElem?_eq_getElem (by omega)] at g5
  rw [he, List.getElem?_eq_getElem (by omega)] at g6
  obtain ⟨a, ea, _, wa⟩ := DataW.trod_int Tryz.underlying5 g0
  obtain ⟨sd, hsd, esd, wsd⟩ := row_of_trod5 Tryz.underlying23 Tryz.underlying5 (by kernel_rfl) (by simp [hl]) g1
  obtain ⟨n, en, _, wn⟩ := DataW.trod_int Tryz.underlying24 g2
  obtain ⟨pv, hpv, ep, wp⟩ := row_of_trod5 Tryz.underlying23 Tryz.underlying5 (by kernel_rfl) (by simp [hl]) g3
  obtain ⟨da, dsq, ed, wd⟩ := dot_of_trod g4
  obtain ⟨yw, lw, cw, ws, ew, hWs, hWi⟩ := wraps_of_trod g5
  obtain ⟨E, eE, hE⟩ := event_of_trodZ g6
  refine ⟨⟨a, sd, n, pv, da, dsq, .slice yw lw cw, E⟩, yw, lw, cw, ws, ?_, ⟨bounds_u8 wa, hsd, fun v hv => bounds_u8 (wsd v hv), bounds_u32 wn, hpv, fun v hv => bounds_u8 (wp v hv), wd.1, wd.2, rfl, hWs, hWi, hE⟩⟩
  congr 2
  show cs = ([.int .u8 a] : List Value) ++ sd.map (Value.int .u8) ++ [.int .u32 n] ++ pv.map (Value.int .u8) ++ dotC da dsq ++ [.slice yw lw cw] ++ E.cells
  rw [← ea, ← esd, ← en, ← ep, ← ed, ← ew, ← eE, List.drop_zero]
  have s : ∀ a n m : Nat, a + n = m → cs.take a ++ (cs.drop a).take n = cs.take m := fun a n m h => by rw [← h, List.take_add]
  rw [s 1 32 33 rfl, s 33 1 34 rfl, s 34 32 66 rfl, s 66 2 68 rfl, s 68 1 69 rfl, s 69 17 86 rfl, List.take_of_length_le (by omega)]
theorem aq_parts (q : Aq) (hs : q.seed.length = 32) (hp : q.prev.length = 32) (hE : q.E.past.length = 8) : q.cells.length = 86 ∧ q.cells[0]? = some (.int .u8 q.own) ∧ (q.cells.drop 1).take 32 = q.seed.map (Value.int .u8) ∧ q.cells[33]? = some (.int .u32 q.num) ∧ (q.cells.drop 34).take 32 = q.prev.map (Value.int .u8) ∧ (q.cells.drop 66).take 2 = dotC q.ea q.es ∧ q.cells[68]? = some q.wraps ∧ (q.cells.drop 69).take 17 = q.E.cells := by
  have hS : (q.seed.map (Value.int .u8)).length = 32 := by rw [List.length_map, hs]
  have hP : (q.prev.map (Value.int .u8)).length = 32 := by rw [List.length_map, hp]
  have hEl : q.E.cells.length = 17 := ev_len q.E hE
  have e1 : q.cells.drop 1 = q.seed.map (Value.int .u8) ++ ([.int .u32 q.num] ++ (q.prev.map (Value.int .u8) ++ (dotC q.ea q.es ++ ([q.wraps] ++ q.E.cells)))) := by unfold Aq.cells; simp
  have e33 : q.cells.drop 33 = [.int .u32 q.num] ++ (q.prev.map (Value.int .u8) ++ (dotC q.ea q.es ++ ([q.wraps] ++ q.E.cells))) := by
    rw [show 33 = 1 + 32 from rfl, ← List.drop_drop, e1, List.drop_left' hS]
  have e34 : q.cells.drop 34 = q.prev.map (Value.int .u8) ++ (dotC q.ea q.es ++ ([q.wraps] ++ q.E.cells)) := by
    rw [show 34 = 33 + 1 from rfl, ← List.drop_drop, e33]; rfl
  have e66 : q.cells.drop 66 = dotC q.ea q.es ++ ([q.wraps] ++ q.E.cells) := by
    rw [show 66 = 34 + 32 from rfl, ← List.drop_drop, e34, List.drop_left' hP]
  have e68 : q.cells.drop 68 = [q.wraps] ++ q.E.cells := by
    rw [show 68 = 66 + 2 from rfl, ← List.drop_drop, e66]; rfl
  have e69 : q.cells.drop 69 = q.E.cells := by
    rw [show 69 = 68 + 1 from rfl, ← List.drop_drop, e68]; rfl
  refine ⟨?_, rfl, ?_, ?_, ?_, ?_, ?_, ?_⟩
  · unfold Aq.cells; simp [hs, hp, hEl, dotC]
  · rw [e1, List.take_left' hS]
  · have := congrArg (·[0]?) e33
    simpa [List.getElem?_drop] using this
  · rw [e34, List.take_left' hP]
  · rw [e66]; rfl
  · have := congrArg (·[0]?) e68
    simpa [List.getElem?_drop] using this
  · rw [e69, List.take_of_length_le (by omega)]
def aqZ : Aq := ⟨0, List.replicate 32 0, 0, List.replicate 32 0, 0, 0, .slice none 0 0, evZ⟩
def frZ7 : Fr := ⟨0, 0, 0, 0, List.replicate 32 0, .slice none 0 0, .slice none 0 0, List.replicate 32 0⟩
theorem open_key7 {H : Type} {enc : TypeId × Value → H} {W : World} {r : Reach} {base : Nat} {v : Value} {d : DataW H} {p : List MemPlace} (hv : Value.okWide Tryz.prog W r base 23 v) (h : DataW.Trod enc Tryz.prog W 0 (fun _ => true) true 23 v d p) :
    ∃ l : List Int, l.length = 32 ∧ v = .agg (row .u8 l) ∧ ∀ x ∈ l, 0 ≤ x ∧ x ≤ 255 := by
  obtain ⟨l, h1, h2, h3⟩ := open_row Tryz.underlying23 Tryz.underlying5 cellsU8 (by kernel_rfl) hv h
  exact ⟨l, h1, h2, fun x hx => bounds_u8 (h3 x hx)⟩
end Go.Proofs.YtfainlfiphdaeaaGreatDoor

namespace Go.Proofs.YtfainlfiphdaeaaGreatDoor
open Go.RowKit
set_option maxRecDepth 20000
set_option linter.unusedSimpArgs false

theorem grown_set {w w' : World} {g : Nat} (h : w.grownBy w' (some g)) (j : Nat) (v : Value) : w.grownBy (w'.setCell ⟨g, j, none⟩ v) (some g) :=
  h.trans ⟨rfl, rfl, rfl, by simp [World.setCell], fun k _ hk => heap_setCell_other w' _ k _ (fun e => hk (by rw [e]))⟩
theorem grown_drew {w w' : World} {r : Option Nat} (h : w.grownBy w' r) : w.grownBy w'.drew r := ⟨h.os, h.tape, h.output, by simpa using h.size, fun k a b => by rw [heap_drew]; exact h.block k a b⟩

/-- A store into a block that was not there. -/
theorem grown_setNew {w w' : World} {g b : Nat} (h : w.grownBy w' (some g)) (hb : w.heap.size ≤ b) (j : Nat) (v : Value) : w.grownBy (w'.setCell ⟨b, j, none⟩ v) (some g) :=
  ⟨h.os, h.tape, h.output, by simpa [World.setCell] using h.size, fun k hk hne => by rw [heap_setCell_other w' _ k _ (by show k ≠ b; omega)]; exact h.block k hk hne⟩

theorem cut_any (g : Nat) (t : TypeId) (L : List Int) (w : World) (h : Holds w g .u64 t L) (hl : 5 ≤ L.length) :
    Calls Tryz.prog 217 #[.pointer (some ⟨g, 0, none⟩)] w fun e w' => e = .returned (.int .u64 (L[4]?.getD 0 / 67108864)) ∧ Holds w' g .u64 t (L.set 4 (bits .and .u64 (L[4]?.getD 0) 67108863)) ∧ w.grownBy w' (some g) := by
  have c4 := h.cell 4 (by omega)
  have f4 := h.frozen 4
  obtain ⟨x, hx⟩ : ∃ x, L[4]?.getD 0 = x := ⟨_, rfl⟩
  rw [hx] at c4 ⊢
  clear hx
  go_enter Tryz.func217, Tryz.ntmps217
  go_upto_region 3 with fail
  refine wp_region_gate (fun w' => w'.cell? ⟨g, 4, none⟩ = some (.int .u64 x)) 8 (by kernel_rfl) ?_
  have hS : w.drew.cell? ⟨g, 4, none⟩ = some (.int .u64 x) := by simpa using c4
  have f4' : w.drew.frozen? ⟨g, 4, none⟩ = false := by simpa using f4
  refine wpAnyG_any (i := 0) (v := ?_) rfl (by kernel_rfl) (by kernel_rfl) (by kernel_rfl) (fun _ _ _ h => h) (by kernel_rfl) (fun _ => hS) (by kernel_rfl) ?_ ?_
  rotate_left
  · intro _; go_simp; try with_reducible rfl
  simp only [Act.put, List.setIfInBounds_toArray, List.set_cons_zero, List.set_cons_succ]
  refine wpAnyG_any (i := 1) (v := ?_) rfl (by kernel_rfl) (by kernel_rfl) (by kernel_rfl) (fun _ _ _ h => h) (by kernel_rfl) (fun _ => hS) (by kernel_rfl) ?_ ?_
  rotate_left
  · intro _; go_simp; try with_reducible rfl
  simp only [Act.put, List.setIfInBounds_toArray, List.set_cons_zero, List.set_cons_succ]
  refine wpAnyG_any (i := 2) (v := ?_) rfl (by kernel_rfl) (by kernel_rfl) (by kernel_rfl) (fun _ _ _ h => h) (by kernel_rfl) (fun _ => hS) (by kernel_rfl) ?_ ?_
  rotate_left
  · intro _; go_simp; try with_reducible rfl
  simp only [Act.put, List.setIfInBounds_toArray, List.set_cons_zero, List.set_cons_succ]
  refine wpAnyG_any (i := 3) (v := ?_) rfl (by kernel_rfl) (by kernel_rfl) (by kernel_rfl) (fun _ _ _ h => h) (by kernel_rfl) (fun _ => hS) (by kernel_rfl) ?_ ?_
  rotate_left
  · intro _; go_simp; try with_reducible rfl
  simp only [Act.put, List.setIfInBounds_toArray, List.set_cons_zero, List.set_cons_succ]
  refine wpAnyG_any (i := 6) (v := ?_) rfl (by kernel_rfl) (by kernel_rfl) (by kernel_rfl) (fun _ _ _ h => h) (by kernel_rfl) (fun _ => hS) (by kernel_rfl) ?_ ?_
  rotate_left
  · intro _; go_simp; try with_reducible rfl
  simp only [Act.put, List.setIfInBounds_toArray, List.set_cons_zero, List.set_cons_succ]
  refine wpAnyG_read (i := 4) (v := ?_) rfl (by kernel_rfl) (by kernel_rfl) (by kernel_rfl) (fun _ _ _ h => h) (by kernel_rfl) (by kernel_rfl) (by kernel_rfl) hS (by kernel_rfl) ?_ ?_
  rotate_left
  · intro wx hSw; go_split_ands; go_simp; try with_reducible rfl
  simp only [Act.put, List.setIfInBounds_toArray, List.set_cons_zero, List.set_cons_succ]
  refine wpAnyG_any (i := 5) (v := ?_) rfl (by kernel_rfl) (by kernel_rfl) (by kernel_rfl) (fun _ _ _ h => h) (by kernel_rfl) (fun _ => hS) (by kernel_rfl) ?_ ?_
  rotate_left
  · intro _; go_simp; try with_reducible rfl
  simp only [Act.put, List.setIfInBounds_toArray, List.set_cons_zero, List.set_cons_succ]
  refine wpAnyG_any (i := 7) (v := ?_) rfl (by kernel_rfl) (by kernel_rfl) (by kernel_rfl) (fun _ _ _ h => h) (by kernel_rfl) (fun _ => hS) (by kernel_rfl) ?_ ?_
  rotate_left
  · intro _; go_simp; try with_reducible rfl
  simp only [Act.put, List.setIfInBounds_toArray, List.set_cons_zero, List.set_cons_succ]
  refine wpAnyG_one (i := 8) rfl (by kernel_rfl) (by kernel_rfl) (fun K hK => ?_)
  go_simp
  refine hK.out _ _ (fun h => absurd (show true = false from h) (by decide)) ?_
  clear hK K
  refine wpAnyG_done (by kernel_rfl) ?_ _
  go_wp2
  go_ret
  exact ⟨rfl, (h.drew).set 4 _, grown_set (grown_drew (World.grownBy.refl w _)) 4 _⟩

/-- 'carry', step by step. -/
def carryK (L : List Int) : Nat → List Int
  | 0 => L
  | i + 1 => ((carryK L i).set (i + 1) (((carryK L i)[i + 1]?.getD 0 + (carryK L i)[i]?.getD 0 / 67108864) % 18446744073709551616)).set i (bits .and .u64 ((carryK L i)[i]?.getD 0) 67108863)
theorem carryK_length (L : List Int) (i : Nat) : (carryK L i).length = L.length := by
  induction i with
  | zero => rfl
  | succ i ih => simp [carryK, ih]

set_option maxHeartbeats 1000000 in
theorem carry_any (g : Nat) (t : TypeId) (L : List Int) (w : World) (h : Holds w g .u64 t L) (hl : 5 ≤ L.length) :
    Calls Tryz.prog 208 #[.pointer (some ⟨g, 0, none⟩)] w fun e w' => (∃ r, e = .returned r) ∧ Holds w' g .u64 t (carryK L 4) ∧ w.grownBy w' (some g) := by
  go_enter Tryz.func208, Tryz.ntmps208
  go_wp2_with fail
  go_loopw [3] (fun i wr => ∃ k : Nat, k ≤ 4 ∧ i = .int .i64 k ∧ Holds wr g .u64 t (carryK L k) ∧ w.grownBy wr (some g)) (fun i _ => 4 - (intOf i).toNat)
  case atStart => exact ⟨0, by omega, rfl, h, World.grownBy.refl _ _⟩
  case round =>
    obtain ⟨k, hk, rfl, hH, hG⟩ := hrel
    by_cases hlt : k < 4
    · have hKl := carryK_length L k
      have HS : Veil (carryK L (k + 1) = ((carryK L k).set (k + 1) (((carryK L k)[k + 1]?.getD 0 + (carryK L k)[k]?.getD 0 / 67108864) % 18446744073709551616)).set k (bits .and .u64 ((carryK L k)[k]?.getD 0) 67108863)) := ⟨rfl⟩
      obtain ⟨M, hM⟩ : ∃ M, carryK L k = M := ⟨_, rfl⟩
      rw [hM] at hH hKl HS
      have c1 := hH.cell k (by omega)
      have c2 := hH.cell (k + 1) (by omega)
      have f1 := hH.frozen k
      have f2 := hH.frozen (k + 1)
      obtain ⟨x, hx⟩ : ∃ x, M[k]?.getD 0 = x := ⟨_, rfl⟩
      obtain ⟨y, hy⟩ : ∃ y, M[k + 1]?.getD 0 = y := ⟨_, rfl⟩
      rw [hx] at c1 HS
      rw [hy] at c2 HS
      have hk0 : (0 : Int) ≤ (k : Int) := by omega
      have hk1 : (k : Int) < 4 := by omega
      have hk2 : (k : Int) + 1 < 5 := by omega
      have hk5 : (k : Int) < 5 := by omega
      have hw : IntKind.i64.wrap ((k : Int) + 1) = (k : Int) + 1 := by rw [IntKind.wrap_i64]; omega
      have hk01 : (0 : Int) ≤ (k : Int) + 1 := by omega
      have htn : ((k : Int) + 1).toNat = k + 1 := by omega
      have HX : Veil (M[k]?.getD 0 = x) := ⟨hx⟩
      clear hM hx hy
      go_upto_region 3 with fail
      refine wp_region_gate (fun w' => w'.cell? ⟨g, k, none⟩ = some (.int .u64 x) ∧ w'.cell? ⟨g, k + 1, none⟩ = some (.int .u64 y)) 15 (by kernel_rfl) ?_
      have hH1 := hH.drew
      have hS : wr.drew.cell? ⟨g, k, none⟩ = some (.int .u64 x) ∧ wr.drew.cell? ⟨g, k + 1, none⟩ = some (.int .u64 y) := ⟨by simpa using c1, by simpa using c2⟩
      have f2' := hH1.frozen (k + 1)
      have c2' := hS.2
      refine wpAnyG_any (i := 0) (v := ?_) rfl (by kernel_rfl) (by kernel_rfl) (by kernel_rfl) (fun _ _ _ h => h) (by kernel_rfl) (fun _ => hS) (by kernel_rfl) ?_ ?_
      rotate_left
      · intro _; go_simp; try with_reducible rfl
      simp only [Act.put, List.setIfInBounds_toArray, List.set_cons_zero, List.set_cons_succ]
      refine wpAnyG_any (i := 1) (v := ?_) rfl (by kernel_rfl) (by kernel_rfl) (by kernel_rfl) (fun _ _ _ h => h) (by kernel_rfl) (fun _ => hS) (by kernel_rfl) ?_ ?_
      rotate_left
      · intro _; go_simp; try with_reducible rfl
      simp only [Act.put, List.setIfInBounds_toArray, List.set_cons_zero, List.set_cons_succ]
      refine wpAnyG_any (i := 2) (v := ?_) rfl (by kernel_rfl) (by kernel_rfl) (by kernel_rfl) (fun _ _ _ h => h) (by kernel_rfl) (fun _ => hS) (by kernel_rfl) ?_ ?_
      rotate_left
      · intro _; go_simp; try with_reducible rfl
      simp only [Act.put, List.setIfInBounds_toArray, List.set_cons_zero, List.set_cons_succ]
      refine wpAnyG_any (i := 3) (v := ?_) rfl (by kernel_rfl) (by kernel_rfl) (by kernel_rfl) (fun _ _ _ h => h) (by kernel_rfl) (fun _ => hS) (by kernel_rfl) ?_ ?_
      rotate_left
      · intro _; go_simp; try with_reducible rfl
      simp only [Act.put, List.setIfInBounds_toArray, List.set_cons_zero, List.set_cons_succ]
      refine wpAnyG_any (i := 4) (v := ?_) rfl (by kernel_rfl) (by kernel_rfl) (by kernel_rfl) (fun _ _ _ h => h) (by kernel_rfl) (fun _ => hS) (by kernel_rfl) ?_ ?_
      rotate_left
      · intro _; go_simp; try with_reducible rfl
      simp only [Act.put, List.setIfInBounds_toArray, List.set_cons_zero, List.set_cons_succ]
      refine wpAnyG_any (i := 6) (v := ?_) rfl (by kernel_rfl) (by kernel_rfl) (by kernel_rfl) (fun _ _ _ h => h) (by kernel_rfl) (fun _ => hS) (by kernel_rfl) ?_ ?_
      rotate_left
      · intro _; go_simp; try with_reducible rfl
      simp only [Act.put, List.setIfInBounds_toArray, List.set_cons_zero, List.set_cons_succ]
      refine wpAnyG_any (i := 7) (v := ?_) rfl (by kernel_rfl) (by kernel_rfl) (by kernel_rfl) (fun _ _ _ h => h) (by kernel_rfl) (fun _ => hS) (by kernel_rfl) ?_ ?_
      rotate_left
      · intro _; go_simp; try with_reducible rfl
      simp only [Act.put, List.setIfInBounds_toArray, List.set_cons_zero, List.set_cons_succ]
      refine wpAnyG_any (i := 8) (v := ?_) rfl (by kernel_rfl) (by kernel_rfl) (by kernel_rfl) (fun _ _ _ h => h) (by kernel_rfl) (fun _ => hS) (by kernel_rfl) ?_ ?_
      rotate_left
      · intro _; go_simp; try with_reducible rfl
      simp only [Act.put, List.setIfInBounds_toArray, List.set_cons_zero, List.set_cons_succ]
      refine wpAnyG_any (i := 9) (v := ?_) rfl (by kernel_rfl) (by kernel_rfl) (by kernel_rfl) (fun _ _ _ h => h) (by kernel_rfl) (fun _ => hS) (by kernel_rfl) ?_ ?_
      rotate_left
      · intro _; go_simp; try with_reducible rfl
      simp only [Act.put, List.setIfInBounds_toArray, List.set_cons_zero, List.set_cons_succ]
      refine wpAnyG_any (i := 13) (v := ?_) rfl (by kernel_rfl) (by kernel_rfl) (by kernel_rfl) (fun _ _ _ h => h) (by kernel_rfl) (fun _ => hS) (by kernel_rfl) ?_ ?_
      rotate_left
      · intro _; go_simp; try with_reducible rfl
      simp only [Act.put, List.setIfInBounds_toArray, List.set_cons_zero, List.set_cons_succ]
      refine wpAnyG_read (i := 5) (v := ?_) rfl (by kernel_rfl) (by kernel_rfl) (by kernel_rfl) (fun _ _ _ h => h) (by kernel_rfl) (by kernel_rfl) (by kernel_rfl) hS (by kernel_rfl) ?_ ?_
      rotate_left
      · intro wx hSw; go_split_ands; go_simp; try with_reducible rfl
      simp only [Act.put, List.setIfInBounds_toArray, List.set_cons_zero, List.set_cons_succ]
      refine wpAnyG_read (i := 10) (v := ?_) rfl (by kernel_rfl) (by kernel_rfl) (by kernel_rfl) (fun _ _ _ h => h) (by kernel_rfl) (by kernel_rfl) (by kernel_rfl) hS (by kernel_rfl) ?_ ?_
      rotate_left
      · intro wx hSw; go_split_ands; go_simp; try with_reducible rfl
      simp only [Act.put, List.setIfInBounds_toArray, List.set_cons_zero, List.set_cons_succ]
      refine wpAnyG_any (i := 11) (v := ?_) rfl (by kernel_rfl) (by kernel_rfl) (by kernel_rfl) (fun _ _ _ h => h) (by kernel_rfl) (fun _ => hS) (by kernel_rfl) ?_ ?_
      rotate_left
      · intro _; go_simp; try with_reducible rfl
      simp only [Act.put, List.setIfInBounds_toArray, List.set_cons_zero, List.set_cons_succ]
      refine wpAnyG_any (i := 12) (v := ?_) rfl (by kernel_rfl) (by kernel_rfl) (by kernel_rfl) (fun _ _ _ h => h) (by kernel_rfl) (fun _ => hS) (by kernel_rfl) ?_ ?_
      rotate_left
      · intro _; go_simp; try with_reducible rfl
      simp only [Act.put, List.setIfInBounds_toArray, List.set_cons_zero, List.set_cons_succ]
      refine wpAnyG_any (i := 14) (v := ?_) rfl (by kernel_rfl) (by kernel_rfl) (by kernel_rfl) (fun _ _ _ h => h) (by kernel_rfl) (fun _ => hS) (by kernel_rfl) ?_ ?_
      rotate_left
      · intro _; go_simp; try with_reducible rfl
      simp only [Act.put, List.setIfInBounds_toArray, List.set_cons_zero, List.set_cons_succ]
      refine wpAnyG_one (i := 15) rfl (by kernel_rfl) (by kernel_rfl) (fun K hK => ?_)
      go_simp
      refine hK.out _ _ (fun h => absurd (show true = false from h) (by decide)) ?_
      clear hK K
      refine wpAnyG_done (by kernel_rfl) ?_ _
      go_upto_region 4 with fail
      refine forget (p := fun y => Code.wp _ _ _ _ y) (fun W1 => Holds W1 g .u64 t (M.set (k + 1) ((y + x / 67108864) % 18446744073709551616)) ∧ w.grownBy W1 (some g)) ⟨hH1.set (k + 1) _, grown_set (grown_drew hG) _ _⟩ ?_
      clear hS f2' c2' hH1 c1 c2 f1 f2 hH hG
      rintro W1 ⟨hH, hG⟩
      obtain ⟨M1, hM1⟩ : ∃ q, M.set (k + 1) ((y + x / 67108864) % 18446744073709551616) = q := ⟨_, rfl⟩
      have hx1 : M1[k]?.getD 0 = x := by rw [← hM1, List.getElem?_set_ne (by omega)]; exact HX.out
      have hM1l : M1.length = L.length := by rw [← hM1, List.length_set]; exact hKl
      rw [hM1] at hH HS
      clear hM1
      have hH1 := hH.drew
      have c1 := hH1.cell k (by omega)
      have f1 := hH1.frozen k
      rw [hx1] at c1
      refine wp_region_gate (fun w' => w'.cell? ⟨g, k, none⟩ = some (.int .u64 x)) 8 (by kernel_rfl) ?_
      have hS : W1.drew.cell? ⟨g, k, none⟩ = some (.int .u64 x) := c1
      refine wpAnyG_any (i := 0) (v := ?_) rfl (by kernel_rfl) (by kernel_rfl) (by kernel_rfl) (fun _ _ _ h => h) (by kernel_rfl) (fun _ => hS) (by kernel_rfl) ?_ ?_
      rotate_left
      · intro _; go_simp; try with_reducible rfl
      simp only [Act.put, List.setIfInBounds_toArray, List.set_cons_zero, List.set_cons_succ]
      refine wpAnyG_any (i := 1) (v := ?_) rfl (by kernel_rfl) (by kernel_rfl) (by kernel_rfl) (fun _ _ _ h => h) (by kernel_rfl) (fun _ => hS) (by kernel_rfl) ?_ ?_
      rotate_left
      · intro _; go_simp; try with_reducible rfl
      simp only [Act.put, List.setIfInBounds_toArray, List.set_cons_zero, List.set_cons_succ]
      refine wpAnyG_any (i := 2) (v := ?_) rfl (by kernel_rfl) (by kernel_rfl) (by kernel_rfl) (fun _ _ _ h => h) (by kernel_rfl) (fun _ => hS) (by kernel_rfl) ?_ ?_
      rotate_left
      · intro _; go_simp; try with_reducible rfl
      simp only [Act.put, List.setIfInBounds_toArray, List.set_cons_zero, List.set_cons_succ]
      refine wpAnyG_any (i := 3) (v := ?_) rfl (by kernel_rfl) (by kernel_rfl) (by kernel_rfl) (fun _ _ _ h => h) (by kernel_rfl) (fun _ => hS) (by kernel_rfl) ?_ ?_
      rotate_left
      · intro _; go_simp; try with_reducible rfl
      simp only [Act.put, List.setIfInBounds_toArray, List.set_cons_zero, List.set_cons_succ]
      refine wpAnyG_any (i := 6) (v := ?_) rfl (by kernel_rfl) (by kernel_rfl) (by kernel_rfl) (fun _ _ _ h => h) (by kernel_rfl) (fun _ => hS) (by kernel_rfl) ?_ ?_
      rotate_left
      · intro _; go_simp; try with_reducible rfl
      simp only [Act.put, List.setIfInBounds_toArray, List.set_cons_zero, List.set_cons_succ]
      refine wpAnyG_read (i := 4) (v := ?_) rfl (by kernel_rfl) (by kernel_rfl) (by kernel_rfl) (fun _ _ _ h => h) (by kernel_rfl) (by kernel_rfl) (by kernel_rfl) hS (by kernel_rfl) ?_ ?_
      rotate_left
      · intro wx hSw; go_split_ands; go_simp; try with_reducible rfl
      simp only [Act.put, List.setIfInBounds_toArray, List.set_cons_zero, List.set_cons_succ]
      refine wpAnyG_any (i := 5) (v := ?_) rfl (by kernel_rfl) (by kernel_rfl) (by kernel_rfl) (fun _ _ _ h => h) (by kernel_rfl) (fun _ => hS) (by kernel_rfl) ?_ ?_
      rotate_left
      · intro _; go_simp; try with_reducible rfl
      simp only [Act.put, List.setIfInBounds_toArray, List.set_cons_zero, List.set_cons_succ]
      refine wpAnyG_any (i := 7) (v := ?_) rfl (by kernel_rfl) (by kernel_rfl) (by kernel_rfl) (fun _ _ _ h => h) (by kernel_rfl) (fun _ => hS) (by kernel_rfl) ?_ ?_
      rotate_left
      · intro _; go_simp; try with_reducible rfl
      simp only [Act.put, List.setIfInBounds_toArray, List.set_cons_zero, List.set_cons_succ]
      refine wpAnyG_one (i := 8) rfl (by kernel_rfl) (by kernel_rfl) (fun K hK => ?_)
      go_simp
      refine hK.out _ _ (fun h => absurd (show true = false from h) (by decide)) ?_
      clear hK K
      refine wpAnyG_done (by kernel_rfl) ?_ _
      go_wp2
      go_roundw
      case rel => exact ⟨k + 1, by omega, by go_num, by rw [HS.out]; exact hH1.set k _, grown_set (grown_drew hG) _ _⟩
      case measure => simp [intOf]; omega
    · obtain rfl : k = 4 := by omega
      go_wp2
      go_end0
      exact ⟨⟨_, rfl⟩, hH, hG⟩

/-- 'fold'. -/
def foldL (L : List Int) : List Int :=
  let C := (carryK L 4).set 4 (bits .and .u64 ((carryK L 4)[4]?.getD 0) 67108863)
  let C2 := C.set 0 ((C[0]?.getD 0 + 5 * ((carryK L 4)[4]?.getD 0 / 67108864) % 18446744073709551616) % 18446744073709551616)
  let C3 := C2.set 1 ((C2[1]?.getD 0 + C2[0]?.getD 0 / 67108864) % 18446744073709551616)
  C3.set 0 (bits .and .u64 (C3[0]?.getD 0) 67108863)

set_option maxHeartbeats 1000000 in
theorem fold_any (g : Nat) (t : TypeId) (L : List Int) (w : World) (h : Holds w g .u64 t L) (hl : 5 ≤ L.length) :
    Calls Tryz.prog 216 #[.pointer (some ⟨g, 0, none⟩)] w fun e w' => (∃ r, e = .returned r) ∧ Holds w' g .u64 t (foldL L) ∧ w.grownBy w' (some g) := by
  have hca := carry_any g t L w h hl
  have hcl := carryK_length L 4
  have hF : ∃ F, foldL L = F := ⟨_, rfl⟩
  obtain ⟨F, hF⟩ := hF
  have HF : Veil (foldL L = F) := ⟨hF⟩
  rw [hF]
  unfold foldL at hF
  obtain ⟨C0, hC0⟩ : ∃ q, carryK L 4 = q := ⟨_, rfl⟩
  rw [hC0] at hca hcl hF
  have hcu := fun wx (hx : Holds wx g .u64 t C0) => cut_any g t C0 wx hx (by omega)
  obtain ⟨ov, hov⟩ : ∃ q, C0[4]?.getD 0 / 67108864 = q := ⟨_, rfl⟩
  rw [hov] at hcu hF
  obtain ⟨C, hC⟩ : ∃ q, C0.set 4 (bits .and .u64 (C0[4]?.getD 0) 67108863) = q := ⟨_, rfl⟩
  have hCl : C.length = L.length := by rw [← hC, List.length_set, hcl]
  rw [hC] at hcu hF
  dsimp only at hF
  obtain ⟨x0, hx0⟩ : ∃ q, C[0]?.getD 0 = q := ⟨_, rfl⟩
  rw [hx0] at hF
  obtain ⟨C2, hC2⟩ : ∃ q, C.set 0 ((x0 + 5 * ov % 18446744073709551616) % 18446744073709551616) = q := ⟨_, rfl⟩
  have hC2l : C2.length = L.length := by rw [← hC2, List.length_set, hCl]
  rw [hC2] at hF
  obtain ⟨y0, hy0⟩ : ∃ q, C2[0]?.getD 0 = q := ⟨_, rfl⟩
  obtain ⟨y1, hy1⟩ : ∃ q, C2[1]?.getD 0 = q := ⟨_, rfl⟩
  rw [hy0, hy1] at hF
  obtain ⟨C3, hC3⟩ : ∃ q, C2.set 1 ((y1 + y0 / 67108864) % 18446744073709551616) = q := ⟨_, rfl⟩
  have hC3l : C3.length = L.length := by rw [← hC3, List.length_set, hC2l]
  rw [hC3] at hF
  obtain ⟨z0, hz0⟩ : ∃ q, C3[0]?.getD 0 = q := ⟨_, rfl⟩
  rw [hz0] at hF
  have HF1 : Veil (C3.set 0 (bits .and .u64 z0 67108863) = F) := ⟨hF⟩
  have HC2 : Veil (C.set 0 ((x0 + 5 * ov % 18446744073709551616) % 18446744073709551616) = C2) := ⟨hC2⟩
  have HC3 : Veil (C2.set 1 ((y1 + y0 / 67108864) % 18446744073709551616) = C3) := ⟨hC3⟩
  clear hF hC2 hC3 hC hC0 hov
  go_enter Tryz.func216, Tryz.ntmps216
  go_upto_region 2 with (first
    | (go_at_call 208; refine hca.mono ?_; rintro e w1 ⟨⟨r, rfl⟩, h1, g1⟩)
    | (go_at_call 217; refine (hcu _ h1).mono ?_; rintro e w2 ⟨rfl, h2, g2⟩))
  have g12 := g1.trans g2
  clear hca hcu g1 g2 h1
  have h3 := h2.drew
  have c1 := h3.cell 0 (by omega)
  have f1 := h3.frozen 0
  rw [hx0] at c1
  refine wp_region_gate (fun w' => w'.cell? ⟨g, 0, none⟩ = some (.int .u64 x0)) 9 (by kernel_rfl) ?_
  have hS : w2.drew.cell? ⟨g, 0, none⟩ = some (.int .u64 x0) := c1
  refine wpAnyG_any (i := 0) (v := ?_) rfl (by kernel_rfl) (by kernel_rfl) (by kernel_rfl) (fun _ _ _ h => h) (by kernel_rfl) (fun _ => hS) (by kernel_rfl) ?_ ?_
  rotate_left
  · intro _; go_simp; try with_reducible rfl
  simp only [Act.put, List.setIfInBounds_toArray, List.set_cons_zero, List.set_cons_succ]
  refine wpAnyG_any (i := 1) (v := ?_) rfl (by kernel_rfl) (by kernel_rfl) (by kernel_rfl) (fun _ _ _ h => h) (by kernel_rfl) (fun _ => hS) (by kernel_rfl) ?_ ?_
  rotate_left
  · intro _; go_simp; try with_reducible rfl
  simp only [Act.put, List.setIfInBounds_toArray, List.set_cons_zero, List.set_cons_succ]
  refine wpAnyG_any (i := 2) (v := ?_) rfl (by kernel_rfl) (by kernel_rfl) (by kernel_rfl) (fun _ _ _ h => h) (by kernel_rfl) (fun _ => hS) (by kernel_rfl) ?_ ?_
  rotate_left
  · intro _; go_simp; try with_reducible rfl
  simp only [Act.put, List.setIfInBounds_toArray, List.set_cons_zero, List.set_cons_succ]
  refine wpAnyG_any (i := 4) (v := ?_) rfl (by kernel_rfl) (by kernel_rfl) (by kernel_rfl) (fun _ _ _ h => h) (by kernel_rfl) (fun _ => hS) (by kernel_rfl) ?_ ?_
  rotate_left
  · intro _; go_simp; try with_reducible rfl
  simp only [Act.put, List.setIfInBounds_toArray, List.set_cons_zero, List.set_cons_succ]
  refine wpAnyG_any (i := 5) (v := ?_) rfl (by kernel_rfl) (by kernel_rfl) (by kernel_rfl) (fun _ _ _ h => h) (by kernel_rfl) (fun _ => hS) (by kernel_rfl) ?_ ?_
  rotate_left
  · intro _; go_simp; try with_reducible rfl
  simp only [Act.put, List.setIfInBounds_toArray, List.set_cons_zero, List.set_cons_succ]
  refine wpAnyG_any (i := 7) (v := ?_) rfl (by kernel_rfl) (by kernel_rfl) (by kernel_rfl) (fun _ _ _ h => h) (by kernel_rfl) (fun _ => hS) (by kernel_rfl) ?_ ?_
  rotate_left
  · intro _; go_simp; try with_reducible rfl
  simp only [Act.put, List.setIfInBounds_toArray, List.set_cons_zero, List.set_cons_succ]
  refine wpAnyG_read (i := 3) (v := ?_) rfl (by kernel_rfl) (by kernel_rfl) (by kernel_rfl) (fun _ _ _ h => h) (by kernel_rfl) (by kernel_rfl) (by kernel_rfl) hS (by kernel_rfl) ?_ ?_
  rotate_left
  · intro wx hSw; go_split_ands; go_simp; try with_reducible rfl
  simp only [Act.put, List.setIfInBounds_toArray, List.set_cons_zero, List.set_cons_succ]
  refine wpAnyG_any (i := 6) (v := ?_) rfl (by kernel_rfl) (by kernel_rfl) (by kernel_rfl) (fun _ _ _ h => h) (by kernel_rfl) (fun _ => hS) (by kernel_rfl) ?_ ?_
  rotate_left
  · intro _; go_simp; try with_reducible rfl
  simp only [Act.put, List.setIfInBounds_toArray, List.set_cons_zero, List.set_cons_succ]
  refine wpAnyG_any (i := 8) (v := ?_) rfl (by kernel_rfl) (by kernel_rfl) (by kernel_rfl) (fun _ _ _ h => h) (by kernel_rfl) (fun _ => hS) (by kernel_rfl) ?_ ?_
  rotate_left
  · intro _; go_simp; try with_reducible rfl
  simp only [Act.put, List.setIfInBounds_toArray, List.set_cons_zero, List.set_cons_succ]
  refine wpAnyG_one (i := 9) rfl (by kernel_rfl) (by kernel_rfl) (fun K hK => ?_)
  go_simp
  refine hK.out _ _ (fun h => absurd (show true = false from h) (by decide)) ?_
  clear hK K
  refine wpAnyG_done (by kernel_rfl) ?_ _
  go_upto_region 3 with fail
  refine forget (p := fun y => Code.wp _ _ _ _ y) (fun W1 => Holds W1 g .u64 t C2 ∧ w.grownBy W1 (some g)) ⟨by rw [← HC2.out]; exact h3.set 0 _, grown_set (grown_drew g12) _ _⟩ ?_
  clear hS c1 f1 h3 h2 g12
  rintro W1 ⟨h2, g2⟩
  have h3 := h2.drew
  have c1 := h3.cell 0 (by omega)
  have c2 := h3.cell 1 (by omega)
  have f2 := h3.frozen 1
  rw [hy0] at c1
  rw [hy1] at c2
  refine wp_region_gate (fun w' => w'.cell? ⟨g, 0, none⟩ = some (.int .u64 y0) ∧ w'.cell? ⟨g, 1, none⟩ = some (.int .u64 y1)) 12 (by kernel_rfl) ?_
  have hS := And.intro c1 c2
  refine wpAnyG_any (i := 0) (v := ?_) rfl (by kernel_rfl) (by kernel_rfl) (by kernel_rfl) (fun _ _ _ h => h) (by kernel_rfl) (fun _ => hS) (by kernel_rfl) ?_ ?_
  rotate_left
  · intro _; go_simp; try with_reducible rfl
  simp only [Act.put, List.setIfInBounds_toArray, List.set_cons_zero, List.set_cons_succ]
  refine wpAnyG_any (i := 1) (v := ?_) rfl (by kernel_rfl) (by kernel_rfl) (by kernel_rfl) (fun _ _ _ h => h) (by kernel_rfl) (fun _ => hS) (by kernel_rfl) ?_ ?_
  rotate_left
  · intro _; go_simp; try with_reducible rfl
  simp only [Act.put, List.setIfInBounds_toArray, List.set_cons_zero, List.set_cons_succ]
  refine wpAnyG_any (i := 2) (v := ?_) rfl (by kernel_rfl) (by kernel_rfl) (by kernel_rfl) (fun _ _ _ h => h) (by kernel_rfl) (fun _ => hS) (by kernel_rfl) ?_ ?_
  rotate_left
  · intro _; go_simp; try with_reducible rfl
  simp only [Act.put, List.setIfInBounds_toArray, List.set_cons_zero, List.set_cons_succ]
  refine wpAnyG_any (i := 4) (v := ?_) rfl (by kernel_rfl) (by kernel_rfl) (by kernel_rfl) (fun _ _ _ h => h) (by kernel_rfl) (fun _ => hS) (by kernel_rfl) ?_ ?_
  rotate_left
  · intro _; go_simp; try with_reducible rfl
  simp only [Act.put, List.setIfInBounds_toArray, List.set_cons_zero, List.set_cons_succ]
  refine wpAnyG_any (i := 5) (v := ?_) rfl (by kernel_rfl) (by kernel_rfl) (by kernel_rfl) (fun _ _ _ h => h) (by kernel_rfl) (fun _ => hS) (by kernel_rfl) ?_ ?_
  rotate_left
  · intro _; go_simp; try with_reducible rfl
  simp only [Act.put, List.setIfInBounds_toArray, List.set_cons_zero, List.set_cons_succ]
  refine wpAnyG_any (i := 6) (v := ?_) rfl (by kernel_rfl) (by kernel_rfl) (by kernel_rfl) (fun _ _ _ h => h) (by kernel_rfl) (fun _ => hS) (by kernel_rfl) ?_ ?_
  rotate_left
  · intro _; go_simp; try with_reducible rfl
  simp only [Act.put, List.setIfInBounds_toArray, List.set_cons_zero, List.set_cons_succ]
  refine wpAnyG_any (i := 10) (v := ?_) rfl (by kernel_rfl) (by kernel_rfl) (by kernel_rfl) (fun _ _ _ h => h) (by kernel_rfl) (fun _ => hS) (by kernel_rfl) ?_ ?_
  rotate_left
  · intro _; go_simp; try with_reducible rfl
  simp only [Act.put, List.setIfInBounds_toArray, List.set_cons_zero, List.set_cons_succ]
  refine wpAnyG_read (i := 3) (v := ?_) rfl (by kernel_rfl) (by kernel_rfl) (by kernel_rfl) (fun _ _ _ h => h) (by kernel_rfl) (by kernel_rfl) (by kernel_rfl) hS (by kernel_rfl) ?_ ?_
  rotate_left
  · intro wx hSw; go_split_ands; go_simp; try with_reducible rfl
  simp only [Act.put, List.setIfInBounds_toArray, List.set_cons_zero, List.set_cons_succ]
  refine wpAnyG_read (i := 7) (v := ?_) rfl (by kernel_rfl) (by kernel_rfl) (by kernel_rfl) (fun _ _ _ h => h) (by kernel_rfl) (by kernel_rfl) (by kernel_rfl) hS (by kernel_rfl) ?_ ?_
  rotate_left
  · intro wx hSw; go_split_ands; go_simp; try with_reducible rfl
  simp only [Act.put, List.setIfInBounds_toArray, List.set_cons_zero, List.set_cons_succ]
  refine wpAnyG_any (i := 8) (v := ?_) rfl (by kernel_rfl) (by kernel_rfl) (by kernel_rfl) (fun _ _ _ h => h) (by kernel_rfl) (fun _ => hS) (by kernel_rfl) ?_ ?_
  rotate_left
  · intro _; go_simp; try with_reducible rfl
  simp only [Act.put, List.setIfInBounds_toArray, List.set_cons_zero, List.set_cons_succ]
  refine wpAnyG_any (i := 9) (v := ?_) rfl (by kernel_rfl) (by kernel_rfl) (by kernel_rfl) (fun _ _ _ h => h) (by kernel_rfl) (fun _ => hS) (by kernel_rfl) ?_ ?_
  rotate_left
  · intro _; go_simp; try with_reducible rfl
  simp only [Act.put, List.setIfInBounds_toArray, List.set_cons_zero, List.set_cons_succ]
  refine wpAnyG_any (i := 11) (v := ?_) rfl (by kernel_rfl) (by kernel_rfl) (by kernel_rfl) (fun _ _ _ h => h) (by kernel_rfl) (fun _ => hS) (by kernel_rfl) ?_ ?_
  rotate_left
  · intro _; go_simp; try with_reducible rfl
  simp only [Act.put, List.setIfInBounds_toArray, List.set_cons_zero, List.set_cons_succ]
  refine wpAnyG_one (i := 12) rfl (by kernel_rfl) (by kernel_rfl) (fun K hK => ?_)
  go_simp
  refine hK.out _ _ (fun h => absurd (show true = false from h) (by decide)) ?_
  clear hK K
  refine wpAnyG_done (by kernel_rfl) ?_ _
  go_upto_region 4 with fail
  refine forget (p := fun y => Code.wp _ _ _ _ y) (fun W1 => Holds W1 g .u64 t C3 ∧ w.grownBy W1 (some g)) ⟨by rw [← HC3.out]; exact h3.set 1 _, grown_set (grown_drew g2) _ _⟩ ?_
  clear hS c1 c2 f2 h3 h2 g2
  rintro W2 ⟨h2, g2⟩
  have h3 := h2.drew
  have c1 := h3.cell 0 (by omega)
  have f1 := h3.frozen 0
  rw [hz0] at c1
  refine wp_region_gate (fun w' => w'.cell? ⟨g, 0, none⟩ = some (.int .u64 z0)) 7 (by kernel_rfl) ?_
  have hS : W2.drew.cell? ⟨g, 0, none⟩ = some (.int .u64 z0) := c1
  refine wpAnyG_any (i := 0) (v := ?_) rfl (by kernel_rfl) (by kernel_rfl) (by kernel_rfl) (fun _ _ _ h => h) (by kernel_rfl) (fun _ => hS) (by kernel_rfl) ?_ ?_
  rotate_left
  · intro _; go_simp; try with_reducible rfl
  simp only [Act.put, List.setIfInBounds_toArray, List.set_cons_zero, List.set_cons_succ]
  refine wpAnyG_any (i := 1) (v := ?_) rfl (by kernel_rfl) (by kernel_rfl) (by kernel_rfl) (fun _ _ _ h => h) (by kernel_rfl) (fun _ => hS) (by kernel_rfl) ?_ ?_
  rotate_left
  · intro _; go_simp; try with_reducible rfl
  simp only [Act.put, List.setIfInBounds_toArray, List.set_cons_zero, List.set_cons_succ]
  refine wpAnyG_any (i := 2) (v := ?_) rfl (by kernel_rfl) (by kernel_rfl) (by kernel_rfl) (fun _ _ _ h => h) (by kernel_rfl) (fun _ => hS) (by kernel_rfl) ?_ ?_
  rotate_left
  · intro _; go_simp; try with_reducible rfl
  simp only [Act.put, List.setIfInBounds_toArray, List.set_cons_zero, List.set_cons_succ]
  refine wpAnyG_any (i := 5) (v := ?_) rfl (by kernel_rfl) (by kernel_rfl) (by kernel_rfl) (fun _ _ _ h => h) (by kernel_rfl) (fun _ => hS) (by kernel_rfl) ?_ ?_
  rotate_left
  · intro _; go_simp; try with_reducible rfl
  simp only [Act.put, List.setIfInBounds_toArray, List.set_cons_zero, List.set_cons_succ]
  refine wpAnyG_read (i := 3) (v := ?_) rfl (by kernel_rfl) (by kernel_rfl) (by kernel_rfl) (fun _ _ _ h => h) (by kernel_rfl) (by kernel_rfl) (by kernel_rfl) hS (by kernel_rfl) ?_ ?_
  rotate_left
  · intro wx hSw; go_split_ands; go_simp; try with_reducible rfl
  simp only [Act.put, List.setIfInBounds_toArray, List.set_cons_zero, List.set_cons_succ]
  refine wpAnyG_any (i := 4) (v := ?_) rfl (by kernel_rfl) (by kernel_rfl) (by kernel_rfl) (fun _ _ _ h => h) (by kernel_rfl) (fun _ => hS) (by kernel_rfl) ?_ ?_
  rotate_left
  · intro _; go_simp; try with_reducible rfl
  simp only [Act.put, List.setIfInBounds_toArray, List.set_cons_zero, List.set_cons_succ]
  refine wpAnyG_any (i := 6) (v := ?_) rfl (by kernel_rfl) (by kernel_rfl) (by kernel_rfl) (fun _ _ _ h => h) (by kernel_rfl) (fun _ => hS) (by kernel_rfl) ?_ ?_
  rotate_left
  · intro _; go_simp; try with_reducible rfl
  simp only [Act.put, List.setIfInBounds_toArray, List.set_cons_zero, List.set_cons_succ]
  refine wpAnyG_one (i := 7) rfl (by kernel_rfl) (by kernel_rfl) (fun K hK => ?_)
  go_simp
  refine hK.out _ _ (fun h => absurd (show true = false from h) (by decide)) ?_
  clear hK K
  refine wpAnyG_done (by kernel_rfl) ?_ _
  go_wp2
  go_end0
  exact ⟨⟨_, rfl⟩, by rw [← HF1.out]; exact h3.set 0 _, grown_set (grown_drew g2) _ _⟩

/-- 'add', step by step. -/
def addK (L m : List Int) : Nat → List Int
  | 0 => L
  | i + 1 => (addK L m i).set i (((addK L m i)[i]?.getD 0 + m[i]?.getD 0) % 18446744073709551616)
theorem addK_length (L m : List Int) (i : Nat) : (addK L m i).length = L.length := by
  induction i with
  | zero => rfl
  | succ i ih => simp [addK, ih]

set_option maxHeartbeats 1000000 in
theorem add_any (g : Nat) (t : TypeId) (L m : List Int) (w : World) (h : Holds w g .u64 t L) (hl : 5 ≤ L.length) (hm : m.length = 5) :
    Calls Tryz.prog 205 #[.pointer (some ⟨g, 0, none⟩), .agg (row .u64 m)] w fun e w' => (∃ r, e = .returned r) ∧ Holds w' g .u64 t (addK L m 5) ∧ w.grownBy w' (some g) := by
  have hgl := h.lt
  go_enter Tryz.func205, Tryz.ntmps205
  go_wp2_with fail
  go_loopw [5] (fun i wr => ∃ k : Nat, k ≤ 5 ∧ i = .int .i64 k ∧ Holds wr g .u64 t (addK L m k) ∧ Holds wr w.heap.size .u64 218 m ∧ w.grownBy wr (some g)) (fun i _ => 5 - (intOf i).toNat)
  case atStart => exact ⟨0, by omega, rfl, h.alloc _, Holds.new w .u64 218 m, World.grownBy_alloc _ _ _⟩
  case round =>
    obtain ⟨k, hk, rfl, hH, hM, hG⟩ := hrel
    by_cases hlt : k < 5
    · have hKl := addK_length L m k
      have HS : Veil (addK L m (k + 1) = (addK L m k).set k (((addK L m k)[k]?.getD 0 + m[k]?.getD 0) % 18446744073709551616)) := ⟨rfl⟩
      obtain ⟨A, hA⟩ : ∃ M, addK L m k = M := ⟨_, rfl⟩
      rw [hA] at hH hKl HS
      have hH1 := hH.drew
      have hM1 := hM.drew
      have c1 := hH1.cell k (by omega)
      have c2 := hM1.cell k (by omega)
      have f1 := hH1.frozen k
      obtain ⟨x, hx⟩ : ∃ x, A[k]?.getD 0 = x := ⟨_, rfl⟩
      obtain ⟨y, hy⟩ : ∃ y, m[k]?.getD 0 = y := ⟨_, rfl⟩
      rw [hx] at c1 HS
      rw [hy] at c2 HS
      have hk0 : (0 : Int) ≤ (k : Int) := by omega
      have hk5 : (k : Int) < 5 := by omega
      clear hA hx hy
      go_upto_region 4 with fail
      refine wp_region_gate (fun w' => w'.cell? ⟨g, k, none⟩ = some (.int .u64 x) ∧ w'.cell? ⟨w.heap.size, k, none⟩ = some (.int .u64 y)) 11 (by kernel_rfl) ?_
      have hS := And.intro c1 c2
      refine wpAnyG_any (i := 0) (v := ?_) rfl (by kernel_rfl) (by kernel_rfl) (by kernel_rfl) (fun _ _ _ h => h) (by kernel_rfl) (fun _ => hS) (by kernel_rfl) ?_ ?_
      rotate_left
      · intro _; go_simp; try with_reducible rfl
      simp only [Act.put, List.setIfInBounds_toArray, List.set_cons_zero, List.set_cons_succ]
      refine wpAnyG_any (i := 1) (v := ?_) rfl (by kernel_rfl) (by kernel_rfl) (by kernel_rfl) (fun _ _ _ h => h) (by kernel_rfl) (fun _ => hS) (by kernel_rfl) ?_ ?_
      rotate_left
      · intro _; go_simp; try with_reducible rfl
      simp only [Act.put, List.setIfInBounds_toArray, List.set_cons_zero, List.set_cons_succ]
      refine wpAnyG_any (i := 2) (v := ?_) rfl (by kernel_rfl) (by kernel_rfl) (by kernel_rfl) (fun _ _ _ h => h) (by kernel_rfl) (fun _ => hS) (by kernel_rfl) ?_ ?_
      rotate_left
      · intro _; go_simp; try with_reducible rfl
      simp only [Act.put, List.setIfInBounds_toArray, List.set_cons_zero, List.set_cons_succ]
      refine wpAnyG_any (i := 3) (v := ?_) rfl (by kernel_rfl) (by kernel_rfl) (by kernel_rfl) (fun _ _ _ h => h) (by kernel_rfl) (fun _ => hS) (by kernel_rfl) ?_ ?_
      rotate_left
      · intro _; go_simp; try with_reducible rfl
      simp only [Act.put, List.setIfInBounds_toArray, List.set_cons_zero, List.set_cons_succ]
      refine wpAnyG_any (i := 5) (v := ?_) rfl (by kernel_rfl) (by kernel_rfl) (by kernel_rfl) (fun _ _ _ h => h) (by kernel_rfl) (fun _ => hS) (by kernel_rfl) ?_ ?_
      rotate_left
      · intro _; go_simp; try with_reducible rfl
      simp only [Act.put, List.setIfInBounds_toArray, List.set_cons_zero, List.set_cons_succ]
      refine wpAnyG_any (i := 6) (v := ?_) rfl (by kernel_rfl) (by kernel_rfl) (by kernel_rfl) (fun _ _ _ h => h) (by kernel_rfl) (fun _ => hS) (by kernel_rfl) ?_ ?_
      rotate_left
      · intro _; go_simp; try with_reducible rfl
      simp only [Act.put, List.setIfInBounds_toArray, List.set_cons_zero, List.set_cons_succ]
      refine wpAnyG_any (i := 9) (v := ?_) rfl (by kernel_rfl) (by kernel_rfl) (by kernel_rfl) (fun _ _ _ h => h) (by kernel_rfl) (fun _ => hS) (by kernel_rfl) ?_ ?_
      rotate_left
      · intro _; go_simp; try with_reducible rfl
      simp only [Act.put, List.setIfInBounds_toArray, List.set_cons_zero, List.set_cons_succ]
      refine wpAnyG_read (i := 4) (v := ?_) rfl (by kernel_rfl) (by kernel_rfl) (by kernel_rfl) (fun _ _ _ h => h) (by kernel_rfl) (by kernel_rfl) (by kernel_rfl) hS (by kernel_rfl) ?_ ?_
      rotate_left
      · intro wx hSw; go_split_ands; go_simp; try with_reducible rfl
      simp only [Act.put, List.setIfInBounds_toArray, List.set_cons_zero, List.set_cons_succ]
      refine wpAnyG_read (i := 7) (v := ?_) rfl (by kernel_rfl) (by kernel_rfl) (by kernel_rfl) (fun _ _ _ h => h) (by kernel_rfl) (by kernel_rfl) (by kernel_rfl) hS (by kernel_rfl) ?_ ?_
      rotate_left
      · intro wx hSw; go_split_ands; go_simp; try with_reducible rfl
      simp only [Act.put, List.setIfInBounds_toArray, List.set_cons_zero, List.set_cons_succ]
      refine wpAnyG_any (i := 8) (v := ?_) rfl (by kernel_rfl) (by kernel_rfl) (by kernel_rfl) (fun _ _ _ h => h) (by kernel_rfl) (fun _ => hS) (by kernel_rfl) ?_ ?_
      rotate_left
      · intro _; go_simp; try with_reducible rfl
      simp only [Act.put, List.setIfInBounds_toArray, List.set_cons_zero, List.set_cons_succ]
      refine wpAnyG_any (i := 10) (v := ?_) rfl (by kernel_rfl) (by kernel_rfl) (by kernel_rfl) (fun _ _ _ h => h) (by kernel_rfl) (fun _ => hS) (by kernel_rfl) ?_ ?_
      rotate_left
      · intro _; go_simp; try with_reducible rfl
      simp only [Act.put, List.setIfInBounds_toArray, List.set_cons_zero, List.set_cons_succ]
      refine wpAnyG_one (i := 11) rfl (by kernel_rfl) (by kernel_rfl) (fun K hK => ?_)
      go_simp
      refine hK.out _ _ (fun h => absurd (show true = false from h) (by decide)) ?_
      clear hK K
      refine wpAnyG_done (by kernel_rfl) ?_ _
      go_wp2
      go_roundw
      case rel => exact ⟨k + 1, by omega, by go_num, by rw [HS.out]; exact hH1.set k _, hM1.setOther _ _ (by simp; omega), grown_set (grown_drew hG) _ _⟩
      case measure => simp [intOf]; omega
    · obtain rfl : k = 5 := by omega
      go_wp2
      go_end0
      exact ⟨⟨_, rfl⟩, hH, hG⟩
end Go.Proofs.YtfainlfiphdaeaaGreatDoor

namespace Go.Proofs.YtfainlfiphdaeaaGreatDoor
open Go.RowKit
set_option maxRecDepth 20000
set_option linter.unusedSimpArgs false

/-- Eight bytes as a number, step by step. -/
def halfK (z : List Int) : Nat → Int
  | 0 => 0
  | i + 1 => bits .or .u64 (halfK z i) (z[i]?.getD 0 % 18446744073709551616 * 2 ^ (8 * i) % 18446744073709551616)

set_option maxHeartbeats 1000000 in
theorem half_any (b off cap : Nat) (z : List Int) (w : World) (hc : ∀ j, j < 8 → w.cell? ⟨b, off + j, none⟩ = some (.int .u8 (z[j]?.getD 0))) :
    Calls Tryz.prog 203 #[.slice (some ⟨b, off, none⟩) 8 cap] w fun e w' => e = .returned (.int .u64 (halfK z 8)) ∧ w' = w := by
  go_enter Tryz.func203, Tryz.ntmps203
  go_wp2
  go_loop [3, 5] (fun x i => ∃ k : Nat, k ≤ 8 ∧ i = .int .i64 k ∧ x = .int .u64 (halfK z k)) (fun _ i => 8 - (intOf i).toNat)
  case atStart => exact ⟨0, by omega, rfl, rfl⟩
  case round =>
    obtain ⟨k, hk, rfl, rfl⟩ := hrel
    by_cases hlt : k < 8
    · have c := hc k hlt
      have HS : Veil (halfK z (k + 1) = bits .or .u64 (halfK z k) (z[k]?.getD 0 % 18446744073709551616 * 2 ^ (8 * k) % 18446744073709551616)) := ⟨rfl⟩
      obtain ⟨p, hp⟩ : ∃ p, z[k]?.getD 0 = p := ⟨_, rfl⟩
      obtain ⟨X, hX⟩ : ∃ p, halfK z k = p := ⟨_, rfl⟩
      rw [hp] at c HS
      rw [hX] at HS ⊢
      clear hp hX
      have hkc : k = 0 ∨ k = 1 ∨ k = 2 ∨ k = 3 ∨ k = 4 ∨ k = 5 ∨ k = 6 ∨ k = 7 := by omega
      clear hlt hk hc
      rcases hkc with rfl | rfl | rfl | rfl | rfl | rfl | rfl | rfl
      all_goals
        try rw [Nat.add_zero] at c
        go_wp2
        go_round
        case rel => exact ⟨_, by decide, rfl, by rw [HS.out]; simp [IntKind.wrap_u64]⟩
        case measure => simp [intOf]
    · obtain rfl : k = 8 := by omega
      go_wp2
      go_ret
      exact ⟨rfl, rfl⟩

theorem size17 : (Tryz.prog.info? 221).map (·.size) = some 17 := by kernel_rfl
theorem size5 : (Tryz.prog.info? 218).map (·.size) = some 5 := by kernel_rfl
theorem size16b : (Tryz.prog.info? 148).map (·.size) = some 16 := by kernel_rfl

theorem drop_get (z : List Int) (i j : Nat) : (z.drop i)[j]?.getD 0 = z[i + j]?.getD 0 := by rw [List.getElem?_drop]

/-- Seventeen bytes as five limbs. -/
def numL (z : List Int) : List Int :=
  let low := halfK z 8
  let high := halfK (z.drop 8) 8
  let top := z[16]?.getD 0 % 18446744073709551616
  [bits .and .u64 low 67108863, bits .and .u64 (low / 67108864) 67108863, bits .and .u64 (bits .or .u64 (low / 4503599627370496) (high * 4096 % 18446744073709551616)) 67108863, bits .and .u64 (high / 16384) 67108863, bits .or .u64 (high / 1099511627776) (top * 16777216 % 18446744073709551616)]

set_option maxHeartbeats 1000000 in
theorem numberOf_any (z : List Int) (w : World) (hz : z.length = 17) :
    Calls Tryz.prog 185 #[.agg (row .u8 z)] w fun e w' => e = .returned (.agg (row .u64 (numL z))) ∧ Below w.heap.size w w' := by
  have h0 : Holds (w.alloc (.cells (row .u8 z) 221)) w.heap.size .u8 221 z := Holds.new w .u8 _ z
  have hN : ∃ l, numL z = l := ⟨_, rfl⟩
  obtain ⟨l, hN⟩ := hN
  rw [hN]
  unfold numL at hN
  have h1 := fun (wx : World) (hx : Holds wx w.heap.size .u8 221 z) => half_any w.heap.size 0 17 z wx (fun j hj => by rw [Nat.zero_add]; exact hx.cell j (by omega))
  have h2 := fun (wx : World) (hx : Holds wx w.heap.size .u8 221 z) => half_any w.heap.size 8 9 (z.drop 8) wx (fun j hj => by rw [drop_get]; exact hx.cell (8 + j) (by omega))
  obtain ⟨A, hA⟩ : ∃ q, halfK z 8 = q := ⟨_, rfl⟩
  obtain ⟨B, hB⟩ : ∃ q, halfK (z.drop 8) 8 = q := ⟨_, rfl⟩
  obtain ⟨T, hT⟩ : ∃ q, z[16]?.getD 0 = q := ⟨_, rfl⟩
  rw [hA] at h1 hN
  rw [hB] at h2 hN
  rw [hT] at hN
  dsimp only at hN
  have HN : Veil (l = [bits .and .u64 A 67108863, bits .and .u64 (A / 67108864) 67108863, bits .and .u64 (bits .or .u64 (A / 4503599627370496) (IntKind.u64.wrap (B * 4096))) 67108863, bits .and .u64 (B / 16384) 67108863, bits .or .u64 (B / 1099511627776) (IntKind.u64.wrap (IntKind.u64.wrap T * 16777216))]) := ⟨by rw [← hN]; simp only [IntKind.wrap_u64]⟩
  have hll : l.length = 5 := by rw [HN.out]; rfl
  clear hN hA hB
  go_enter Tryz.func185, Tryz.ntmps185
  go_upto_region 1 with fail
  refine forget (p := fun y => Code.wp _ _ _ _ y) (fun W0 => Below w.heap.size w W0 ∧ W0.heap.size = w.heap.size + 2 ∧ Holds W0 w.heap.size .u8 221 z ∧ Holds W0 (w.heap.size + 1) .u64 218 (List.replicate 5 0)) ⟨((Below.refl _ _).alloc (Nat.le_refl _) _).alloc (by simp) _, by simp, h0.alloc _, ?_⟩ ?_
  · have := Holds.new (w.alloc (.cells (row .u8 z) 221)) .u64 218 (List.replicate 5 0)
    rw [World.size_alloc] at this
    exact this
  clear h0
  rintro W0 ⟨hB0, hs0, hz0, hR0⟩
  have hz1 := hz0.drew
  have c16 := hz1.cell 16 (by omega)
  rw [hT] at c16
  refine wp_region_gate (fun w' => w'.cell? ⟨w.heap.size, 16, none⟩ = some (.int .u8 T)) 9 (by kernel_rfl) ?_
  have hS : W0.drew.cell? ⟨w.heap.size, 16, none⟩ = some (.int .u8 T) := c16
  refine wpAnyG_any (i := 0) (v := ?_) rfl (by kernel_rfl) (by kernel_rfl) (by kernel_rfl) (fun _ _ _ h => h) (by kernel_rfl) (fun _ => hS) (by kernel_rfl) ?_ ?_
  rotate_left
  · intro _; go_simp; try with_reducible rfl
  simp only [Act.put, List.setIfInBounds_toArray, List.set_cons_zero, List.set_cons_succ]
  refine wpAnyG_any (i := 2) (v := ?_) rfl (by kernel_rfl) (by kernel_rfl) (by kernel_rfl) (fun _ _ _ h => h) (by kernel_rfl) (fun _ => hS) (by kernel_rfl) ?_ ?_
  rotate_left
  · intro _; go_simp; try with_reducible rfl
  simp only [Act.put, List.setIfInBounds_toArray, List.set_cons_zero, List.set_cons_succ]
  refine wpAnyG_any (i := 4) (v := ?_) rfl (by kernel_rfl) (by kernel_rfl) (by kernel_rfl) (fun _ _ _ h => h) (by kernel_rfl) (fun _ => hS) (by kernel_rfl) ?_ ?_
  rotate_left
  · intro _; go_simp; try with_reducible rfl
  simp only [Act.put, List.setIfInBounds_toArray, List.set_cons_zero, List.set_cons_succ]
  refine wpAnyG_read (i := 5) (v := ?_) rfl (by kernel_rfl) (by kernel_rfl) (by kernel_rfl) (fun _ _ _ h => h) (by kernel_rfl) (by kernel_rfl) (by kernel_rfl) hS (by kernel_rfl) ?_ ?_
  rotate_left
  · intro wx hSw; go_split_ands; go_simp; try with_reducible rfl
  simp only [Act.put, List.setIfInBounds_toArray, List.set_cons_zero, List.set_cons_succ]
  refine wpAnyG_any (i := 6) (v := ?_) rfl (by kernel_rfl) (by kernel_rfl) (by kernel_rfl) (fun _ _ _ h => h) (by kernel_rfl) (fun _ => hS) (by kernel_rfl) ?_ ?_
  rotate_left
  · intro _; go_simp; try with_reducible rfl
  simp only [Act.put, List.setIfInBounds_toArray, List.set_cons_zero, List.set_cons_succ]
  refine wpAnyG_one (i := 1) rfl (by kernel_rfl) (by kernel_rfl) (fun K hK => ?_)
  go_wp2_with (go_at_call 203; refine (h1 _ hz1).mono ?_; rintro e w1 ⟨rfl, rfl⟩)
  refine hK.out _ _ (fun _ => hS) ?_
  clear hK K
  refine wpAnyG_one (i := 3) rfl (by kernel_rfl) (by kernel_rfl) (fun K hK => ?_)
  go_wp2_with (go_at_call 203; refine (h2 _ hz1).mono ?_; rintro e w1 ⟨rfl, rfl⟩)
  refine hK.out _ _ (fun _ => hS) ?_
  clear hK K
  refine wpAnyG_any (i := 7) (v := ?_) rfl (by kernel_rfl) (by kernel_rfl) (by kernel_rfl) (fun _ _ _ h => h) (by kernel_rfl) (fun _ => hS) (by kernel_rfl) ?_ ?_
  rotate_left
  · intro _; go_simp; try with_reducible rfl
  simp only [Act.put, List.setIfInBounds_toArray, List.set_cons_zero, List.set_cons_succ]
  refine wpAnyG_any (i := 8) (v := ?_) rfl (by kernel_rfl) (by kernel_rfl) (by kernel_rfl) (fun _ _ _ h => h) (by kernel_rfl) (fun _ => hS) (by kernel_rfl) ?_ ?_
  rotate_left
  · intro _; go_simp; try with_reducible rfl
  simp only [Act.put, List.setIfInBounds_toArray, List.set_cons_zero, List.set_cons_succ]
  refine wpAnyG_one (i := 9) rfl (by kernel_rfl) (by kernel_rfl) (fun K hK => ?_)
  go_simp
  refine hK.out _ _ (fun h => absurd (show true = false from h) (by decide)) ?_
  clear hK K
  refine wpAnyG_done (by kernel_rfl) ?_ _
  have hR1 := hR0.drew
  go_wp2_with (refine wpList_st rfl 218 _ _ rfl _ rfl (k := .u64) (l := l) (by rw [HN.out]; rfl) hR1 (by rw [hll]; exact size5) (by simp [hll]) ?_)
  refine bodyPost_ret (results_holds (Tryz.results185) _ rfl (hR1.setRow _) Tryz.underlying218 size5 hll) rfl ⟨rfl, ?_⟩
  exact below_setRow (hB0.drew) (by omega) _

theorem bare_any (z : List Int) (w : World) (hz : z.length = 16) :
    Calls Tryz.prog 186 #[.agg (row .u8 z)] w fun e w' => e = .returned (.agg (row .u8 (z ++ [0]))) ∧ Below w.heap.size w w' := by
  have h0 : Holds (w.alloc (.cells (row .u8 z) 148)) w.heap.size .u8 148 z := Holds.new w .u8 _ z
  have hl : (z ++ [0]).length = 17 := by simp [hz]
  have HZ : Veil (z ++ List.replicate (17 - z.length) 0 = z ++ [0]) := ⟨by rw [hz]; rfl⟩
  go_enter Tryz.func186, Tryz.ntmps186
  go_upto_region 2 with fail
  refine forget (p := fun y => Code.wp _ _ _ _ y) (fun W0 => Below w.heap.size w W0 ∧ Holds W0 w.heap.size .u8 148 z ∧ Holds W0 (w.heap.size + 1) .u8 221 (List.replicate 17 0) ∧ Holds W0 (w.heap.size + 1 + 1) .u8 221 (List.replicate 17 0)) ⟨(((Below.refl _ _).alloc (Nat.le_refl _) _).alloc (by simp) _).alloc (by simp; omega) _, (h0.alloc _).alloc _, ?_, ?_⟩ ?_
  · have := Holds.new (w.alloc (.cells (row .u8 z) 148)) .u8 221 (List.replicate 17 0)
    rw [World.size_alloc] at this
    exact this.alloc _
  · have := Holds.new ((w.alloc (.cells (row .u8 z) 148)).alloc (.cells (row .u8 (List.replicate 17 0)) 221)) .u8 221 (List.replicate 17 0)
    rw [World.size_alloc, World.size_alloc] at this
    exact this
  clear h0
  rintro W0 ⟨hB0, hz0, hR0, hA0⟩
  have hcp := run_copy_bytes W0.drew (w.heap.size + 1 + 1) 17 (some ⟨w.heap.size, 0, none⟩) 16 16 z (hz0.drew.bytes hz.symm (by omega)) hA0.drew (by omega)
  rw [HZ.out] at hcp
  refine wp_region_gate (fun _ => True) 2 (by kernel_rfl) ?_
  have hS : True := trivial
  refine wpAnyG_any (i := 0) (v := ?_) rfl (by kernel_rfl) (by kernel_rfl) (by kernel_rfl) (fun _ _ _ h => h) (by kernel_rfl) (fun _ => hS) (by kernel_rfl) ?_ ?_
  rotate_left
  · intro _; go_simp; try with_reducible rfl
  simp only [Act.put, List.setIfInBounds_toArray, List.set_cons_zero, List.set_cons_succ]
  refine wpAnyG_any (i := 1) (v := ?_) rfl (by kernel_rfl) (by kernel_rfl) (by kernel_rfl) (fun _ _ _ h => h) (by kernel_rfl) (fun _ => hS) (by kernel_rfl) ?_ ?_
  rotate_left
  · intro _; go_simp; try with_reducible rfl
  simp only [Act.put, List.setIfInBounds_toArray, List.set_cons_zero, List.set_cons_succ]
  refine wpAnyG_one (i := 2) rfl (by kernel_rfl) (by kernel_rfl) (fun K hK => ?_)
  go_simp
  refine hK.out _ _ (fun h => absurd (show true = false from h) (by decide)) ?_
  clear hK K
  refine wpAnyG_done (by kernel_rfl) ?_ _
  go_upto_region 3 with fail
  refine forget (p := fun y => Code.wp _ _ _ _ y) (fun W1 => Below w.heap.size w W1 ∧ Holds W1 (w.heap.size + 1) .u8 221 (List.replicate 17 0) ∧ Holds W1 (w.heap.size + 1 + 1) .u8 221 (z ++ [0])) ⟨below_setRow hB0.drew (by omega) _, hR0.drew.setRowOther _ (by omega), hA0.drew.setRow _⟩ ?_
  clear hcp hA0 hR0 hz0 hB0 hS HZ
  rintro W1 ⟨hB, hR, hA⟩
  go_wp2_with (first
    | (refine wpList_ld rfl 221 _ rfl _ rfl hA Tryz.underlying221 size17 hl ?_)
    | (refine wpList_st rfl 221 _ _ rfl _ rfl rfl hR (by rw [hl]; exact size17) (by simp [hl]) ?_))
  refine bodyPost_ret (results_holds (Tryz.results186) _ rfl (hR.setRow _) Tryz.underlying221 size17 hl) rfl ⟨rfl, ?_⟩
  exact below_setRow hB (by omega) _
end Go.Proofs.YtfainlfiphdaeaaGreatDoor
