/- GoZ Few7 -/
import Derived.Test.YtfainlfiphdaeaaGreatDoorR09
import Derived.Test.YtfainlfiphdaeaaGreatDoorR12
import Derived.Test.YtfainlfiphdaeaaGreatDoorR02
namespace Go.Proofs.YtfainlfiphdaeaaGreatDoor
open Go.ChangeShapes Go.WideShapes Go.ChangeAt Go.RowKit
set_option maxRecDepth 20000
set_option linter.unusedSimpArgs false
theorem gTabK : Tryz.prog.globalNamed "escritoire/sha.roundWords" = some 1 := by kernel_rfl
theorem gTabKType : (Tryz.prog.globals[1]?).map (·.type) = some 207 := by kernel_rfl
theorem cellsK64 : Tryz.prog.cellsOf 207 = 64 := by kernel_rfl
theorem cellsKU32 : Tryz.prog.cellsOf 24 = 1 := by kernel_rfl
theorem tables2 {W : World} (h : laidMetH Tryz.prog [("escritoire/sha.roundWords", Rows.laid_escritoire_sha_roundWords), ("escritoire/wire.buckets", Rows.laid_escritoire_wire_buckets)] W) : S.KTab W ∧ BTab W := by
  have ht : Lib.TabIs Tryz.prog W "escritoire/sha.roundWords" .u32 S.kTab := Lib.tabIs_of_head (rest := [("escritoire/wire.buckets", Rows.laid_escritoire_wire_buckets)]) gTabK gTabKType Tryz.underlying207 Tryz.underlying24 cellsKU32 cellsK64 h
  have hb : Lib.TabIs Tryz.prog W "escritoire/wire.buckets" .i64 bTab := by
    obtain ⟨ps, ⟨_, _, _, _, _, _, _, _, _, _, hrest, _⟩, _⟩ := h
    obtain ⟨g', t', cs, fuel, p, q, hg', ht', hvar, hd, _, _⟩ := hrest
    obtain rfl := Option.some.inj (gTab.symm.trans hg')
    obtain rfl := Option.some.inj (gTabType.symm.trans ht')
    unfold Lib.TabIs
    rw [hvar, ← Lib.cells_of_tab Tryz.underlying180 Tryz.underlying3 cellsI64 cells6 hd]
  refine ⟨fun j hj => ?_, fun j v hv => ?_⟩
  · have := ht.cell gTabK j hj
    rw [List.getD_eq_getElem?_getD] at this
    exact this
  · have hj : j < bTab.length := by have := (List.getElem?_eq_some_iff.1 hv).1; simpa using this
    have := hb.cell gTab j hj
    rw [Nat.zero_add, this, ← hv, List.getElem?_map, List.getD_eq_getElem?_getD, List.getElem?_eq_getElem hj]; rfl
def layB : Obj → Obj
  | .cells _ t frozen => .cells (row .i64 bTab) t frozen
  | o => o
def layK : Obj → Obj
  | .cells _ t frozen => .cells (row .u32 S.kTab) t frozen
  | o => o
noncomputable def laidWorld2 (os : Os) : World :=
  { World.holding Tryz.prog os ⟨#[], #[], []⟩ with heap := ((World.holding Tryz.prog os ⟨#[], #[], []⟩).heap.modify 0 layB).modify 1 layK }
theorem event_of_trodZ {H : Type} {enc : TypeId × Value → H} {W : World} {fuel : Nat} {l : List Value} {x : DataW H × List MemPlace} (h : DataW.trod enc Tryz.prog W 0 (fun _ => true) true fuel 33 l = some x) : ∃ E : Ev, l = E.cells ∧ E.In := by
  obtain ⟨xs, m, _, _, hl, hlen, hfd⟩ := DataW.trod_struct Tryz.underlying33 h
  have hc : Tryz.prog.cellsOf 33 = 17 := by kernel_rfl
  have h8 : Tryz.prog.cellsOf 5 = 1 := by kernel_rfl
  have hk1 : Tryz.prog.cellsOf 30 = 1 := by kernel_rfl
  have hr1 : Tryz.prog.cellsOf 31 = 1 := by kernel_rfl
  have hb1 : Tryz.prog.cellsOf 4 = 1 := by kernel_rfl
  have hd : Tryz.prog.cellsOf 26 = 2 := by kernel_rfl
  have hp : Tryz.prog.cellsOf 29 = 8 := by kernel_rfl
  rw [hc] at hl
  have g0 : DataW.trod enc Tryz.prog W 0 (fun _ => true) true m 26 (List.take (Tryz.prog.cellsOf 26) (List.drop 0 l)) = xs[0]? := hfd 0 _ rfl
  have g1 : DataW.trod enc Tryz.prog W 0 (fun _ => true) true m 29 (List.take (Tryz.prog.cellsOf 29) (List.drop 2 l)) = xs[1]? := hfd 1 _ rfl
  have g2 : DataW.trod enc Tryz.prog W 0 (fun _ => true) true m 30 (List.take (Tryz.prog.cellsOf 30) (List.drop 10 l)) = xs[2]? := hfd 2 _ rfl
  have g3 : DataW.trod enc Tryz.prog W 0 (fun _ => true) true m 26 (List.take (Tryz.prog.cellsOf 26) (List.drop 11 l)) = xs[3]? := hfd 3 _ rfl
  have g4 : DataW.trod enc Tryz.prog W 0 (fun _ => true) true m 4 (List.take (Tryz.prog.cellsOf 4) (List.drop 13 l)) = xs[4]? := hfd 4 _ rfl
  have g5 : DataW.trod enc Tryz.prog W 0 (fun _ => true) true m 5 (List.take (Tryz.prog.cellsOf 5) (List.drop 14 l)) = xs[5]? := hfd 5 _ rfl
  have g6 : DataW.trod enc Tryz.prog W 0 (fun _ => true) true m 5 (List.take (Tryz.prog.cellsOf 5) (List.drop 15 l)) = xs[6]? := hfd 6 _ rfl
  have g7 : DataW.trod enc Tryz.prog W 0 (fun _ => true) true m 31 (List.take (Tryz.prog.cellsOf 31) (List.drop 16 l)) = xs[7]? := hfd 7 _ rfl
  simp only [List.size_toArray, List.length_cons, List.length_nil, Nat.reduceAdd] at hlen
  rw [hd, List.getElem?_eq_getElem (by omega)] at g0 g3
  rw [hp, List.getElem?_eq_getElem (by omega)] at g1
  rw [hk1, List.getElem?_eq_getElem (by omega)] at g2
  rw [hb1, List.getElem?_eq_getElem (by omega)] at g4
  rw [h8, List.getElem?_eq_getElem (by omega)] at g5 g6
  rw [hr1, List.getElem?_eq_getElem (by omega)] at g7
  obtain ⟨da, dsq, ed, wd⟩ := dot_of_trod g0
  obtain ⟨pv, hpv, ep, wp⟩ := row_of_trod5 Tryz.underlying29 Tryz.underlying24 (by kernel_rfl) (by simp [hl]) g1
  obtain ⟨k, ek, _, wk⟩ := DataW.trod_int Tryz.underlying30 g2
  obtain ⟨pa, psq, ea, wa⟩ := dot_of_trod g3
  obtain ⟨b, eb, _⟩ := DataW.trod_bool Tryz.underlying4 g4
  obtain ⟨c, ec, _, wc⟩ := DataW.trod_int Tryz.underlying5 g5
  obtain ⟨o, eo, _, wo⟩ := DataW.trod_int Tryz.underlying5 g6
  obtain ⟨ro, er, _, wr⟩ := DataW.trod_int Tryz.underlying31 g7
  refine ⟨⟨da, dsq, pv, k, pa, psq, b, c, o, ro⟩, ?_, ⟨wd.1, wd.2, hpv, fun x hx => bounds_u32 (wp x hx), bounds_u8 wk, wa.1, wa.2, bounds_u8 wc, bounds_u8 wo, bounds_u8 wr⟩⟩
  show l = dotC da dsq ++ pv.map (Value.int .u32) ++ ([.int .u8 k] ++ dotC pa psq ++ [.bool b, .int .u8 c, .int .u8 o, .int .u8 ro])
  have e4 : ([.bool b, .int .u8 c, .int .u8 o, .int .u8 ro] : List Value) = [.bool b] ++ [.int .u8 c] ++ [.int .u8 o] ++ [.int .u8 ro] := rfl
  rw [e4, ← ed, ← ep, ← ek, ← ea, ← eb, ← ec, ← eo, ← er, List.drop_zero]
  have s : ∀ a n m : Nat, a + n = m → l.take a ++ (l.drop a).take n = l.take m := fun a n m h => by rw [← h, List.take_add]
  simp only [← List.append_assoc]
  rw [s 2 8 10 rfl, s 10 1 11 rfl, s 11 2 13 rfl, s 13 1 14 rfl, s 14 1 15 rfl, s 15 1 16 rfl, s 16 1 17 rfl, List.take_of_length_le (by omega)]
structure Aq where
  own : Int
  seed : List Int
  num : Int
  prev : List Int
  ea : Int
  es : Int
  wraps : Value
  E : Ev
def Aq.cells (q : Aq) : List Value := [.int .u8 q.own] ++ q.seed.map (Value.int .u8) ++ [.int .u32 q.num] ++ q.prev.map (Value.int .u8) ++ dotC q.ea q.es ++ [q.wraps] ++ q.E.cells
structure AqIn (W : World) (q : Aq) (xw : Option Addr) (lw cw : Nat) (ws : List Wp) : Prop where
  own : in8 q.own
  seed : q.seed.length = 32
  seedI : ∀ x ∈ q.seed, in8 x
  num : in32 q.num
  prev : q.prev.length = 32
  prevI : ∀ x ∈ q.prev, in8 x
  ea : in8 q.ea
  es : in32 q.es
  wraps : q.wraps = .slice xw lw cw
  hw : WrapsAt W xw lw cw ws
  inW : ∀ e ∈ ws, e.In
  E : q.E.In
theorem open_ask {H : Type} {enc : TypeId × Value → H} {W : World} {r : Reach} {base : Nat} {v : Value} {d : DataW H} {p : List MemPlace} (hv : Value.okWide Tryz.prog W r base 35 v) (h : DataW.Trod enc Tryz.prog W 0 (fun _ => true) true 35 v d p) :
    ∃ (q : Aq) (xw : Option Addr) (lw cw : Nat) (ws : List Wp), v = .agg q.cells.toArray ∧ AqIn W q xw lw cw ws := by
  simp only [Value.okWide, Tryz.underlying35] at hv
  obtain ⟨cs0, rfl, hsz, _⟩ := hv
  obtain ⟨fuel, hf⟩ := h
  obtain ⟨xs, m, _, _, hl, hlen, hfd⟩ := DataW.trod_struct Tryz.underlying35 hf
  simp only [Value.cells] at hfd hl
  obtain ⟨cs⟩ := cs0
  simp only at hfd hl
  have hc : Tryz.prog.cellsOf 35 = 86 := by kernel_rfl
  have h8 : Tryz.prog.cellsOf 5 = 1 := by kernel_rfl
  have h32 : Tryz.prog.cellsOf 24 = 1 := by kernel_rfl
  have hd : Tryz.prog.cellsOf 26 = 2 := by kernel_rfl
  have hk : Tryz.prog.cellsOf 23 = 32 := by kernel_rfl
  have hw : Tryz.prog.cellsOf 27 = 1 := by kernel_rfl
  have he : Tryz.prog.cellsOf 33 = 17 := by kernel_rfl
  rw [hc] at hl
  have g0 : DataW.trod enc Tryz.prog W 0 (fun _ => true) true m 5 (List.take (Tryz.prog.cellsOf 5) (List.drop 0 cs)) = xs[0]? := hfd 0 _ rfl
  have g1 : DataW.trod enc Tryz.prog W 0 (fun _ => true) true m 23 (List.take (Tryz.prog.cellsOf 23) (List.drop 1 cs)) = xs[1]? := hfd 1 _ rfl
  have g2 : DataW.trod enc Tryz.prog W 0 (fun _ => true) true m 24 (List.take (Tryz.prog.cellsOf 24) (List.drop 33 cs)) = xs[2]? := hfd 2 _ rfl
  have g3 : DataW.trod enc Tryz.prog W 0 (fun _ => true) true m 23 (List.take (Tryz.prog.cellsOf 23) (List.drop 34 cs)) = xs[3]? := hfd 3 _ rfl
  have g4 : DataW.trod enc Tryz.prog W 0 (fun _ => true) true m 26 (List.take (Tryz.prog.cellsOf 26) (List.drop 66 cs)) = xs[4]? := hfd 4 _ rfl
  have g5 : DataW.trod enc Tryz.prog W 0 (fun _ => true) true m 27 (List.take (Tryz.prog.cellsOf 27) (List.drop 68 cs)) = xs[5]? := hfd 5 _ rfl
  have g6 : DataW.trod enc Tryz.prog W 0 (fun _ => true) true m 33 (List.take (Tryz.prog.cellsOf 33) (List.drop 69 cs)) = xs[6]? := hfd 6 _ rfl
  simp only [List.size_toArray, List.length_cons, List.length_nil, Nat.reduceAdd] at hlen
  rw [h8, List.getElem?_eq_getElem (by omega)] at g0
  rw [hk, List.getElem?_eq_getElem (by omega)] at g1 g3
  rw [h32, List.getElem?_eq_getElem (by omega)] at g2
  rw [hd, List.getElem?_eq_getElem (by omega)] at g4
  rw [hw, List.getElem?_eq_getElem (by omega)] at g5
  rw [he, List.getElem?_eq_getElem (by omega)] at g6
  obtain ⟨a, ea, _, wa⟩ := DataW.trod_int Tryz.underlying5 g0
  obtain ⟨sd, hsd, esd, wsd⟩ := row_of_trod5 Tryz.underlying23 Tryz.underlying5 (by kernel_rfl) (by simp [hl]) g1
  obtain ⟨n, en, _, wn⟩ := DataW.trod_int Tryz.underlying24 g2
  obtain ⟨pv, hpv, ep, wp⟩ := row_of_trod5 Tryz.underlying23 Tryz.underlying5 (by kernel_rfl) (by simp [hl]) g3
  obtain ⟨da, dsq, ed, wd⟩ := dot_of_trod g4
  obtain ⟨yw, lw, cw, ws, ew, hWs, hWi⟩ := wraps_of_trod g5
  obtain ⟨E, eE, hE⟩ := event_of_trodZ g6
  refine ⟨⟨a, sd, n, pv, da, dsq, .slice yw lw cw, E⟩, yw, lw, cw, ws, ?_, ⟨bounds_u8 wa, hsd, fun v hv => bounds_u8 (wsd v hv), bounds_u32 wn, hpv, fun v hv => bounds_u8 (wp v hv), wd.1, wd.2, rfl, hWs, hWi, hE⟩⟩
  congr 2
  show cs = ([.int .u8 a] : List Value) ++ sd.map (Value.int .u8) ++ [.int .u32 n] ++ pv.map (Value.int .u8) ++ dotC da dsq ++ [.slice yw lw cw] ++ E.cells
  rw [← ea, ← esd, ← en, ← ep, ← ed, ← ew, ← eE, List.drop_zero]
  have s : ∀ a n m : Nat, a + n = m → cs.take a ++ (cs.drop a).take n = cs.take m := fun a n m h => by rw [← h, List.take_add]
  rw [s 1 32 33 rfl, s 33 1 34 rfl, s 34 32 66 rfl, s 66 2 68 rfl, s 68 1 69 rfl, s 69 17 86 rfl, List.take_of_length_le (by omega)]
theorem aq_parts (q : Aq) (hs : q.seed.length = 32) (hp : q.prev.length = 32) (hE : q.E.past.length = 8) : q.cells.length = 86 ∧ q.cells[0]? = some (.int .u8 q.own) ∧ (q.cells.drop 1).take 32 = q.seed.map (Value.int .u8) ∧ q.cells[33]? = some (.int .u32 q.num) ∧ (q.cells.drop 34).take 32 = q.prev.map (Value.int .u8) ∧ (q.cells.drop 66).take 2 = dotC q.ea q.es ∧ q.cells[68]? = some q.wraps ∧ (q.cells.drop 69).take 17 = q.E.cells := by
  have hS : (q.seed.map (Value.int .u8)).length = 32 := by rw [List.length_map, hs]
  have hP : (q.prev.map (Value.int .u8)).length = 32 := by rw [List.length_map, hp]
  have hEl : q.E.cells.length = 17 := ev_len q.E hE
  have e1 : q.cells.drop 1 = q.seed.map (Value.int .u8) ++ ([.int .u32 q.num] ++ (q.prev.map (Value.int .u8) ++ (dotC q.ea q.es ++ ([q.wraps] ++ q.E.cells)))) := by unfold Aq.cells; simp
  have e33 : q.cells.drop 33 = [.int .u32 q.num] ++ (q.prev.map (Value.int .u8) ++ (dotC q.ea q.es ++ ([q.wraps] ++ q.E.cells))) := by
    rw [show 33 = 1 + 32 from rfl, ← List.drop_drop, e1, List.drop_left' hS]
  have e34 : q.cells.drop 34 = q.prev.map (Value.int .u8) ++ (dotC q.ea q.es ++ ([q.wraps] ++ q.E.cells)) := by
    rw [show 34 = 33 + 1 from rfl, ← List.drop_drop, e33]; rfl
  have e66 : q.cells.drop 66 = dotC q.ea q.es ++ ([q.wraps] ++ q.E.cells) := by
    rw [show 66 = 34 + 32 from rfl, ← List.drop_drop, e34, List.drop_left' hP]
  have e68 : q.cells.drop 68 = [q.wraps] ++ q.E.cells := by
    rw [show 68 = 66 + 2 from rfl, ← List.drop_drop, e66]; rfl
  have e69 : q.cells.drop 69 = q.E.cells := by
    rw [show 69 = 68 + 1 from rfl, ← List.drop_drop, e68]; rfl
  refine ⟨?_, rfl, ?_, ?_, ?_, ?_, ?_, ?_⟩
  · unfold Aq.cells; simp [hs, hp, hEl, dotC]
  · rw [e1, List.take_left' hS]
  · have := congrArg (·[0]?) e33
    simpa [List.getElem?_drop] using this
  · rw [e34, List.take_left' hP]
  · rw [e66]; rfl
  · have := congrArg (·[0]?) e68
    simpa [List.getElem?_drop] using this
  · rw [e69, List.take_of_length_le (by omega)]
def aqZ : Aq := ⟨0, List.replicate 32 0, 0, List.replicate 32 0, 0, 0, .slice none 0 0, evZ⟩
end Go.Proofs.YtfainlfiphdaeaaGreatDoor
namespace Go.Proofs.YtfainlfiphdaeaaGreatDoor
open Go.RowKit
set_option maxRecDepth 20000
set_option linter.unusedSimpArgs false
theorem aq_setW (q : Aq) (v : Value) (hs : q.seed.length = 32) (hp : q.prev.length = 32) : q.cells.set 68 v = ({ q with wraps := v } : Aq).cells := by
  have e0 : ∀ r : Aq, r.cells = ([Value.int .u8 r.own] ++ r.seed.map (Value.int .u8) ++ [Value.int .u32 r.num] ++ r.prev.map (Value.int .u8) ++ dotC r.ea r.es) ++ ([r.wraps] ++ r.E.cells) := fun r => by unfold Aq.cells; simp only [List.append_assoc]
  have hl : (([Value.int .u8 q.own] : List Value) ++ q.seed.map (Value.int .u8) ++ [Value.int .u32 q.num] ++ q.prev.map (Value.int .u8) ++ dotC q.ea q.es).length = 68 := by simp [dotC, hs, hp]
  rw [e0 q, e0 _, List.set_append_right _ _ (by omega), hl]; rfl
theorem aq_one (q : Aq) {x : Option Addr} {n c : Nat} (hw : q.wraps = .slice x n c) : ∀ v ∈ q.cells, v.oneCell' = true := by
  intro v hv
  unfold Aq.cells dotC at hv
  simp only [List.mem_append, List.mem_cons, List.not_mem_nil, or_false, List.mem_map, hw] at hv
  rcases hv with (((((rfl | ⟨x, _, rfl⟩) | rfl) | ⟨x, _, rfl⟩) | rfl | rfl) | rfl) | h
  all_goals first | rfl | exact ev_one q.E v h
theorem run_cutW7 (w : World) (b o len cap : Nat) (hh : 70 ≤ cap) : (Instr.slice 27 (.slice (some ⟨b, o, none⟩) len cap) none (some (.int .i64 70)) none).run Tryz.prog w = .ok (.slice (some ⟨b, o, none⟩) 70 cap) w := by
  rw [run_slice_h w 27 (some ⟨b, o, none⟩) len cap (by kernel_rfl : Tryz.prog.underlying 27 = some (.slice (Tryz.prog.elem 27))) .i64 70 (by omega) (by omega), (by kernel_rfl : (sizeOf (Tryz.prog.elem 27)).run Tryz.prog w = .ok 51 w)]
  simp [sliced, Result.andThen, Addr.add_mid']
theorem AqIn.cut {W : World} {q : Aq} {xw : Option Addr} {lw cw : Nat} {ws : List Wp} (h : AqIn W q xw lw cw ws) (n : Nat) (hn : n ≤ lw) : AqIn W { q with wraps := .slice xw n cw } xw n cw (ws.take n) := by
  have hl := h.hw.len_eq
  refine ⟨h.own, h.seed, h.seedI, h.num, h.prev, h.prevI, h.ea, h.es, rfl, ⟨by rw [List.length_take]; omega, by have := h.hw.le; omega, h.hw.top, h.hw.nil, fun e he => h.hw.ok e (List.mem_of_mem_take he), ?_⟩, fun x hx => h.inW x (List.mem_of_mem_take hx), h.E⟩
  rcases h.hw.at_ with h0 | ⟨b, off, hx, hc⟩
  · exact .inl (by omega)
  · exact .inr ⟨b, off, hx, fun j hj => by rw [List.getElem_take]; exact hc j (by rw [List.length_take] at hj; omega)⟩
theorem AqIn.below {W W' : World} {q : Aq} {xw : Option Addr} {lw cw : Nat} {ws : List Wp} (h : AqIn W q xw lw cw ws) (hb : Below W.heap.size W W') : AqIn W' q xw lw cw ws := ⟨h.own, h.seed, h.seedI, h.num, h.prev, h.prevI, h.ea, h.es, h.wraps, h.hw.below hb, h.inW, h.E⟩
theorem sizeAq : (Tryz.prog.info? 35).map (·.size) = some 86 := by kernel_rfl
set_option maxHeartbeats 8000000 in
theorem few7_any (q : Aq) (xw : Option Addr) (lw cw : Nat) (ws : List Wp) (w : World) (h : AqIn w q xw lw cw ws) :
    Calls Tryz.prog 15 #[.agg q.cells.toArray] w fun e w' => ∃ (q' : Aq) (n : Nat) (vs : List Wp), e = .returned (.agg q'.cells.toArray) ∧ (∀ w0, AqIn w0 q xw lw cw ws → AqIn w0 q' xw n cw vs) ∧ (n ≤ 70 ∧ q'.own = q.own ∧ q'.seed = q.seed ∧ q'.num = q.num ∧ q'.prev = q.prev ∧ q'.ea = q.ea ∧ q'.es = q.es ∧ q'.E = q.E) ∧ Below w.heap.size w w' := by
  obtain ⟨q86, _, _, _, _, _, q68, _⟩ := aq_parts q h.seed h.prev h.E.plen
  rw [h.wraps] at q68
  obtain ⟨Z, hzv, hz1, hZ⟩ : ∃ Z : List Value, (∀ wx, (zeroValue 35).run Tryz.prog wx = .ok (.agg Z.toArray) wx) ∧ ¬ Z.toArray = #[] ∧ Z.length = 86 := ⟨aqZ.cells, fun wx => by kernel_rfl, by decide, rfl⟩
  have hA := (CellsAt.new w 35 q.cells).alloc (.cells Z.toArray 35)
  have hR := CellsAt.new (w.alloc (.cells q.cells.toArray 35)) 35 Z
  rw [World.size_alloc] at hR
  have hb0 : Below w.heap.size w ((w.alloc (.cells q.cells.toArray 35)).alloc (.cells Z.toArray 35)) := ((Below.refl _ _).alloc (Nat.le_refl _) _).alloc (by simp) _
  have HQ := Veil.mk h
  have HP86 : Veil (∀ (q' : Aq) n vs, AqIn w q' xw n cw vs → q'.cells.length = 86 ∧ ∀ v ∈ q'.cells, v.oneCell' = true) := ⟨fun q' n vs h' => ⟨(aq_parts q' h'.seed h'.prev h'.E.plen).1, aq_one q' h'.wraps⟩⟩
  clear h
  have uA := Tryz.underlying35
  go_enter Tryz.func15, Tryz.ntmps15
  go_upto_region 1 with fail
  refine forget (p := fun y => Code.wp _ _ _ _ y) (fun W => Below w.heap.size w W ∧ CellsAt W w.heap.size 35 q.cells ∧ CellsAt W (w.heap.size + 1) 35 Z) ⟨hb0, hA, hR⟩ ?_
  clear hb0 hA hR hzv hz1
  rintro W ⟨hb, hA, hR⟩
  have c68 : W.cell? ⟨w.heap.size, 68, none⟩ = some (.slice xw lw cw) := (hA.cell 68).trans q68
  have g68 := hA.frozen 68
  by_cases hl : 70 < lw
  focus
    obtain ⟨b3, o3, rfl⟩ : ∃ b o, xw = some ⟨b, o, none⟩ := by
      rcases HQ.out.hw.at_ with h0 | ⟨b, o, hx, _⟩
      · omega
      · exact ⟨b, o, hx⟩
    have hcb := HQ.out.hw.le
    have hcut := fun wx => run_cutW7 wx b3 o3 lw cw (by omega)
    have hl' : (lw : Int) > 70 := by omega
    go_upto_region 3 with fail
    have hX : ∃ (q' : Aq) (n : Nat) (vs : List Wp), (∀ w0, AqIn w0 q (some ⟨b3, o3, none⟩) lw cw ws → AqIn w0 q' (some ⟨b3, o3, none⟩) n cw vs) ∧ (n ≤ 70 ∧ q'.own = q.own ∧ q'.seed = q.seed ∧ q'.num = q.num ∧ q'.prev = q.prev ∧ q'.ea = q.ea ∧ q'.es = q.es ∧ q'.E = q.E) ∧ CellsAt (W.setCell ⟨w.heap.size, 68, none⟩ (.slice (some ⟨b3, o3, none⟩) 70 cw)) w.heap.size 35 q'.cells := ⟨_, _, _, fun w0 h0 => h0.cut 70 (by omega), ⟨by omega, rfl, rfl, rfl, rfl, rfl, rfl, rfl⟩, by rw [← aq_setW q _ HQ.out.seed HQ.out.prev]; exact hA.set 68 _⟩
    refine forget (p := fun y => Code.wp _ _ _ _ y) (fun W => Below w.heap.size w W ∧ CellsAt W (w.heap.size + 1) 35 Z ∧ ∃ (q' : Aq) (n : Nat) (vs : List Wp), (∀ w0, AqIn w0 q (some ⟨b3, o3, none⟩) lw cw ws → AqIn w0 q' (some ⟨b3, o3, none⟩) n cw vs) ∧ (n ≤ 70 ∧ q'.own = q.own ∧ q'.seed = q.seed ∧ q'.num = q.num ∧ q'.prev = q.prev ∧ q'.ea = q.ea ∧ q'.es = q.es ∧ q'.E = q.E) ∧ CellsAt W w.heap.size 35 q'.cells) ⟨hb.setCell (Nat.le_refl _) _, hR.congr (Below.heap_setCell _ _ _ _ (by show w.heap.size + 1 ≠ w.heap.size; omega)), hX⟩ ?_
    clear hcut hl hl' hcb hb hA hR c68 g68 hX
    clear W
  rotate_left
  focus
    have hl' : ¬ (lw : Int) > 70 := by omega
    go_upto_region 3 with fail
    have hX : ∃ (q' : Aq) (n : Nat) (vs : List Wp), (∀ w0, AqIn w0 q xw lw cw ws → AqIn w0 q' xw n cw vs) ∧ (n ≤ 70 ∧ q'.own = q.own ∧ q'.seed = q.seed ∧ q'.num = q.num ∧ q'.prev = q.prev ∧ q'.ea = q.ea ∧ q'.es = q.es ∧ q'.E = q.E) ∧ CellsAt W w.heap.size 35 q'.cells := ⟨q, lw, ws, fun _ h0 => h0, ⟨by omega, rfl, rfl, rfl, rfl, rfl, rfl, rfl⟩, hA⟩
    refine forget (p := fun y => Code.wp _ _ _ _ y) (fun W => Below w.heap.size w W ∧ CellsAt W (w.heap.size + 1) 35 Z ∧ ∃ (q' : Aq) (n : Nat) (vs : List Wp), (∀ w0, AqIn w0 q xw lw cw ws → AqIn w0 q' xw n cw vs) ∧ (n ≤ 70 ∧ q'.own = q.own ∧ q'.seed = q.seed ∧ q'.num = q.num ∧ q'.prev = q.prev ∧ q'.ea = q.ea ∧ q'.es = q.es ∧ q'.E = q.E) ∧ CellsAt W w.heap.size 35 q'.cells) ⟨hb, hR, hX⟩ ?_
    clear hl hl' hb hA hR c68 g68 hX
    clear W
  all_goals (
    rintro W ⟨hb, hR, q', n, vs, hq, hrest, hA⟩
    obtain ⟨h86, h1⟩ := HP86.out q' n vs (hq w HQ.out)
    have iA : (Tryz.prog.info? 35).map (·.size) = some q'.cells.length := by rw [h86]; exact sizeAq
    have rA := hA.wholeM
    have HREST := Veil.mk (And.intro hq hrest)
    clear hq hrest
    go_wp2_with (first
      | (refine wpList_ldv rfl 35 _ rfl _ _ rfl q'.cells rA uA rfl iA ?_)
      | (refine wpList_stv rfl 35 _ _ rfl _ rfl rfl hR iA (by rw [hZ, h86]) h1 ?_))
    refine bodyPost_ret (results_cells (Tryz.results15) _ rfl (hR.setRow q'.cells) Tryz.underlying35 rfl iA) rfl ⟨q', n, vs, rfl, HREST.out.1, HREST.out.2, below_setRow hb (by omega) _⟩)
end Go.Proofs.YtfainlfiphdaeaaGreatDoor
