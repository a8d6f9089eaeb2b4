/- GoC GoD GoE Od Cmp Rt -/
import Derived.Test.YtmbdohnmbkpfaaaGreatRows
import Derived.Test.YtmbdohnmbkpfaaaGreatV07
import Derived.ProofKit
import Derived.OpenShut
import Derived.ChangeOld
import Derived.Deep.DeepHandedRow
import Derived.Test.YtmbdohnmbkpfaaaGreatV01
import Derived.Maps.AppendAt
import Derived.RangeFuncNested
import Derived.RangeFuncCalls
import Derived.RangeFuncLeaves
import Derived.RangeFuncBound
import Derived.Shelf.Abstract
import Derived.Shelf.RegionOpen
import Derived.WalkKit
import Derived.OwnWalkIn
import Derived.TacticsInMore
import Derived.LoopNIn
import Derived.LoopIn
namespace Go.Proofs.YtmbdohnmbkpfaaaGreat
open Go.ChangeShapes Go.WideShapes Go.ChangeAt Go.RowKit
set_option maxRecDepth 20000
set_option linter.unusedSimpArgs false
theorem own : ownKnob Tryz.prog.godebug = none := by kernel_rfl
theorem laidOut : laidOutB Tryz.prog = true := by kernel_rfl
theorem addC_mid (b o j : Nat) : (⟨b, o, none⟩ : Addr).add j = ⟨b, o + j, none⟩ := by unfold Addr.add; split <;> simp_all
theorem wfU8 {a : Int} (h : (Lit.int .u8 a).wf = true) : 0 ≤ a ∧ a ≤ 255 := by
 have h : (decide ((0 : Int) ≤ a) && decide (a ≤ 255)) = true := h
 simpa using h
theorem wfU32 {a : Int} (h : (Lit.int .u32 a).wf = true) : 0 ≤ a ∧ a ≤ 4294967295 := by
 have h : (decide ((0 : Int) ≤ a) && decide (a ≤ 4294967295)) = true := h
 simpa using h
theorem row_of_trodC {H : Type} {enc : TypeId × Value → H} {P : Program} {W : World} {n fuel : Nat} {t e : TypeId} {k : IntKind} {cs : List Value} {x : DataW H × List MemPlace} (hu : P.underlying t = some (.array n e)) (he : P.underlying e = some (.int k)) (hce : P.cellsOf e = 1)
    (hsz : cs.length = n) (h : DataW.trod enc P W 0 (fun _ => true) true fuel t cs = some x) :
    ∃ l : List Int, l.length = n ∧ cs = l.map (Value.int k) ∧ ∀ x ∈ l, (Lit.int k x).wf = true := by
 obtain ⟨xs, m, _, _, _, hlen, hel⟩ := DataW.trod_array hu h
 simp only [hce, Nat.mul_one] at hel
 have key : ∀ i (hi : i < cs.length), cs[i] = .int k (intOf cs[i]) ∧ (Lit.int k (intOf cs[i])).wf = true := fun i hi => by
  have h1 := hel i (by omega)
  rw [List.getElem?_eq_getElem (by omega)] at h1
  obtain ⟨a, ea, _, wa⟩ := DataW.trod_int he h1
  have e1 : (cs.drop i).take 1 = [cs[i]] := by
   rw [List.drop_eq_getElem_cons hi, List.take_succ_cons, List.take_zero]
  rw [e1] at ea
  have e2 : cs[i] = .int k a := by simpa using ea
  rw [e2]
  exact ⟨rfl, wa⟩
 refine ⟨cs.map intOf, by simp [hsz], ?_, ?_⟩
 · apply List.ext_getElem (by simp)
   intro i h1 h2
   have := (key i h1).1
   simp only [List.map_map, List.getElem_map, Function.comp]
   exact this
 · intro x hx
   obtain ⟨c, hc, rfl⟩ := List.mem_map.1 hx
   obtain ⟨i, hi, rfl⟩ := List.mem_iff_getElem.1 hc
   exact (key i hi).2
section
variable {H : Type} {enc : TypeId × Value → H} {W : World} {fuel : Nat} {cs : List Value} {x : DataW H × List MemPlace}
theorem dot_of_trodC (h : DataW.trod enc Tryz.prog W 0 (fun _ => true) true fuel 40 cs = some x) : ∃ a s, cs = dotC a s ∧ (0 ≤ a ∧ a ≤ 255) ∧ 0 ≤ s ∧ s ≤ 4294967295 := by
 obtain ⟨xs, m, _, _, hl, hlen, hfd⟩ := DataW.trod_struct Tryz.underlying40 h
 have hc : Tryz.prog.cellsOf 40 = 2 := by kernel_rfl
 have h8 : Tryz.prog.cellsOf 5 = 1 := by kernel_rfl
 have h32 : Tryz.prog.cellsOf 35 = 1 := by kernel_rfl
 rw [hc] at hl
 have g0 : DataW.trod enc Tryz.prog W 0 (fun _ => true) true m 5 (List.take (Tryz.prog.cellsOf 5) (List.drop 0 cs)) = xs[0]? := hfd 0 _ rfl
 have g1 : DataW.trod enc Tryz.prog W 0 (fun _ => true) true m 35 (List.take (Tryz.prog.cellsOf 35) (List.drop 1 cs)) = xs[1]? := hfd 1 _ rfl
 simp only [List.size_toArray, List.length_cons, List.length_nil, Nat.reduceAdd] at hlen
 rw [h8, List.getElem?_eq_getElem (by omega)] at g0
 rw [h32, List.getElem?_eq_getElem (by omega)] at g1
 obtain ⟨a, ea, _, wa⟩ := DataW.trod_int Tryz.underlying5 g0
 obtain ⟨s, es, _, ws⟩ := DataW.trod_int Tryz.underlying35 g1
 match cs, hl with
 | [c, d], _ =>
  simp at ea es
  subst ea es
  exact ⟨a, s, rfl, bounds_u8 wa, bounds_u32 ws⟩
end
theorem ev_of_trodC {H : Type} {enc : TypeId × Value → H} {W : World} {fuel : Nat} {l : List Value} {x : DataW H × List MemPlace} (h : DataW.trod enc Tryz.prog W 0 (fun _ => true) true fuel 44 l = some x) : ∃ E : Ev, l = E.cells ∧ E.Ok := by
 obtain ⟨xs, m, _, _, hl, hlen, hfd⟩ := DataW.trod_struct Tryz.underlying44 h
 have hc : Tryz.prog.cellsOf 44 = 17 := by kernel_rfl
 have h8 : Tryz.prog.cellsOf 5 = 1 := by kernel_rfl
 have hk1 : Tryz.prog.cellsOf 41 = 1 := by kernel_rfl
 have hr1 : Tryz.prog.cellsOf 42 = 1 := by kernel_rfl
 have hb1 : Tryz.prog.cellsOf 4 = 1 := by kernel_rfl
 have hd : Tryz.prog.cellsOf 40 = 2 := by kernel_rfl
 have hp : Tryz.prog.cellsOf 37 = 8 := by kernel_rfl
 rw [hc] at hl
 have g0 : DataW.trod enc Tryz.prog W 0 (fun _ => true) true m 40 (List.take (Tryz.prog.cellsOf 40) (List.drop 0 l)) = xs[0]? := hfd 0 _ rfl
 have g1 : DataW.trod enc Tryz.prog W 0 (fun _ => true) true m 37 (List.take (Tryz.prog.cellsOf 37) (List.drop 2 l)) = xs[1]? := hfd 1 _ rfl
 have g2 : DataW.trod enc Tryz.prog W 0 (fun _ => true) true m 41 (List.take (Tryz.prog.cellsOf 41) (List.drop 10 l)) = xs[2]? := hfd 2 _ rfl
 have g3 : DataW.trod enc Tryz.prog W 0 (fun _ => true) true m 40 (List.take (Tryz.prog.cellsOf 40) (List.drop 11 l)) = xs[3]? := hfd 3 _ rfl
 have g4 : DataW.trod enc Tryz.prog W 0 (fun _ => true) true m 4 (List.take (Tryz.prog.cellsOf 4) (List.drop 13 l)) = xs[4]? := hfd 4 _ rfl
 have g5 : DataW.trod enc Tryz.prog W 0 (fun _ => true) true m 5 (List.take (Tryz.prog.cellsOf 5) (List.drop 14 l)) = xs[5]? := hfd 5 _ rfl
 have g6 : DataW.trod enc Tryz.prog W 0 (fun _ => true) true m 5 (List.take (Tryz.prog.cellsOf 5) (List.drop 15 l)) = xs[6]? := hfd 6 _ rfl
 have g7 : DataW.trod enc Tryz.prog W 0 (fun _ => true) true m 42 (List.take (Tryz.prog.cellsOf 42) (List.drop 16 l)) = xs[7]? := hfd 7 _ rfl
 simp only [List.size_toArray, List.length_cons, List.length_nil, Nat.reduceAdd] at hlen
 rw [hd, List.getElem?_eq_getElem (by omega)] at g0 g3
 rw [hp, List.getElem?_eq_getElem (by omega)] at g1
 rw [hk1, List.getElem?_eq_getElem (by omega)] at g2
 rw [hb1, List.getElem?_eq_getElem (by omega)] at g4
 rw [h8, List.getElem?_eq_getElem (by omega)] at g5 g6
 rw [hr1, List.getElem?_eq_getElem (by omega)] at g7
 obtain ⟨da, dsq, ed, wd⟩ := dot_of_trodC g0
 obtain ⟨pv, hpv, ep, wp⟩ := row_of_trodC Tryz.underlying37 Tryz.underlying35 (by kernel_rfl) (by simp [hl]) g1
 obtain ⟨k, ek, _, wk⟩ := DataW.trod_int Tryz.underlying41 g2
 obtain ⟨pa, psq, ea, wa⟩ := dot_of_trodC g3
 obtain ⟨b, eb, _⟩ := DataW.trod_bool Tryz.underlying4 g4
 obtain ⟨c, ec, _, wc⟩ := DataW.trod_int Tryz.underlying5 g5
 obtain ⟨o, eo, _, wo⟩ := DataW.trod_int Tryz.underlying5 g6
 obtain ⟨ro, er, _, wr⟩ := DataW.trod_int Tryz.underlying42 g7
 refine ⟨⟨da, dsq, pv, k, pa, psq, b, c, o, ro⟩, ?_, ⟨⟨wd.1, wd.2⟩, hpv, fun x hx => wfU32 (wp x hx), ⟨wa.1, wa.2⟩, wfU8 wk, wfU8 wc, wfU8 wo, wfU8 wr⟩⟩
 show l = dotC da dsq ++ pv.map (Value.int .u32) ++ ([.int .u8 k] ++ dotC pa psq ++ [.bool b, .int .u8 c, .int .u8 o, .int .u8 ro])
 have e4 : ([.bool b, .int .u8 c, .int .u8 o, .int .u8 ro] : List Value) = [.bool b] ++ [.int .u8 c] ++ [.int .u8 o] ++ [.int .u8 ro] := rfl
 rw [e4, ← ed, ← ep, ← ek, ← ea, ← eb, ← ec, ← eo, ← er, List.drop_zero]
 have s : ∀ a n m : Nat, a + n = m → l.take a ++ (l.drop a).take n = l.take m := fun a n m h => by rw [← h, List.take_add]
 simp only [← List.append_assoc]
 rw [s 2 8 10 rfl, s 10 1 11 rfl, s 11 2 13 rfl, s 13 1 14 rfl, s 14 1 15 rfl, s 15 1 16 rfl, s 16 1 17 rfl, List.take_of_length_le (by omega)]
theorem exists_listC {α : Type} (n : Nat) (P : Nat → α → Prop) (h : ∀ i, i < n → ∃ a, P i a) : ∃ l : List α, l.length = n ∧ ∀ i (_ : i < n), ∃ hl : i < l.length, P i (l[i]'hl) := by
 induction n with
 | zero => exact ⟨[], rfl, fun i hi => by omega⟩
 | succ n ih =>
  obtain ⟨l, hl, hp⟩ := ih fun i hi => h i (by omega)
  obtain ⟨a, ha⟩ := h n (by omega)
  refine ⟨l ++ [a], by simp [hl], fun i hi => ?_⟩
  by_cases e : i < n
  · obtain ⟨h1, h2⟩ := hp i e
    exact ⟨by simp; omega, by rw [List.getElem_append_left h1]; exact h2⟩
  · obtain rfl : i = n := by omega
    refine ⟨by simp [hl], ?_⟩
    rw [List.getElem_append_right (by omega)]
    simpa [hl] using ha
structure EvsAt (w : World) (x : Option Addr) (len cap : Nat) (ds : List Ev) : Prop where
 len_eq : len = ds.length
 le : len ≤ cap
 top : cap ≤ 9223372036854775807
 at_ : len = 0 ∨ ∃ b off, x = some ⟨b, off, none⟩ ∧ ∀ j (hj : j < ds.length) (i : Nat) v, ds[j].cells[i]? = some v → w.cell? ⟨b, off + j * 17 + i, none⟩ = some v
 ok : ∀ d ∈ ds, d.Ok
theorem EvsAt.below {w w' : World} {x : Option Addr} {len cap : Nat} {ds : List Ev} (h : EvsAt w x len cap ds) (hb : Below w.heap.size w w') : EvsAt w' x len cap ds :=
 ⟨h.len_eq, h.le, h.top, by
  rcases h.at_ with h0 | ⟨b, off, hx, hc⟩
  · exact .inl h0
  · refine .inr ⟨b, off, hx, fun j hj i v hv => ?_⟩
    have := hc j hj i v hv
    exact (hb.cell (p := ⟨b, off + j * 17 + i, none⟩) (block_lt_of_cell this)).trans this, h.ok⟩
noncomputable def laidWorld (os : Os) : World := World.holding Tryz.prog os ⟨#[], #[], []⟩
theorem laid_none {P : Program} (w : World) : laidMet P [] w := ⟨[], by simp [DataW.LaidVars], by simp, by simp⟩
structure Ed where
 kind : Int
 au : Int
 who : Int
 i : Int
 c : Int
 role : Int
 e : Ev
def Ed.cells (d : Ed) : List Value := [.int .i64 d.kind] ++ [.int .u8 d.au] ++ [.int .u8 d.who] ++ [.int .i64 d.i] ++ [.int .u8 d.c] ++ [.int .u8 d.role] ++ d.e.cells
structure Ed.Ok (d : Ed) : Prop where
 au : 0 ≤ d.au ∧ d.au ≤ 255
 who : 0 ≤ d.who ∧ d.who ≤ 255
 i : -9223372036854775808 ≤ d.i ∧ d.i ≤ 9223372036854775807
 c : 0 ≤ d.c ∧ d.c ≤ 255
 role : 0 ≤ d.role ∧ d.role ≤ 255
 e : d.e.Ok
theorem wfI64 {a : Int} (h : (Lit.int .i64 a).wf = true) : -9223372036854775808 ≤ a ∧ a ≤ 9223372036854775807 := by
 have h : (decide ((-9223372036854775808 : Int) ≤ a) && decide (a ≤ 9223372036854775807)) = true := h
 simpa using h
theorem edit_of_trod {H : Type} {enc : TypeId × Value → H} {W : World} {fuel : Nat} {l : List Value} {x : DataW H × List MemPlace} (h : DataW.trod enc Tryz.prog W 0 (fun _ => true) true fuel 56 l = some x) : ∃ E : Ed, l = E.cells ∧ E.Ok := by
 obtain ⟨xs, m, _, _, hl, hlen, hfd⟩ := DataW.trod_struct Tryz.underlying56 h
 have hc : Tryz.prog.cellsOf 56 = 23 := by kernel_rfl
 have h8 : Tryz.prog.cellsOf 5 = 1 := by kernel_rfl
 have hi1 : Tryz.prog.cellsOf 3 = 1 := by kernel_rfl
 have hr1 : Tryz.prog.cellsOf 42 = 1 := by kernel_rfl
 have he1 : Tryz.prog.cellsOf 44 = 17 := by kernel_rfl
 rw [hc] at hl
 have g0 : DataW.trod enc Tryz.prog W 0 (fun _ => true) true m 3 (List.take (Tryz.prog.cellsOf 3) (List.drop 0 l)) = xs[0]? := hfd 0 _ rfl
 have g1 : DataW.trod enc Tryz.prog W 0 (fun _ => true) true m 5 (List.take (Tryz.prog.cellsOf 5) (List.drop 1 l)) = xs[1]? := hfd 1 _ rfl
 have g2 : DataW.trod enc Tryz.prog W 0 (fun _ => true) true m 5 (List.take (Tryz.prog.cellsOf 5) (List.drop 2 l)) = xs[2]? := hfd 2 _ rfl
 have g3 : DataW.trod enc Tryz.prog W 0 (fun _ => true) true m 3 (List.take (Tryz.prog.cellsOf 3) (List.drop 3 l)) = xs[3]? := hfd 3 _ rfl
 have g4 : DataW.trod enc Tryz.prog W 0 (fun _ => true) true m 5 (List.take (Tryz.prog.cellsOf 5) (List.drop 4 l)) = xs[4]? := hfd 4 _ rfl
 have g5 : DataW.trod enc Tryz.prog W 0 (fun _ => true) true m 42 (List.take (Tryz.prog.cellsOf 42) (List.drop 5 l)) = xs[5]? := hfd 5 _ rfl
 have g6 : DataW.trod enc Tryz.prog W 0 (fun _ => true) true m 44 (List.take (Tryz.prog.cellsOf 44) (List.drop 6 l)) = xs[6]? := hfd 6 _ rfl
 simp only [List.size_toArray, List.length_cons, List.length_nil, Nat.reduceAdd] at hlen
 rw [hi1, List.getElem?_eq_getElem (by omega)] at g0 g3
 rw [h8, List.getElem?_eq_getElem (by omega)] at g1 g2 g4
 rw [hr1, List.getElem?_eq_getElem (by omega)] at g5
 rw [he1, List.getElem?_eq_getElem (by omega)] at g6
 obtain ⟨k, ek, _, _⟩ := DataW.trod_int Tryz.underlying3 g0
 obtain ⟨a, ea, _, wa⟩ := DataW.trod_int Tryz.underlying5 g1
 obtain ⟨o, eo, _, wo⟩ := DataW.trod_int Tryz.underlying5 g2
 obtain ⟨i, ei, _, wi⟩ := DataW.trod_int Tryz.underlying3 g3
 obtain ⟨c, ec, _, wc⟩ := DataW.trod_int Tryz.underlying5 g4
 obtain ⟨r, er, _, wr⟩ := DataW.trod_int Tryz.underlying42 g5
 obtain ⟨E, eE, wE⟩ := ev_of_trodC g6
 refine ⟨⟨k, a, o, i, c, r, E⟩, ?_, ⟨wfU8 wa, wfU8 wo, wfI64 wi, wfU8 wc, wfU8 wr, wE⟩⟩
 show l = [.int .i64 k] ++ [.int .u8 a] ++ [.int .u8 o] ++ [.int .i64 i] ++ [.int .u8 c] ++ [.int .u8 r] ++ E.cells
 rw [← ek, ← ea, ← eo, ← ei, ← ec, ← er, ← eE, List.drop_zero]
 have sp : ∀ a n m : Nat, a + n = m → l.take a ++ (l.drop a).take n = l.take m := fun a n m h => by rw [← h, List.take_add]
 rw [sp 1 1 2 rfl, sp 2 1 3 rfl, sp 3 1 4 rfl, sp 4 1 5 rfl, sp 5 1 6 rfl, sp 6 17 23 rfl, List.take_of_length_le (by omega)]
theorem open_edit {H : Type} {enc : TypeId × Value → H} {W : World} {r : Reach} {base : Nat} {v : Value} {d : DataW H} {p : List MemPlace} (hv : Value.okWide Tryz.prog W r base 56 v) (h : DataW.Trod enc Tryz.prog W 0 (fun _ => true) true 56 v d p) :
    ∃ E : Ed, v = .agg E.cells.toArray ∧ E.Ok := by
 simp only [Value.okWide, Tryz.underlying56] at hv
 obtain ⟨cs, rfl, hsz, _⟩ := hv
 obtain ⟨fuel, hf⟩ := h
 obtain ⟨E, hE, hO⟩ := edit_of_trod hf
 exact ⟨E, by rw [← hE]; rfl, hO⟩
def edZ : Ed := ⟨0, 0, 0, 0, 0, 0, ⟨0, 0, [0, 0, 0, 0, 0, 0, 0, 0], 0, 0, 0, false, 0, 0, 0⟩⟩
theorem ed_parts (X : Ed) (hp : X.e.past.length = 8) : X.cells[0]? = some (.int .i64 X.kind) ∧ X.cells[1]? = some (.int .u8 X.au) ∧ X.cells[2]? = some (.int .u8 X.who) ∧ X.cells[3]? = some (.int .i64 X.i) ∧ X.cells[4]? = some (.int .u8 X.c) ∧ X.cells[5]? = some (.int .u8 X.role) ∧ (X.cells.drop 6).take 17 = X.e.cells ∧ (X.cells.drop 6).take 2 = dotC X.e.da X.e.ds ∧ X.cells.length = 23 := by
 obtain ⟨k, a, o, i, c, r, ⟨da, ds, past, kind, pa, ps, right, char, who, role⟩⟩ := X
 match past, hp with
 | [_, _, _, _, _, _, _, _], _ => exact ⟨rfl, rfl, rfl, rfl, rfl, rfl, rfl, rfl, rfl⟩
structure EdsAt (w : World) (x : Option Addr) (len cap : Nat) (ds : List Ed) : Prop where
 len_eq : len = ds.length
 le : len ≤ cap
 top : cap ≤ 9223372036854775807
 at_ : len = 0 ∨ ∃ b off, x = some ⟨b, off, none⟩ ∧ ∀ j (hj : j < ds.length) (i : Nat) v, ds[j].cells[i]? = some v → w.cell? ⟨b, off + j * 23 + i, none⟩ = some v
 ok : ∀ d ∈ ds, d.Ok
theorem EdsAt.below {w w' : World} {x : Option Addr} {len cap : Nat} {ds : List Ed} (h : EdsAt w x len cap ds) (hb : Below w.heap.size w w') : EdsAt w' x len cap ds :=
 ⟨h.len_eq, h.le, h.top, by
  rcases h.at_ with h0 | ⟨b, off, hx, hc⟩
  · exact .inl h0
  · refine .inr ⟨b, off, hx, fun j hj i v hv => ?_⟩
    have := hc j hj i v hv
    exact (hb.cell (p := ⟨b, off + j * 23 + i, none⟩) (block_lt_of_cell this)).trans this, h.ok⟩
theorem edits_of_trod {H : Type} {enc : TypeId × Value → H} {W : World} {fuel : Nat} {cs : List Value} {x : DataW H × List MemPlace} (h : DataW.trod enc Tryz.prog W 0 (fun _ => true) true fuel 22 cs = some x) : ∃ y len cap ds, cs = [.slice y len cap] ∧ EdsAt W y len cap ds := by
 have hc : Tryz.prog.cellsOf 56 = 23 := by kernel_rfl
 rcases DataW.trod_slice Tryz.underlying22 h with ⟨hcs, _⟩ | ⟨a, len, cap, elems, rest, m, _, hcs, _, _, hl, hm, hlen, hel, _⟩
 · exact ⟨none, 0, 0, [], hcs, ⟨rfl, by omega, by omega, .inl rfl, (fun e he => by cases he)⟩⟩
 · have each : ∀ i, i < len → ∃ e : Ed, (∀ (j : Nat) v, e.cells[j]? = some v → W.cell? ((a.add (i * 23)).add j) = some v) ∧ e.Ok := fun i hi => by
    have h1 := hel i hi
    rw [hc, List.getElem?_eq_getElem (by omega), Option.bind_eq_some_iff] at h1
    obtain ⟨ci, hci, hti⟩ := h1
    obtain ⟨e, rfl, hin⟩ := edit_of_trod hti
    have hs := World.cells?_some hci
    refine ⟨e, fun j v hv => ?_, hin⟩
    have hj : j < 23 := by
     have := (List.getElem?_eq_some_iff.1 hv).1
     have := hs.2.1
     omega
    rw [hs.2.2 j hj]; exact hv
   obtain ⟨ds, hdl, hds⟩ := exists_listC len _ each
   refine ⟨some a, len, cap, ds, hcs, ⟨hdl.symm, hl, by simpa [maxLen] using hm, ?_, fun e he => ?_⟩⟩
   · by_cases h0 : len = 0
     · exact .inl h0
     · obtain ⟨b, off, spot⟩ := a
       obtain ⟨hl0, h00, _⟩ := hds 0 (by omega)
       have h00 := h00 0 (.int .i64 (ds[0]).kind) rfl
       have hspot : spot = none := by
        have := World.cell?_spot h00
        simpa [Addr.add] using this
       subst hspot
       refine .inr ⟨b, off, rfl, fun j hj i v hv => ?_⟩
       obtain ⟨_, hj2, _⟩ := hds j (by omega)
       have := hj2 i v hv
       rw [addC_mid, addC_mid] at this
       exact this
   · obtain ⟨i, hi, rfl⟩ := List.mem_iff_getElem.1 he
     obtain ⟨_, _, h2⟩ := hds i (by omega)
     exact h2
theorem open_edits {H : Type} {enc : TypeId × Value → H} {W : World} {x : Option Addr} {len cap : Nat} {d : DataW H} {p : List MemPlace} (h : DataW.Trod enc Tryz.prog W 0 (fun _ => true) true 22 (.slice x len cap) d p) : ∃ ds, EdsAt W x len cap ds := by
 obtain ⟨fuel, hf⟩ := h
 obtain ⟨y, l, c, ds, hcs, hd⟩ := edits_of_trod hf
 simp [Value.cells] at hcs
 obtain ⟨rfl, rfl, rfl⟩ := hcs
 exact ⟨ds, hd⟩
open Go.RowKit
def dotsC (L : List (Int × Int)) : List Value := (L.map fun d => dotC d.1 d.2).flatten
def OwnD (w : World) (base : Nat) (v : Value) (L : List (Int × Int)) : Prop := w.ownsRow base 40 2 v L.length (dotsC L)
theorem OwnD.nil (w : World) (base : Nat) : OwnD w base (.slice none 0 0) [] := World.ownsRow_nil w base 40 2
theorem OwnD.isSlice {w : World} {base : Nat} {v : Value} {L : List (Int × Int)} (h : OwnD w base v L) : ∃ x c, v = .slice x L.length c := by
 rcases h.2 with ⟨rfl, h0⟩ | ⟨g, cap, cur, rfl, _⟩
 · exact ⟨none, 0, by rw [h0]⟩
 · exact ⟨_, _, rfl⟩
theorem OwnD.congr {w w' : World} {base : Nat} {v : Value} {L : List (Int × Int)} (h : OwnD w base v L) (hk : ∀ g, v.ownBlock = some g → w'.heap[g]? = w.heap[g]?) : OwnD w' base v L := by
 refine ⟨h.1, ?_⟩
 rcases h.2 with h' | ⟨g, cap, cur, h1, h2, h3, h4⟩
 · exact .inl h'
 · exact .inr ⟨g, cap, cur, h1, h2, (hk g (by rw [h1]; rfl)).trans h3, h4⟩
theorem OwnD.blockLt {w : World} {base : Nat} {v : Value} {L : List (Int × Int)} (h : OwnD w base v L) (g : Nat) (hg : v.ownBlock = some g) : g < w.heap.size ∧ base ≤ g ∧ ∃ cur, w.heap[g]? = some (.cells cur 40 (0, 0)) := by
 rcases h.2 with ⟨rfl, _⟩ | ⟨g', cap, cur, rfl, h2, h3, _⟩
 · cases hg
 · obtain rfl : g' = g := by simpa [Value.ownBlock] using hg
   exact ⟨(Array.getElem?_eq_some_iff.1 h3).1, h2, cur, h3⟩
theorem dotsC_get (L : List (Int × Int)) (j : Nat) (hj : j < L.length) : ((dotsC L).drop (j * 2)).take 2 = dotC (L[j]).1 (L[j]).2 := by
 induction L generalizing j with
 | nil => simp at hj
 | cons e L ih =>
  have hcons : dotsC (e :: L) = dotC e.1 e.2 ++ dotsC L := by simp [dotsC]
  rw [hcons]
  cases j with
  | zero => rfl
  | succ j =>
   have := ih j (by simpa using hj)
   rw [show (j + 1) * 2 = (dotC e.1 e.2).length + j * 2 by simp [dotC]; omega, List.drop_length_add_append, this]
   rfl
theorem OwnD.at_ {w : World} {base : Nat} {x : Option Addr} {n c : Nat} {L : List (Int × Int)} (h : OwnD w base (.slice x n c) L) (j : Nat) (hj : j < L.length) : ∃ g, x = some ⟨g, 0, none⟩ ∧ n = L.length ∧ w.rangeAt g (j * 2) (dotC (L[j]).1 (L[j]).2) := by
 rcases h.2 with ⟨h1, h0⟩ | ⟨g, cap', cur, h1, _, hg, hc, hm, hs, ht⟩
 · omega
 · cases h1
   refine ⟨g, rfl, rfl, fun i v hv => ?_⟩
   have hi : i < 2 := by have := (List.getElem?_eq_some_iff.1 hv).1; simpa [dotC] using this
   rw [cell_of_row w g _ _ _ _ hg, ← Array.getElem?_toList]
   have e := dotsC_get L j hj
   rw [← ht] at e
   have hlt : j * 2 + i < L.length * 2 := by omega
   rw [← e, List.getElem?_take_of_lt hi, List.getElem?_drop, List.getElem?_take_of_lt hlt] at hv
   exact hv
structure Turn (p : Nat → Prop) (w w' : World) : Prop where
 os : w'.os = w.os
 tape : w'.tape = w.tape
 output : w'.output = w.output
 size : w.heap.size ≤ w'.heap.size
 block : ∀ k, k < w.heap.size → ¬ p k → w'.heap[k]? = w.heap[k]?
theorem Turn.refl (p : Nat → Prop) (w : World) : Turn p w w := ⟨rfl, rfl, rfl, Nat.le_refl _, fun _ _ _ => rfl⟩
theorem Turn.of_below {p : Nat → Prop} {w w' : World} (h : Below w.heap.size w w') : Turn p w w' := ⟨h.os, h.tape, h.output, h.size, fun k hk _ => h.block k hk⟩
theorem Turn.of_grown {p : Nat → Prop} {w w' : World} {r : Option Nat} (h : w.grownBy w' r) (hp : ∀ k, r = some k → p k) : Turn p w w' := ⟨h.os, h.tape, h.output, h.size, fun k hk hn => h.block k hk (fun e => hn (hp k e.symm))⟩
theorem Turn.of_setCell {p : Nat → Prop} (w : World) {a : Addr} (ha : p a.block) (u : Value) : Turn p w (w.setCell a u) := ⟨rfl, rfl, rfl, by simp [World.setCell], fun k _ hn => Below.heap_setCell w a u k (fun e => hn (by rw [e]; exact ha))⟩
theorem Turn.trans {p : Nat → Prop} {a b c : World} (h : Turn p a b) (k : Turn p b c) : Turn p a c :=
 ⟨k.os.trans h.os, k.tape.trans h.tape, k.output.trans h.output, Nat.le_trans h.size k.size, fun i hi hn => (k.block i (Nat.lt_of_lt_of_le hi h.size) hn).trans (h.block i hi hn)⟩
theorem Turn.mono {p q : Nat → Prop} {w w' : World} (h : Turn p w w') (hq : ∀ k, k < w.heap.size → p k → q k) : Turn q w w' := ⟨h.os, h.tape, h.output, h.size, fun k hk hn => h.block k hk (fun e => hn (hq k hk e))⟩
theorem Turn.below {p : Nat → Prop} {w w' : World} {B : Nat} (h : Turn p w w') (hB : B ≤ w.heap.size) (hp : ∀ k, p k → B ≤ k) : Below B w w' := ⟨h.os, h.tape, h.output, h.size, fun k hk => h.block k (by omega) (fun e => by have := hp k e; omega)⟩
def cmpI (a b : Int) : Int := if a < b then -1 else if b < a then 1 else 0
def cmpD (x y : Int × Int) : Int := if x.1 = y.1 then cmpI x.2 y.2 else cmpI x.1 y.1
theorem nanB_any (a : Int) (w : World) : Calls Tryz.prog 135 #[.int .u8 a] w fun e w' => e = .returned (.bool false) ∧ w' = w := by
 go_enter Tryz.func135, Tryz.ntmps135
 go_wp2
 go_ret
 exact ⟨rfl, rfl⟩
theorem nanU_any (a : Int) (w : World) : Calls Tryz.prog 136 #[.int .u32 a] w fun e w' => e = .returned (.bool false) ∧ w' = w := by
 go_enter Tryz.func136, Tryz.ntmps136
 go_wp2
 go_ret
 exact ⟨rfl, rfl⟩
theorem cmpB_any (a b : Int) (w : World) : Calls Tryz.prog 131 #[.int .u8 a, .int .u8 b] w fun e w' => e = .returned (.int .i64 (cmpI a b)) ∧ w' = w := by
 have hn := fun x => nanB_any x w
 have HC : Veil (cmpI a b = if a < b then -1 else if b < a then 1 else 0) := ⟨rfl⟩
 generalize cmpI a b = R at HC ⊢
 go_enter Tryz.func131, Tryz.ntmps131
 by_cases h1 : a < b
 · have HR : Veil (R = -1) := ⟨by rw [HC.out, if_pos h1]⟩
   go_wp2_with (go_at_call 135; refine (hn _).mono ?_; rintro e w' ⟨rfl, rfl⟩)
   go_ret
   exact ⟨by rw [HR.out]; rfl, rfl⟩
 · by_cases h2 : b < a
   · have HR : Veil (R = 1) := ⟨by rw [HC.out, if_neg h1, if_pos h2]⟩
     go_wp2_with (go_at_call 135; refine (hn _).mono ?_; rintro e w' ⟨rfl, rfl⟩)
     go_ret
     exact ⟨by rw [HR.out]; rfl, rfl⟩
   · have HR : Veil (R = 0) := ⟨by rw [HC.out, if_neg h1, if_neg h2]⟩
     go_wp2_with (go_at_call 135; refine (hn _).mono ?_; rintro e w' ⟨rfl, rfl⟩)
     go_ret
     exact ⟨by rw [HR.out]; rfl, rfl⟩
theorem cmpU_any (a b : Int) (w : World) : Calls Tryz.prog 132 #[.int .u32 a, .int .u32 b] w fun e w' => e = .returned (.int .i64 (cmpI a b)) ∧ w' = w := by
 have hn := fun x => nanU_any x w
 have HC : Veil (cmpI a b = if a < b then -1 else if b < a then 1 else 0) := ⟨rfl⟩
 generalize cmpI a b = R at HC ⊢
 go_enter Tryz.func132, Tryz.ntmps132
 by_cases h1 : a < b
 · have HR : Veil (R = -1) := ⟨by rw [HC.out, if_pos h1]⟩
   go_wp2_with (go_at_call 136; refine (hn _).mono ?_; rintro e w' ⟨rfl, rfl⟩)
   go_ret
   exact ⟨by rw [HR.out]; rfl, rfl⟩
 · by_cases h2 : b < a
   · have HR : Veil (R = 1) := ⟨by rw [HC.out, if_neg h1, if_pos h2]⟩
     go_wp2_with (go_at_call 136; refine (hn _).mono ?_; rintro e w' ⟨rfl, rfl⟩)
     go_ret
     exact ⟨by rw [HR.out]; rfl, rfl⟩
   · have HR : Veil (R = 0) := ⟨by rw [HC.out, if_neg h1, if_neg h2]⟩
     go_wp2_with (go_at_call 136; refine (hn _).mono ?_; rintro e w' ⟨rfl, rfl⟩)
     go_ret
     exact ⟨by rw [HR.out]; rfl, rfl⟩
open Go Go.RowKit
structure StaysT (T : Nat → Prop) (w w' : World) : Prop where
 os : w'.os = w.os
 tape : w'.tape = w.tape
 output : w'.output = w.output
 size : w.heap.size ≤ w'.heap.size
 block : ∀ k, T k → w'.heap[k]? = w.heap[k]?
structure MovesT (T : Nat → Prop) (w : World) (T' : Nat → Prop) (w' : World) : Prop where
 turn : Turn T w w'
 own : ∀ k, T' k → (T k ∨ w.heap.size ≤ k) ∧ k < w'.heap.size
theorem StaysT.of_below {T : Nat → Prop} {w w' : World} (h : Below w.heap.size w w') (hT : ∀ k, T k → k < w.heap.size) : StaysT T w w' := ⟨h.os, h.tape, h.output, h.size, fun k hk => h.block k (hT k hk)⟩
theorem StaysT.put {T : Nat → Prop} {w : World} {l : Nat} (o : Obj) (hT : ¬ T l) : StaysT T w (w.putObj l o) := ⟨rfl, rfl, rfl, by simp [World.putObj], fun k hk => World.putObj_heap_other (fun e => hT (e ▸ hk))⟩
theorem Turn.put {p : Nat → Prop} {w : World} {l : Nat} (o : Obj) (hp : p l) : Turn p w (w.putObj l o) := ⟨rfl, rfl, rfl, by simp [World.putObj], fun k _ hk => World.putObj_heap_other (fun e => hk (e ▸ hp))⟩
theorem MovesT.of_below {T : Nat → Prop} {w w' : World} (h : Below w.heap.size w w') (hT : ∀ k, T k → k < w.heap.size) : MovesT T w T w' := ⟨Turn.of_below h, fun k hk => ⟨.inl hk, Nat.lt_of_lt_of_le (hT k hk) h.size⟩⟩
theorem MovesT.trans {T T1 T2 : Nat → Prop} {w w1 w2 : World} (h : MovesT T w T1 w1) (k : MovesT T1 w1 T2 w2) : MovesT T w T2 w2 :=
 ⟨⟨k.turn.os.trans h.turn.os, k.turn.tape.trans h.turn.tape, k.turn.output.trans h.turn.output, Nat.le_trans h.turn.size k.turn.size, fun i hi hn => (k.turn.block i (Nat.lt_of_lt_of_le hi h.turn.size) (fun e => by rcases (h.own i e).1 with q | q; exact hn q; omega)).trans (h.turn.block i hi hn)⟩,
  fun i hi => ⟨by rcases (k.own i hi).1 with q | q; exact (h.own i q).1; exact .inr (Nat.le_trans h.turn.size q), (k.own i hi).2⟩⟩
def roundOut (R : Option Code → World → Prop) : Exit → Act → World → Prop
 | .normal, _, W => R none W
 | .ret, _, W => R (some .ret) W
 | .exit id, _, W => R (some (.exit id)) W
 | .goto t, _, W => R (some (.goto t)) W
 | _, _, _ => False
def SeqT {α : Type} (n : Nat) (P : Program) (gf : Nat) (lb : Array Value) (encs : α → Array Value) (Own Wr : Nat → Prop) (Post Postx : List α → World → Prop) (ok : α → Prop) (N : Nat) (w : World) : Prop :=
 ∀ (l : Nat) (T : Nat → Prop) (J Jx : (Nat → Prop) → List α → World → Prop) (W : World),
  Below w.heap.size w W → (∀ k, T k → ¬ Own k ∧ k < W.heap.size) →
  (∀ T s A B, J T s A → StaysT (fun k => T k ∨ (k < W.heap.size ∧ ¬ Wr k)) A B → J T s B) → (∀ T s A B, Jx T s A → StaysT (fun k => T k ∨ (k < W.heap.size ∧ ¬ Wr k)) A B → Jx T s B) →
  (∀ T pre x W1, J T pre W1 → ok x → pre.length < N → (∀ k, T k → k < W1.heap.size) → YieldAt Fence.wide (n - 1) P l (encs x) W1 fun e W' =>
   (e = .returned (.bool true) ∧ ∃ T', J T' (pre ++ [x]) W' ∧ MovesT T W1 T' W') ∨ (e = .returned (.bool false) ∧ ∃ T', Jx T' (pre ++ [x]) W' ∧ MovesT T W1 T' W')) →
  J T [] W →
  CallsIn Fence.wide n P gf (#[.func (.yield l) #[] #[]] ++ lb) W fun e W' => (∃ v, e = .returned v) ∧
   ((∃ xs T', Post xs W' ∧ J T' xs W' ∧ MovesT (fun k => T k ∨ Wr k) W T' W') ∨ (∃ xs T', Postx xs W' ∧ Jx T' xs W' ∧ MovesT (fun k => T k ∨ Wr k) W T' W'))
def HeldT (l D B0 : Nat) (T0 : Nat → Prop) (rc : Loop) (R : (Nat → Prop) → World → Prop) (Ti : Nat → Prop) (W : World) : Prop :=
 ∃ T, (∀ k, Ti k ↔ (T k ∨ k = l ∨ k = D)) ∧ R T W ∧ (∀ k, T k → T0 k ∨ B0 ≤ k) ∧ W.heap[l]? = some (.loop rc) ∧ W.heap[D]? = some (.deferred (some []))
theorem HeldT.stays {l D B0 : Nat} {T0 Z Z' : Nat → Prop} {rc : Loop} {R : (Nat → Prop) → World → Prop} {Ti : Nat → Prop} {A B : World} (hZ : ∀ k, Z k → Z' k) (hR : ∀ T, R T A → StaysT (fun k => T k ∨ Z k) A B → R T B) (h : HeldT l D B0 T0 rc R Ti A) (hs : StaysT (fun k => Ti k ∨ Z' k) A B) : HeldT l D B0 T0 rc R Ti B := by
 obtain ⟨T, hT, hr, h0, hl, hd⟩ := h
 exact ⟨T, hT, hR T hr ⟨hs.os, hs.tape, hs.output, hs.size, fun k hk => hs.block k (hk.elim (fun q => .inl ((hT k).2 (.inl q))) (fun q => .inr (hZ k q)))⟩, h0, (hs.block l (.inl ((hT l).2 (.inr (.inl rfl))))).trans hl, (hs.block D (.inl ((hT D).2 (.inr (.inr rfl))))).trans hd⟩
end Go.Proofs.YtmbdohnmbkpfaaaGreat
