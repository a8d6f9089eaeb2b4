/- What every row of causal wants: vectors, dots, events, and rows of events that came in, opened. -/
import Derived.Test.YtgmbmdmbnpkbbaaRows
import Derived.Test.YtgmbmdmbnpkbbaaBf1
import Derived.ProofKit
import Derived.OpenShut
import Derived.ChangeOld
import Derived.Deep.DeepHandedRow
namespace Go.Proofs.Ytgmbmdmbnpkbbaa
open Go.ChangeShapes Go.WideShapes Go.ChangeAt Go.RowKit
set_option maxRecDepth 20000
set_option linter.unusedSimpArgs false

theorem own : ownKnob Try.prog.godebug = none := by kernel_rfl
theorem laidOut : laidOutB Try.prog = true := by kernel_rfl
theorem addC_mid (b o j : Nat) : (⟨b, o, none⟩ : Addr).add j = ⟨b, o + j, none⟩ := by unfold Addr.add; split <;> simp_all
theorem wfU8 {a : Int} (h : (Lit.int .u8 a).wf = true) : 0 ≤ a ∧ a ≤ 255 := by
  have h : (decide ((0 : Int) ≤ a) && decide (a ≤ 255)) = true := h
  simpa using h
theorem wfU32 {a : Int} (h : (Lit.int .u32 a).wf = true) : 0 ≤ a ∧ a ≤ 4294967295 := by
  have h : (decide ((0 : Int) ≤ a) && decide (a ≤ 4294967295)) = true := h
  simpa using h
/-- An array of numbers that came in. -/
theorem open_rowC {H : Type} {enc : TypeId × Value → H} {P : Program} {W : World} {r : Reach} {base n : Nat} {t e : TypeId} {k : IntKind} {v : Value} {d : DataW H} {p : List MemPlace} (hu : P.underlying t = some (.array n e)) (he : P.underlying e = some (.int k)) (hce : P.cellsOf e = 1) (hct : P.cellsOf t = n)
    (hv : Value.okWide P W r base t v) (h : DataW.Trod enc P W 0 (fun _ => true) true t v d p) :
    ∃ l : List Int, l.length = n ∧ v = .agg (row k l) ∧ ∀ x ∈ l, (Lit.int k x).wf = true := by
  simp only [Value.okWide, hu] at hv
  obtain ⟨cs, rfl, hsz, _⟩ := hv
  rw [hct] at hsz
  obtain ⟨fuel, hf⟩ := h
  obtain ⟨xs, m, _, _, _, hlen, hel⟩ := DataW.trod_array hu hf
  simp only [Value.cells, hce, Nat.mul_one] at hel
  have key : ∀ i (hi : i < cs.size), cs[i] = .int k (intOf cs[i]) ∧ (Lit.int k (intOf cs[i])).wf = true := fun i hi => by
    have h1 := hel i (by omega)
    rw [List.getElem?_eq_getElem (by omega)] at h1
    obtain ⟨a, ea, _, wa⟩ := DataW.trod_int he h1
    have e1 : (cs.toList.drop i).take 1 = [cs[i]] := by
      rw [List.drop_eq_getElem_cons (by simpa using hi)]; simp
    rw [e1] at ea
    have e2 : cs[i] = .int k a := by simpa using ea
    rw [e2]
    exact ⟨rfl, wa⟩
  refine ⟨cs.toList.map intOf, by simp [hsz], ?_, ?_⟩
  · congr 1
    apply Array.ext (by simp [row])
    intro i h1 h2
    have := (key i h1).1
    simp only [row, List.map_map, List.getElem_toArray, List.getElem_map, Function.comp, Array.getElem_toList]
    exact this
  · intro x hx
    obtain ⟨c, hc, rfl⟩ := List.mem_map.1 hx
    obtain ⟨i, hi, rfl⟩ := List.mem_iff_getElem.1 hc
    have := (key i (by simpa using hi)).2
    simpa using this
theorem row_of_trodC {H : Type} {enc : TypeId × Value → H} {P : Program} {W : World} {n fuel : Nat} {t e : TypeId} {k : IntKind} {cs : List Value} {x : DataW H × List MemPlace} (hu : P.underlying t = some (.array n e)) (he : P.underlying e = some (.int k)) (hce : P.cellsOf e = 1)
    (hsz : cs.length = n) (h : DataW.trod enc P W 0 (fun _ => true) true fuel t cs = some x) :
    ∃ l : List Int, l.length = n ∧ cs = l.map (Value.int k) ∧ ∀ x ∈ l, (Lit.int k x).wf = true := by
  obtain ⟨xs, m, _, _, _, hlen, hel⟩ := DataW.trod_array hu h
  simp only [hce, Nat.mul_one] at hel
  have key : ∀ i (hi : i < cs.length), cs[i] = .int k (intOf cs[i]) ∧ (Lit.int k (intOf cs[i])).wf = true := fun i hi => by
    have h1 := hel i (by omega)
    rw [List.getElem?_eq_getElem (by omega)] at h1
    obtain ⟨a, ea, _, wa⟩ := DataW.trod_int he h1
    have e1 : (cs.drop i).take 1 = [cs[i]] := by
      rw [List.drop_eq_getElem_cons hi, List.take_succ_cons, List.take_zero]
    rw [e1] at ea
    have e2 : cs[i] = .int k a := by simpa using ea
    rw [e2]
    exact ⟨rfl, wa⟩
  refine ⟨cs.map intOf, by simp [hsz], ?_, ?_⟩
  · apply List.ext_getElem (by simp)
    intro i h1 h2
    have := (key i h1).1
    simp only [List.map_map, List.getElem_map, Function.comp]
    exact this
  · intro x hx
    obtain ⟨c, hc, rfl⟩ := List.mem_map.1 hx
    obtain ⟨i, hi, rfl⟩ := List.mem_iff_getElem.1 hc
    exact (key i hi).2
section
variable {H : Type} {enc : TypeId × Value → H} {W : World} {fuel : Nat} {cs : List Value} {x : DataW H × List MemPlace}
theorem dot_of_trodC (h : DataW.trod enc Try.prog W 0 (fun _ => true) true fuel 26 cs = some x) : ∃ a s, cs = dotC a s ∧ (0 ≤ a ∧ a ≤ 255) ∧ 0 ≤ s ∧ s ≤ 4294967295 := by
  obtain ⟨xs, m, _, _, hl, hlen, hfd⟩ := DataW.trod_struct Try.underlying26 h
  have hc : Try.prog.cellsOf 26 = 2 := by kernel_rfl
  have h8 : Try.prog.cellsOf 5 = 1 := by kernel_rfl
  have h32 : Try.prog.cellsOf 24 = 1 := by kernel_rfl
  rw [hc] at hl
  have g0 : DataW.trod enc Try.prog W 0 (fun _ => true) true m 5 (List.take (Try.prog.cellsOf 5) (List.drop 0 cs)) = xs[0]? := hfd 0 _ rfl
  have g1 : DataW.trod enc Try.prog W 0 (fun _ => true) true m 24 (List.take (Try.prog.cellsOf 24) (List.drop 1 cs)) = xs[1]? := hfd 1 _ rfl
  simp only [List.size_toArray, List.length_cons, List.length_nil, Nat.reduceAdd] at hlen
  rw [h8, List.getElem?_eq_getElem (by omega)] at g0
  rw [h32, List.getElem?_eq_getElem (by omega)] at g1
  obtain ⟨a, ea, _, wa⟩ := DataW.trod_int Try.underlying5 g0
  obtain ⟨s, es, _, ws⟩ := DataW.trod_int Try.underlying24 g1
  match cs, hl with
  | [c, d], _ =>
    simp at ea es
    subst ea es
    exact ⟨a, s, rfl, bounds_u8 wa, bounds_u32 ws⟩
end
theorem ev_of_trodC {H : Type} {enc : TypeId × Value → H} {W : World} {fuel : Nat} {l : List Value} {x : DataW H × List MemPlace} (h : DataW.trod enc Try.prog W 0 (fun _ => true) true fuel 32 l = some x) : ∃ E : Ev, l = E.cells ∧ E.Ok := by
  obtain ⟨xs, m, _, _, hl, hlen, hfd⟩ := DataW.trod_struct Try.underlying32 h
  have hc : Try.prog.cellsOf 32 = 17 := by kernel_rfl
  have h8 : Try.prog.cellsOf 5 = 1 := by kernel_rfl
  have hk1 : Try.prog.cellsOf 29 = 1 := by kernel_rfl
  have hr1 : Try.prog.cellsOf 30 = 1 := by kernel_rfl
  have hb1 : Try.prog.cellsOf 4 = 1 := by kernel_rfl
  have hd : Try.prog.cellsOf 26 = 2 := by kernel_rfl
  have hp : Try.prog.cellsOf 28 = 8 := by kernel_rfl
  rw [hc] at hl
  have g0 : DataW.trod enc Try.prog W 0 (fun _ => true) true m 26 (List.take (Try.prog.cellsOf 26) (List.drop 0 l)) = xs[0]? := hfd 0 _ rfl
  have g1 : DataW.trod enc Try.prog W 0 (fun _ => true) true m 28 (List.take (Try.prog.cellsOf 28) (List.drop 2 l)) = xs[1]? := hfd 1 _ rfl
  have g2 : DataW.trod enc Try.prog W 0 (fun _ => true) true m 29 (List.take (Try.prog.cellsOf 29) (List.drop 10 l)) = xs[2]? := hfd 2 _ rfl
  have g3 : DataW.trod enc Try.prog W 0 (fun _ => true) true m 26 (List.take (Try.prog.cellsOf 26) (List.drop 11 l)) = xs[3]? := hfd 3 _ rfl
  have g4 : DataW.trod enc Try.prog W 0 (fun _ => true) true m 4 (List.take (Try.prog.cellsOf 4) (List.drop 13 l)) = xs[4]? := hfd 4 _ rfl
  have g5 : DataW.trod enc Try.prog W 0 (fun _ => true) true m 5 (List.take (Try.prog.cellsOf 5) (List.drop 14 l)) = xs[5]? := hfd 5 _ rfl
  have g6 : DataW.trod enc Try.prog W 0 (fun _ => true) true m 5 (List.take (Try.prog.cellsOf 5) (List.drop 15 l)) = xs[6]? := hfd 6 _ rfl
  have g7 : DataW.trod enc Try.prog W 0 (fun _ => true) true m 30 (List.take (Try.prog.cellsOf 30) (List.drop 16 l)) = xs[7]? := hfd 7 _ rfl
  simp only [List.size_toArray, List.length_cons, List.length_nil, Nat.reduceAdd] at hlen
  rw [hd, List.getElem?_eq_getElem (by omega)] at g0 g3
  rw [hp, List.getElem?_eq_getElem (by omega)] at g1
  rw [hk1, List.getElem?_eq_getElem (by omega)] at g2
  rw [hb1, List.getElem?_eq_getElem (by omega)] at g4
  rw [h8, List.getElem?_eq_getElem (by omega)] at g5 g6
  rw [hr1, List.getElem?_eq_getElem (by omega)] at g7
  obtain ⟨da, dsq, ed, wd⟩ := dot_of_trodC g0
  obtain ⟨pv, hpv, ep, wp⟩ := row_of_trodC Try.underlying28 Try.underlying24 (by kernel_rfl) (by simp [hl]) g1
  obtain ⟨k, ek, _, wk⟩ := DataW.trod_int Try.underlying29 g2
  obtain ⟨pa, psq, ea, wa⟩ := dot_of_trodC g3
  obtain ⟨b, eb, _⟩ := DataW.trod_bool Try.underlying4 g4
  obtain ⟨c, ec, _, wc⟩ := DataW.trod_int Try.underlying5 g5
  obtain ⟨o, eo, _, wo⟩ := DataW.trod_int Try.underlying5 g6
  obtain ⟨ro, er, _, wr⟩ := DataW.trod_int Try.underlying30 g7
  refine ⟨⟨da, dsq, pv, k, pa, psq, b, c, o, ro⟩, ?_, ⟨⟨wd.1, wd.2⟩, hpv, fun x hx => wfU32 (wp x hx), ⟨wa.1, wa.2⟩, wfU8 wk, wfU8 wc, wfU8 wo, wfU8 wr⟩⟩
  show l = dotC da dsq ++ pv.map (Value.int .u32) ++ ([.int .u8 k] ++ dotC pa psq ++ [.bool b, .int .u8 c, .int .u8 o, .int .u8 ro])
  have e4 : ([.bool b, .int .u8 c, .int .u8 o, .int .u8 ro] : List Value) = [.bool b] ++ [.int .u8 c] ++ [.int .u8 o] ++ [.int .u8 ro] := rfl
  rw [e4, ← ed, ← ep, ← ek, ← ea, ← eb, ← ec, ← eo, ← er, List.drop_zero]
  have s : ∀ a n m : Nat, a + n = m → l.take a ++ (l.drop a).take n = l.take m := fun a n m h => by rw [← h, List.take_add]
  simp only [← List.append_assoc]
  rw [s 2 8 10 rfl, s 10 1 11 rfl, s 11 2 13 rfl, s 13 1 14 rfl, s 14 1 15 rfl, s 15 1 16 rfl, s 16 1 17 rfl, List.take_of_length_le (by omega)]
theorem open_evC {H : Type} {enc : TypeId × Value → H} {W : World} {r : Reach} {base : Nat} {v : Value} {d : DataW H} {p : List MemPlace} (hv : Value.okWide Try.prog W r base 32 v) (h : DataW.Trod enc Try.prog W 0 (fun _ => true) true 32 v d p) :
    ∃ E : Ev, v = .agg E.cells.toArray ∧ E.Ok := by
  simp only [Value.okWide, Try.underlying32] at hv
  obtain ⟨cs, rfl, hsz, _⟩ := hv
  obtain ⟨fuel, hf⟩ := h
  obtain ⟨E, hE, hO⟩ := ev_of_trodC hf
  exact ⟨E, by rw [← hE]; rfl, hO⟩
theorem open_dotC {H : Type} {enc : TypeId × Value → H} {W : World} {r : Reach} {base : Nat} {v : Value} {d : DataW H} {p : List MemPlace} (hv : Value.okWide Try.prog W r base 26 v) (h : DataW.Trod enc Try.prog W 0 (fun _ => true) true 26 v d p) :
    ∃ a s : Int, v = .agg (dotC a s).toArray ∧ okD a s := by
  simp only [Value.okWide, Try.underlying26] at hv
  obtain ⟨cs, rfl, hsz, _⟩ := hv
  obtain ⟨fuel, hf⟩ := h
  obtain ⟨a, s, hE, h1, h2⟩ := dot_of_trodC hf
  exact ⟨a, s, by rw [← hE]; rfl, h1, h2⟩
theorem exists_listC {α : Type} (n : Nat) (P : Nat → α → Prop) (h : ∀ i, i < n → ∃ a, P i a) : ∃ l : List α, l.length = n ∧ ∀ i (_ : i < n), ∃ hl : i < l.length, P i (l[i]'hl) := by
  induction n with
  | zero => exact ⟨[], rfl, fun i hi => by omega⟩
  | succ n ih =>
    obtain ⟨l, hl, hp⟩ := ih fun i hi => h i (by omega)
    obtain ⟨a, ha⟩ := h n (by omega)
    refine ⟨l ++ [a], by simp [hl], fun i hi => ?_⟩
    by_cases e : i < n
    · obtain ⟨h1, h2⟩ := hp i e
      exact ⟨by simp; omega, by rw [List.getElem_append_left h1]; exact h2⟩
    · obtain rfl : i = n := by omega
      refine ⟨by simp [hl], ?_⟩
      rw [List.getElem_append_right (by omega)]
      simpa [hl] using ha
/-- Events in a row. -/
structure EvsAt (w : World) (x : Option Addr) (len cap : Nat) (ds : List Ev) : Prop where
  len_eq : len = ds.length
  le : len ≤ cap
  top : cap ≤ 9223372036854775807
  at_ : len = 0 ∨ ∃ b off, x = some ⟨b, off, none⟩ ∧ ∀ j (hj : j < ds.length) (i : Nat) v, ds[j].cells[i]? = some v → w.cell? ⟨b, off + j * 17 + i, none⟩ = some v
  ok : ∀ d ∈ ds, d.Ok
theorem EvsAt.below {w w' : World} {x : Option Addr} {len cap : Nat} {ds : List Ev} (h : EvsAt w x len cap ds) (hb : Below w.heap.size w w') : EvsAt w' x len cap ds :=
  ⟨h.len_eq, h.le, h.top, by
    rcases h.at_ with h0 | ⟨b, off, hx, hc⟩
    · exact .inl h0
    · refine .inr ⟨b, off, hx, fun j hj i v hv => ?_⟩
      have := hc j hj i v hv
      exact (hb.cell (p := ⟨b, off + j * 17 + i, none⟩) (block_lt_of_cell this)).trans this, h.ok⟩
theorem evs_of_trodC {H : Type} {enc : TypeId × Value → H} {W : World} {fuel : Nat} {cs : List Value} {x : DataW H × List MemPlace} (h : DataW.trod enc Try.prog W 0 (fun _ => true) true fuel 50 cs = some x) : ∃ y len cap ds, cs = [.slice y len cap] ∧ EvsAt W y len cap ds := by
  have hc : Try.prog.cellsOf 32 = 17 := by kernel_rfl
  rcases DataW.trod_slice Try.underlying50 h with ⟨hcs, _⟩ | ⟨a, len, cap, elems, rest, m, _, hcs, _, _, hl, hm, hlen, hel, _⟩
  · exact ⟨none, 0, 0, [], hcs, ⟨rfl, by omega, by omega, .inl rfl, (fun e he => by cases he)⟩⟩
  · have each : ∀ i, i < len → ∃ e : Ev, (∀ (j : Nat) v, e.cells[j]? = some v → W.cell? ((a.add (i * 17)).add j) = some v) ∧ e.Ok := fun i hi => by
      have h1 := hel i hi
      rw [hc, List.getElem?_eq_getElem (by omega), Option.bind_eq_some_iff] at h1
      obtain ⟨ci, hci, hti⟩ := h1
      obtain ⟨e, rfl, hin⟩ := ev_of_trodC hti
      have hs := World.cells?_some hci
      refine ⟨e, fun j v hv => ?_, hin⟩
      have hj : j < 17 := by
        have := (List.getElem?_eq_some_iff.1 hv).1
        have := hs.2.1
        omega
      rw [hs.2.2 j hj]; exact hv
    obtain ⟨ds, hdl, hds⟩ := exists_listC len _ each
    refine ⟨some a, len, cap, ds, hcs, ⟨hdl.symm, hl, by simpa [maxLen] using hm, ?_, fun e he => ?_⟩⟩
    · by_cases h0 : len = 0
      · exact .inl h0
      · obtain ⟨b, off, spot⟩ := a
        obtain ⟨hl0, h00, _⟩ := hds 0 (by omega)
        have h00 := h00 0 (.int .u8 (ds[0]).da) rfl
        have hspot : spot = none := by
          have := World.cell?_spot h00
          simpa [Addr.add] using this
        subst hspot
        refine .inr ⟨b, off, rfl, fun j hj i v hv => ?_⟩
        obtain ⟨_, hj2, _⟩ := hds j (by omega)
        have := hj2 i v hv
        rw [addC_mid, addC_mid] at this
        exact this
    · obtain ⟨i, hi, rfl⟩ := List.mem_iff_getElem.1 he
      obtain ⟨_, _, h2⟩ := hds i (by omega)
      exact h2
theorem open_evsC {H : Type} {enc : TypeId × Value → H} {W : World} {x : Option Addr} {len cap : Nat} {d : DataW H} {p : List MemPlace} (h : DataW.Trod enc Try.prog W 0 (fun _ => true) true 50 (.slice x len cap) d p) : ∃ ds, EvsAt W x len cap ds := by
  obtain ⟨fuel, hf⟩ := h
  obtain ⟨y, l, c, ds, hcs, hd⟩ := evs_of_trodC hf
  simp [Value.cells] at hcs
  obtain ⟨rfl, rfl, rfl⟩ := hcs
  exact ⟨ds, hd⟩
def evZC : Ev := ⟨0, 0, [0, 0, 0, 0, 0, 0, 0, 0], 0, 0, 0, false, 0, 0, 0⟩
/-- A world for the witness. -/
noncomputable def laidWorld (os : Os) : World := World.holding Try.prog os ⟨#[], #[], []⟩
theorem laid_none {P : Program} (w : World) : laidMet P [] w := ⟨[], by simp [DataW.LaidVars], by simp, by simp⟩
end Go.Proofs.Ytgmbmdmbnpkbbaa

