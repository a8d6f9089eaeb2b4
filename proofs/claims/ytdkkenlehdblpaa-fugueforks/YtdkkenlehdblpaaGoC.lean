/- What every row of causal wants: vectors, dots, events, and rows of events that came in, opened. -/
import Derived.Test.YtdkkenlehdblpaaRows
import Derived.Test.YtdkkenlehdblpaaBf1
import Derived.ProofKit
import Derived.OpenShut
import Derived.ChangeOld
import Derived.Deep.DeepHandedRow
namespace Go.Proofs.Ytdkkenlehdblpaa
open Go.ChangeShapes Go.WideShapes Go.ChangeAt Go.RowKit
set_option maxRecDepth 20000
set_option linter.unusedSimpArgs false

theorem own : ownKnob Try.prog.godebug = none := by kernel_rfl
theorem laidOut : laidOutB Try.prog = true := by kernel_rfl
theorem addC_mid (b o j : Nat) : (⟨b, o, none⟩ : Addr).add j = ⟨b, o + j, none⟩ := by unfold Addr.add; split <;> simp_all
theorem wfU8 {a : Int} (h : (Lit.int .u8 a).wf = true) : 0 ≤ a ∧ a ≤ 255 := by
  have h : (decide ((0 : Int) ≤ a) && decide (a ≤ 255)) = true := h
  simpa using h
theorem wfU32 {a : Int} (h : (Lit.int .u32 a).wf = true) : 0 ≤ a ∧ a ≤ 4294967295 := by
  have h : (decide ((0 : Int) ≤ a) && decide (a ≤ 4294967295)) = true := h
  simpa using h
/-- An array of numbers that came in. -/
theorem open_rowC {H : Type} {enc : TypeId × Value → H} {P : Program} {W : World} {r : Reach} {base n : Nat} {t e : TypeId} {k : IntKind} {v : Value} {d : DataW H} {p : List MemPlace} (hu : P.underlying t = some (.array n e)) (he : P.underlying e = some (.int k)) (hce : P.cellsOf e = 1) (hct : P.cellsOf t = n)
    (hv : Value.okWide P W r base t v) (h : DataW.Trod enc P W 0 (fun _ => true) true t v d p) :
    ∃ l : List Int, l.length = n ∧ v = .agg (row k l) ∧ ∀ x ∈ l, (Lit.int k x).wf = true := by
  simp only [Value.okWide, hu] at hv
  obtain ⟨cs, rfl, hsz, _⟩ := hv
  rw [hct] at hsz
  obtain ⟨fuel, hf⟩ := h
  obtain ⟨xs, m, _, _, _, hlen, hel⟩ := DataW.trod_array hu hf
  simp only [Value.cells, hce, Nat.mul_one] at hel
  have key : ∀ i (hi : i < cs.size), cs[i] = .int k (intOf cs[i]) ∧ (Lit.int k (intOf cs[i])).wf = true := fun i hi => by
    have h1 := hel i (by omega)
    rw [List.getElem?_eq_getElem (by omega)] at h1
    obtain ⟨a, ea, _, wa⟩ := DataW.trod_int he h1
    have e1 : (cs.toList.drop i).take 1 = [cs[i]] := by
      rw [List.drop_eq_getElem_cons (by simpa using hi)]; simp
    rw [e1] at ea
    have e2 : cs[i] = .int k a := by simpa using ea
    rw [e2]
    exact ⟨rfl, wa⟩
  refine ⟨cs.toList.map intOf, by simp [hsz], ?_, ?_⟩
  · congr 1
    apply Array.ext (by simp [row])
    intro i h1 h2
    have := (key i h1).1
    simp only [row, List.map_map, List.getElem_toArray, List.getElem_map, Function.comp, Array.getElem_toList]
    exact this
  · intro x hx
    obtain ⟨c, hc, rfl⟩ := List.mem_map.1 hx
    obtain ⟨i, hi, rfl⟩ := List.mem_iff_getElem.1 hc
    have := (key i (by simpa using hi)).2
    simpa using this
theorem row_of_trodC {H : Type} {enc : TypeId × Value → H} {P : Program} {W : World} {n fuel : Nat} {t e : TypeId} {k : IntKind} {cs : List Value} {x : DataW H × List MemPlace} (hu : P.underlying t = some (.array n e)) (he : P.underlying e = some (.int k)) (hce : P.cellsOf e = 1)
    (hsz : cs.length = n) (h : DataW.trod enc P W 0 (fun _ => true) true fuel t cs = some x) :
    ∃ l : List Int, l.length = n ∧ cs = l.map (Value.int k) ∧ ∀ x ∈ l, (Lit.int k x).wf = true := by
  obtain ⟨xs, m, _, _, _, hlen, hel⟩ := DataW.trod_array hu h
  simp only [hce, Nat.mul_one] at hel
  have key : ∀ i (hi : i < cs.length), cs[i] = .int k (intOf cs[i]) ∧ (Lit.int k (intOf cs[i])).wf = true := fun i hi => by
    have h1 := hel i (by omega)
    rw [List.getElem?_eq_getElem (by omega)] at h1
    obtain ⟨a, ea, _, wa⟩ := DataW.trod_int he h1
    have e1 : (cs.drop i).take 1 = [cs[i]] := by
      rw [List.drop_eq_getElem_cons hi, List.take_succ_cons, List.take_zero]
    rw [e1] at ea
    have e2 : cs[i] = .int k a := by simpa using ea
    rw [e2]
    exact ⟨rfl, wa⟩
  refine ⟨cs.map intOf, by simp [hsz], ?_, ?_⟩
  · apply List.ext_getElem (by simp)
    intro i h1 h2
    have := (key i h1).1
    simp only [List.map_map, List.getElem_map, Function.comp]
    exact this
  · intro x hx
    obtain ⟨c, hc, rfl⟩ := List.mem_map.1 hx
    obtain ⟨i, hi, rfl⟩ := List.mem_iff_getElem.1 hc
    exact (key i hi).2
section
variable {H : Type} {enc : TypeId × Value → H} {W : World} {fuel : Nat} {cs : List Value} {x : DataW H × List MemPlace}
theorem dot_of_trodC (h : DataW.trod enc Try.prog W 0 (fun _ => true) true fuel 32 cs = some x) : ∃ a s, cs = dotC a s ∧ (0 ≤ a ∧ a ≤ 255) ∧ 0 ≤ s ∧ s ≤ 4294967295 := by
  obtain ⟨xs, m, _, _, hl, hlen, hfd⟩ := DataW.trod_struct Try.underlying32 h
  have hc : Try.prog.cellsOf 32 = 2 := by kernel_rfl
  have h8 : Try.prog.cellsOf 5 = 1 := by kernel_rfl
  have h32 : Try.prog.cellsOf 30 = 1 := by kernel_rfl
  rw [hc] at hl
  have g0 : DataW.trod enc Try.prog W 0 (fun _ => true) true m 5 (List.take (Try.prog.cellsOf 5) (List.drop 0 cs)) = xs[0]? := hfd 0 _ rfl
  have g1 : DataW.trod enc Try.prog W 0 (fun _ => true) true m 30 (List.take (Try.prog.cellsOf 30) (List.drop 1 cs)) = xs[1]? := hfd 1 _ rfl
  simp only [List.size_toArray, List.length_cons, List.length_nil, Nat.reduceAdd] at hlen
  rw [h8, List.getElem?_eq_getElem (by omega)] at g0
  rw [h32, List.getElem?_eq_getElem (by omega)] at g1
  obtain ⟨a, ea, _, wa⟩ := DataW.trod_int Try.underlying5 g0
  obtain ⟨s, es, _, ws⟩ := DataW.trod_int Try.underlying30 g1
  match cs, hl with
  | [c, d], _ =>
    simp at ea es
    subst ea es
    exact ⟨a, s, rfl, bounds_u8 wa, bounds_u32 ws⟩
end
theorem open_dotC {H : Type} {enc : TypeId × Value → H} {W : World} {r : Reach} {base : Nat} {v : Value} {d : DataW H} {p : List MemPlace} (hv : Value.okWide Try.prog W r base 32 v) (h : DataW.Trod enc Try.prog W 0 (fun _ => true) true 32 v d p) :
    ∃ a s : Int, v = .agg (dotC a s).toArray ∧ okD a s := by
  simp only [Value.okWide, Try.underlying32] at hv
  obtain ⟨cs, rfl, hsz, _⟩ := hv
  obtain ⟨fuel, hf⟩ := h
  obtain ⟨a, s, hE, h1, h2⟩ := dot_of_trodC hf
  exact ⟨a, s, by rw [← hE]; rfl, h1, h2⟩
theorem exists_listC {α : Type} (n : Nat) (P : Nat → α → Prop) (h : ∀ i, i < n → ∃ a, P i a) : ∃ l : List α, l.length = n ∧ ∀ i (_ : i < n), ∃ hl : i < l.length, P i (l[i]'hl) := by
  induction n with
  | zero => exact ⟨[], rfl, fun i hi => by omega⟩
  | succ n ih =>
    obtain ⟨l, hl, hp⟩ := ih fun i hi => h i (by omega)
    obtain ⟨a, ha⟩ := h n (by omega)
    refine ⟨l ++ [a], by simp [hl], fun i hi => ?_⟩
    by_cases e : i < n
    · obtain ⟨h1, h2⟩ := hp i e
      exact ⟨by simp; omega, by rw [List.getElem_append_left h1]; exact h2⟩
    · obtain rfl : i = n := by omega
      refine ⟨by simp [hl], ?_⟩
      rw [List.getElem_append_right (by omega)]
      simpa [hl] using ha
/-- Events in a row. -/
structure EvsAt (w : World) (x : Option Addr) (len cap : Nat) (ds : List Ev) : Prop where
  len_eq : len = ds.length
  le : len ≤ cap
  top : cap ≤ 9223372036854775807
  at_ : len = 0 ∨ ∃ b off, x = some ⟨b, off, none⟩ ∧ ∀ j (hj : j < ds.length) (i : Nat) v, ds[j].cells[i]? = some v → w.cell? ⟨b, off + j * 17 + i, none⟩ = some v
  ok : ∀ d ∈ ds, d.Ok
theorem EvsAt.below {w w' : World} {x : Option Addr} {len cap : Nat} {ds : List Ev} (h : EvsAt w x len cap ds) (hb : Below w.heap.size w w') : EvsAt w' x len cap ds :=
  ⟨h.len_eq, h.le, h.top, by
    rcases h.at_ with h0 | ⟨b, off, hx, hc⟩
    · exact .inl h0
    · refine .inr ⟨b, off, hx, fun j hj i v hv => ?_⟩
      have := hc j hj i v hv
      exact (hb.cell (p := ⟨b, off + j * 17 + i, none⟩) (block_lt_of_cell this)).trans this, h.ok⟩
def evZC : Ev := ⟨0, 0, [0, 0, 0, 0, 0, 0, 0, 0], 0, 0, 0, false, 0, 0, 0⟩
/-- A world for the witness. -/
noncomputable def laidWorld (os : Os) : World := World.holding Try.prog os ⟨#[], #[], []⟩
theorem laid_none {P : Program} (w : World) : laidMet P [] w := ⟨[], by simp [DataW.LaidVars], by simp, by simp⟩
end Go.Proofs.Ytdkkenlehdblpaa

