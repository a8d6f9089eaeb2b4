/- keys: a deed that came in. -/
import Derived.Test.YtlalcnmcnkompaaDoorMGo0Aa
import Derived.Test.YtlalcnmcnkompaaDoorMMpGate5
import Derived.Test.YtlalcnmcnkompaaDoorMPhPw
namespace Go.Proofs.YtlalcnmcnkompaaDoor
open Go.ChangeShapes Go.WideShapes Go.ChangeAt Go.RowKit
set_option maxRecDepth 20000
set_option linter.unusedSimpArgs false
section
variable {H : Type} {enc : TypeId × Value → H} {W : World} {fuel : Nat} {cs : List Value} {x : DataW H × List MemPlace}
theorem dot_of_trodK (h : DataW.trod enc Tryd.prog W 0 (fun _ => true) true fuel 36 cs = some x) : ∃ a s, cs = dotC a s ∧ (0 ≤ a ∧ a ≤ 255) ∧ 0 ≤ s ∧ s ≤ 4294967295 := by
  obtain ⟨xs, m, _, _, hl, hlen, hfd⟩ := DataW.trod_struct Tryd.underlying36 h
  have hc : Tryd.prog.cellsOf 36 = 2 := by kernel_rfl
  have h8 : Tryd.prog.cellsOf 5 = 1 := by kernel_rfl
  have h32 : Tryd.prog.cellsOf 34 = 1 := by kernel_rfl
  rw [hc] at hl
  have g0 : DataW.trod enc Tryd.prog W 0 (fun _ => true) true m 5 (List.take (Tryd.prog.cellsOf 5) (List.drop 0 cs)) = xs[0]? := hfd 0 _ rfl
  have g1 : DataW.trod enc Tryd.prog W 0 (fun _ => true) true m 34 (List.take (Tryd.prog.cellsOf 34) (List.drop 1 cs)) = xs[1]? := hfd 1 _ rfl
  simp only [List.size_toArray, List.length_cons, List.length_nil, Nat.reduceAdd] at hlen
  rw [h8, List.getElem?_eq_getElem (by omega)] at g0
  rw [h32, List.getElem?_eq_getElem (by omega)] at g1
  obtain ⟨a, ea, _, wa⟩ := DataW.trod_int Tryd.underlying5 g0
  obtain ⟨s, es, _, ws⟩ := DataW.trod_int Tryd.underlying34 g1
  match cs, hl with
  | [c, d], _ =>
    simp at ea es
    subst ea es
    exact ⟨a, s, rfl, bounds_u8 wa, bounds_u32 ws⟩
theorem wrap_of_trodK (h : DataW.trod enc Tryd.prog W 0 (fun _ => true) true fuel 39 cs = some x) : ∃ e : Wp, cs = e.cells ∧ e.data.length = 48 ∧ okD e.ea e.es ∧ (0 ≤ e.too ∧ e.too ≤ 255) ∧ ∀ v ∈ e.data, isB v := by
  obtain ⟨xs, m, _, _, hl, hlen, hfd⟩ := DataW.trod_struct Tryd.underlying39 h
  have hc : Tryd.prog.cellsOf 39 = 51 := by kernel_rfl
  have h8 : Tryd.prog.cellsOf 5 = 1 := by kernel_rfl
  have hd : Tryd.prog.cellsOf 36 = 2 := by kernel_rfl
  have h48 : Tryd.prog.cellsOf 37 = 48 := by kernel_rfl
  rw [hc] at hl
  have g0 : DataW.trod enc Tryd.prog W 0 (fun _ => true) true m 5 (List.take (Tryd.prog.cellsOf 5) (List.drop 0 cs)) = xs[0]? := hfd 0 _ rfl
  have g1 : DataW.trod enc Tryd.prog W 0 (fun _ => true) true m 36 (List.take (Tryd.prog.cellsOf 36) (List.drop 1 cs)) = xs[1]? := hfd 1 _ rfl
  have g2 : DataW.trod enc Tryd.prog W 0 (fun _ => true) true m 37 (List.take (Tryd.prog.cellsOf 37) (List.drop 3 cs)) = xs[2]? := hfd 2 _ rfl
  simp only [List.size_toArray, List.length_cons, List.length_nil, Nat.reduceAdd] at hlen
  rw [h8, List.getElem?_eq_getElem (by omega)] at g0
  rw [hd, List.getElem?_eq_getElem (by omega)] at g1
  rw [h48, List.getElem?_eq_getElem (by omega)] at g2
  obtain ⟨a, ea, _, wa⟩ := DataW.trod_int Tryd.underlying5 g0
  obtain ⟨da, dsq, ed, wd⟩ := dot_of_trodK g1
  obtain ⟨l, hll, el, wl⟩ := row_of_trod5 Tryd.underlying37 Tryd.underlying5 (by kernel_rfl) (by simp [hl]) g2
  refine ⟨⟨a, da, dsq, l⟩, ?_, hll, wd, bounds_u8 wa, fun v hv => bounds_u8 (wl v hv)⟩
  show cs = [.int .u8 a] ++ dotC da dsq ++ l.map (Value.int .u8)
  rw [← ea, ← ed, ← el, List.drop_zero]
  have h1 : cs.take 1 ++ (cs.drop 1).take 2 = cs.take 3 := by rw [← List.take_add]
  rw [h1, List.take_of_length_le (l := cs.drop 3) (by rw [List.length_drop, hl]; decide), List.take_append_drop]
end
/-- A deed. -/
structure Deed where
  kind : Int
  ea : Int
  es : Int
  k : List Int
  from_ : Int
  w : Wp
def Deed.cells (d : Deed) : List Value := [.int .i64 d.kind] ++ dotC d.ea d.es ++ d.k.map (Value.int .u8) ++ [.int .u8 d.from_] ++ d.w.cells
structure Deed.Ok (d : Deed) : Prop where
  k32 : d.k.length = 32
  dot : okD d.ea d.es
  kB : ∀ v ∈ d.k, isB v
  fromB : 0 ≤ d.from_ ∧ d.from_ ≤ 255
  w48 : d.w.data.length = 48
  wdot : okD d.w.ea d.w.es
  wto : 0 ≤ d.w.too ∧ d.w.too ≤ 255
  wB : ∀ v ∈ d.w.data, isB v
theorem deed_of_trod {H : Type} {enc : TypeId × Value → H} {W : World} {fuel : Nat} {cs : List Value} {x : DataW H × List MemPlace} (h : DataW.trod enc Tryd.prog W 0 (fun _ => true) true fuel 41 cs = some x) : ∃ d : Deed, cs = d.cells ∧ d.Ok := by
  obtain ⟨xs, m, _, _, hl, hlen, hfd⟩ := DataW.trod_struct Tryd.underlying41 h
  have hc : Tryd.prog.cellsOf 41 = 87 := by kernel_rfl
  have hi : Tryd.prog.cellsOf 3 = 1 := by kernel_rfl
  have h8 : Tryd.prog.cellsOf 5 = 1 := by kernel_rfl
  have hd : Tryd.prog.cellsOf 36 = 2 := by kernel_rfl
  have hk : Tryd.prog.cellsOf 23 = 32 := by kernel_rfl
  have hw : Tryd.prog.cellsOf 39 = 51 := by kernel_rfl
  rw [hc] at hl
  have g0 : DataW.trod enc Tryd.prog W 0 (fun _ => true) true m 3 (List.take (Tryd.prog.cellsOf 3) (List.drop 0 cs)) = xs[0]? := hfd 0 _ rfl
  have g1 : DataW.trod enc Tryd.prog W 0 (fun _ => true) true m 36 (List.take (Tryd.prog.cellsOf 36) (List.drop 1 cs)) = xs[1]? := hfd 1 _ rfl
  have g2 : DataW.trod enc Tryd.prog W 0 (fun _ => true) true m 23 (List.take (Tryd.prog.cellsOf 23) (List.drop 3 cs)) = xs[2]? := hfd 2 _ rfl
  have g3 : DataW.trod enc Tryd.prog W 0 (fun _ => true) true m 5 (List.take (Tryd.prog.cellsOf 5) (List.drop 35 cs)) = xs[3]? := hfd 3 _ rfl
  have g4 : DataW.trod enc Tryd.prog W 0 (fun _ => true) true m 39 (List.take (Tryd.prog.cellsOf 39) (List.drop 36 cs)) = xs[4]? := hfd 4 _ rfl
  simp only [List.size_toArray, List.length_cons, List.length_nil, Nat.reduceAdd] at hlen
  rw [hi, List.getElem?_eq_getElem (by omega)] at g0
  rw [hd, List.getElem?_eq_getElem (by omega)] at g1
  rw [hk, List.getElem?_eq_getElem (by omega)] at g2
  rw [h8, List.getElem?_eq_getElem (by omega)] at g3
  rw [hw, List.getElem?_eq_getElem (by omega)] at g4
  obtain ⟨a, ea, _, wa⟩ := DataW.trod_int Tryd.underlying3 g0
  obtain ⟨da, dsq, ed, wd⟩ := dot_of_trodK g1
  obtain ⟨l, hll, el, wl⟩ := row_of_trod5 Tryd.underlying23 Tryd.underlying5 (by kernel_rfl) (by simp [hl]) g2
  obtain ⟨f, ef, _, wf⟩ := DataW.trod_int Tryd.underlying5 g3
  obtain ⟨e, ee, e48, edot, eto, eB⟩ := wrap_of_trodK g4
  refine ⟨⟨a, da, dsq, l, f, e⟩, ?_, ⟨hll, wd, fun v hv => bounds_u8 (wl v hv), bounds_u8 wf, e48, edot, eto, eB⟩⟩
  show cs = [.int .i64 a] ++ dotC da dsq ++ l.map (Value.int .u8) ++ [.int .u8 f] ++ e.cells
  rw [← ea, ← ed, ← el, ← ef, ← ee, List.drop_zero]
  have h1 : cs.take 1 ++ (cs.drop 1).take 2 = cs.take 3 := by rw [← List.take_add]
  have h2 : cs.take 3 ++ (cs.drop 3).take 32 = cs.take 35 := by rw [← List.take_add]
  have h3 : cs.take 35 ++ (cs.drop 35).take 1 = cs.take 36 := by rw [← List.take_add]
  rw [h1, h2, h3, List.take_of_length_le (l := cs.drop 36) (by rw [List.length_drop, hl]; decide), List.take_append_drop]
theorem open_deed {H : Type} {enc : TypeId × Value → H} {W : World} {r : Reach} {base : Nat} {v : Value} {d : DataW H} {p : List MemPlace} (hv : Value.okWide Tryd.prog W r base 41 v) (h : DataW.Trod enc Tryd.prog W 0 (fun _ => true) true 41 v d p) :
    ∃ d : Deed, v = .agg d.cells.toArray ∧ d.Ok := by
  simp only [Value.okWide, Tryd.underlying41] at hv
  obtain ⟨cs, rfl, hsz, _⟩ := hv
  obtain ⟨fuel, hf⟩ := h
  simp only [Value.cells] at hf
  obtain ⟨d, hd, ho⟩ := deed_of_trod hf
  exact ⟨d, by rw [← hd], ho⟩
def deedZ : Deed := ⟨0, 0, 0, List.replicate 32 0, 0, ⟨0, 0, 0, List.replicate 48 0⟩⟩
end Go.Proofs.YtlalcnmcnkompaaDoor
