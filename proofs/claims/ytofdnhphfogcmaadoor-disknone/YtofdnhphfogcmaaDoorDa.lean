/- disk: deeds that came in. -/
import Derived.Test.YtofdnhphfogcmaaDoorGo0
import Derived.Test.YtofdnhphfogcmaaDoorDk0
import Derived.ChangeSame
namespace Go.Proofs.YtofdnhphfogcmaaDoor
open Go.ChangeShapes Go.WideShapes Go.ChangeAt Go.RowKit
set_option maxRecDepth 20000
set_option linter.unusedSimpArgs false

/-- One cell that is a slice of bytes. -/
theorem slice_of_trodD {H : Type} {enc : TypeId × Value → H} {W : World} {fuel : Nat} {cs : List Value} {x : DataW H × List MemPlace} (h : DataW.trod enc Tryd.prog W 0 (fun _ => true) true fuel 22 cs = some x) :
    ∃ y len cap z, cs = [.slice y len cap] ∧ Bytes W y len cap z ∧ isB z := by
  rcases open_ints Tryd.underlying22 Tryd.underlying5 cellsU8 h with ⟨hcs, _⟩ | ⟨a, l, c, zs, hcs, _, hl, hm, hz, _, hcell, hwz⟩
  · exact ⟨none, 0, 0, [], hcs, bytes_nil W, fun v hv => by cases hv⟩
  · simp only [if_true] at hz
    refine ⟨some a, l, c, zs.take l, hcs, ⟨by simp; omega, hl, by simpa [maxLen] using hm, (fun h => by cases h), ?_⟩, fun v hv => bounds_u8 (hwz v (List.mem_of_mem_take hv))⟩
    by_cases h0 : l = 0
    · exact .inl h0
    · obtain ⟨b, off, rfl, hc⟩ := ints_at hcell (by omega)
      refine .inr ⟨b, off, rfl, fun j hj => ?_⟩
      have := hc j (by omega)
      rw [List.getElem?_take_of_lt hj]
      rw [List.getD_eq_getElem?_getD] at this
      exact this
/-- A deed. -/
structure Dd where
  kind : Int
  keep : Int
  x : Option Addr
  len : Nat
  cap : Nat
  b : List Int
def Dd.cells (d : Dd) : List Value := [.int .i64 d.kind, .int .i64 d.keep, .slice d.x d.len d.cap]
structure Dd.Ok (W : World) (d : Dd) : Prop where
  bytes : Bytes W d.x d.len d.cap d.b
  isb : isB d.b
  kind0 : -9223372036854775808 ≤ d.kind
  kind1 : d.kind ≤ 9223372036854775807
  keep0 : -9223372036854775808 ≤ d.keep
  keep1 : d.keep ≤ 9223372036854775807
theorem Dd.Ok.below {W W' : World} {d : Dd} (h : d.Ok W) (hb : Below W.heap.size W W') : d.Ok W' := ⟨h.bytes.below hb, h.isb, h.kind0, h.kind1, h.keep0, h.keep1⟩
theorem bounds_i64D {n : Int} (h : (Lit.int .i64 n).wf = true) : -9223372036854775808 ≤ n ∧ n ≤ 9223372036854775807 := by
  simp [Lit.wf, IntKind.min, IntKind.max, IntKind.bits, IntKind.signed] at h
  omega
section
variable {H : Type} {enc : TypeId × Value → H} {W : World} {fuel : Nat} {cs : List Value} {x : DataW H × List MemPlace}
theorem deed_of_trod (h : DataW.trod enc Tryd.prog W 0 (fun _ => true) true fuel 24 cs = some x) : ∃ d : Dd, cs = d.cells ∧ d.Ok W := by
  obtain ⟨xs, m, _, _, hl, hlen, hfd⟩ := DataW.trod_struct Tryd.underlying24 h
  have hc : Tryd.prog.cellsOf 24 = 3 := by kernel_rfl
  have hci : Tryd.prog.cellsOf 3 = 1 := by kernel_rfl
  have hcu : Tryd.prog.cellsOf 22 = 1 := by kernel_rfl
  rw [hc] at hl
  have g0 : DataW.trod enc Tryd.prog W 0 (fun _ => true) true m 3 (List.take (Tryd.prog.cellsOf 3) (List.drop 0 cs)) = xs[0]? := hfd 0 _ rfl
  have g1 : DataW.trod enc Tryd.prog W 0 (fun _ => true) true m 3 (List.take (Tryd.prog.cellsOf 3) (List.drop 1 cs)) = xs[1]? := hfd 1 _ rfl
  have g2 : DataW.trod enc Tryd.prog W 0 (fun _ => true) true m 22 (List.take (Tryd.prog.cellsOf 22) (List.drop 2 cs)) = xs[2]? := hfd 2 _ rfl
  simp only [List.size_toArray, List.length_cons, List.length_nil, Nat.reduceAdd] at hlen
  rw [hci, List.getElem?_eq_getElem (by omega)] at g0 g1
  rw [hcu, List.getElem?_eq_getElem (by omega)] at g2
  obtain ⟨a, ea, _, wa⟩ := DataW.trod_int Tryd.underlying3 g0
  obtain ⟨k, ek, _, wk⟩ := DataW.trod_int Tryd.underlying3 g1
  obtain ⟨y, len, cap, z, es, hb, hu⟩ := slice_of_trodD g2
  match cs, hl with
  | [c, d, e], _ =>
    simp at ea ek es
    subst ea ek es
    exact ⟨⟨a, k, y, len, cap, z⟩, rfl, hb, hu, (bounds_i64D wa).1, (bounds_i64D wa).2, (bounds_i64D wk).1, (bounds_i64D wk).2⟩
theorem open_deedD {r : Reach} {base : Nat} {v : Value} {d : DataW H} {p : List MemPlace} (hv : Value.okWide Tryd.prog W r base 24 v) (h : DataW.Trod enc Tryd.prog W 0 (fun _ => true) true 24 v d p) : ∃ d : Dd, v = .agg d.cells.toArray ∧ d.Ok W := by
  simp only [Value.okWide, Tryd.underlying24] at hv
  obtain ⟨cs, rfl, hsz, _⟩ := hv
  obtain ⟨fuel, hf⟩ := h
  obtain ⟨d, hd, ho⟩ := deed_of_trod hf
  exact ⟨d, by rw [← hd]; rfl, ho⟩
end
end Go.Proofs.YtofdnhphfogcmaaDoor
