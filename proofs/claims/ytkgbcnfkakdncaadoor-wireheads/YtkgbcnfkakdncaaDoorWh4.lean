/- Heads that came in. -/
import Derived.Test.YtkgbcnfkakdncaaDoorWh3
import Derived.Test.YtkgbcnfkakdncaaDoorGoW
namespace Go.Proofs.YtkgbcnfkakdncaaDoor
open Go.ChangeShapes Go.WideShapes Go.ChangeAt Go.RowKit
set_option maxRecDepth 20000

theorem head_of_trod {H : Type} {enc : TypeId × Value → H} {W : World} {fuel : Nat} {cs : List Value} {x : DataW H × List MemPlace} (h : DataW.trod enc Tryd.prog W 0 (fun _ => true) true fuel 26 cs = some x) : ∃ h : Int × List Int, cs = hdC h ∧ hdIn h := by
  obtain ⟨xs, m, _, _, hl, hlen, hfd⟩ := DataW.trod_struct Tryd.underlying26 h
  have hc : Tryd.prog.cellsOf 26 = 33 := by kernel_rfl
  have h32 : Tryd.prog.cellsOf 22 = 1 := by kernel_rfl
  have hk : Tryd.prog.cellsOf 24 = 32 := by kernel_rfl
  rw [hc] at hl
  have g0 : DataW.trod enc Tryd.prog W 0 (fun _ => true) true m 22 (List.take (Tryd.prog.cellsOf 22) (List.drop 0 cs)) = xs[0]? := hfd 0 _ rfl
  have g1 : DataW.trod enc Tryd.prog W 0 (fun _ => true) true m 24 (List.take (Tryd.prog.cellsOf 24) (List.drop 1 cs)) = xs[1]? := hfd 1 _ rfl
  simp only [List.size_toArray, List.length_cons, List.length_nil, Nat.reduceAdd] at hlen
  rw [h32, List.getElem?_eq_getElem (by omega)] at g0
  rw [hk, List.getElem?_eq_getElem (by omega)] at g1
  obtain ⟨n, en, _, wn⟩ := DataW.trod_int Tryd.underlying22 g0
  obtain ⟨s, hs, es, ws⟩ := row_of_trod5 Tryd.underlying24 Tryd.underlying5 (by kernel_rfl) (by simp [hl]) g1
  refine ⟨(n, s), ?_, (bounds_u32 wn).1, (bounds_u32 wn).2, hs, fun v hv => bounds_u8 (ws v hv)⟩
  show cs = [Value.int .u32 n] ++ s.map (Value.int .u8)
  rw [← en, ← es, List.drop_zero, ← List.take_add, List.take_of_length_le (by omega)]
theorem heads_of_cells : ∀ (n : Nat) (cs : List Value), cs.length = 33 * n → (∀ j, j < n → ∃ h : Int × List Int, (cs.drop (j * 33)).take 33 = hdC h ∧ hdIn h) → ∃ l : List (Int × List Int), cs = hdsC l ∧ l.length = n ∧ ∀ h ∈ l, hdIn h
  | 0, cs, hl, _ => ⟨[], List.length_eq_zero_iff.1 (by omega), rfl, by simp⟩
  | n + 1, cs, hl, hh => by
    obtain ⟨h, e, hi⟩ := hh 0 (by omega)
    rw [Nat.zero_mul, List.drop_zero] at e
    obtain ⟨l, el, hn, hi'⟩ := heads_of_cells n (cs.drop 33) (by rw [List.length_drop]; omega) (fun j hj => by
      obtain ⟨h, e, hi⟩ := hh (j + 1) (by omega)
      refine ⟨h, ?_, hi⟩
      rw [List.drop_drop, show 33 + j * 33 = (j + 1) * 33 by omega]; exact e)
    refine ⟨h :: l, ?_, by rw [List.length_cons, hn], fun x hx => ?_⟩
    · rw [hdsC_cons, ← e, ← el, List.take_append_drop]
    · rcases List.mem_cons.1 hx with rfl | h1
      · exact hi
      · exact hi' x h1
theorem open_heads {H : Type} {enc : TypeId × Value → H} {W : World} {r : Reach} {base : Nat} {v : Value} {d : DataW H} {p : List MemPlace} (hv : Value.okWide Tryd.prog W r base 27 v) (h : DataW.Trod enc Tryd.prog W 0 (fun _ => true) true 27 v d p) :
    ∃ l : List (Int × List Int), v = .agg (hdsC l).toArray ∧ (∀ h ∈ l, hdIn h) ∧ l.length = 8 := by
  simp only [Value.okWide, Tryd.underlying27] at hv
  obtain ⟨cs, rfl, hsz, _⟩ := hv
  have hc2 : Tryd.prog.cellsOf 27 = 264 := by kernel_rfl
  have hc1 : Tryd.prog.cellsOf 26 = 33 := by kernel_rfl
  rw [hc2] at hsz
  obtain ⟨fuel, hf⟩ := h
  obtain ⟨xs, m, _, _, _, hlen, hel⟩ := DataW.trod_array Tryd.underlying27 hf
  simp only [Value.cells, hc1] at hel
  obtain ⟨l, e, h8, hi⟩ := heads_of_cells 8 cs.toList (by simp [hsz]) (fun j hj => by
    have h0 := hel j (by omega)
    rw [List.getElem?_eq_getElem (by omega)] at h0
    exact head_of_trod h0)
  exact ⟨l, by rw [← e], hi, h8⟩
def hd00 : List Value := hdsC hdZ
end Go.Proofs.YtkgbcnfkakdncaaDoor
