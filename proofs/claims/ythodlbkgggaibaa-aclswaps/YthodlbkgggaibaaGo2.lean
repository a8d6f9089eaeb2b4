/- Two events that came in. -/
import Derived.Test.YthodlbkgggaibaaGoC
namespace Go.Proofs.Ythodlbkgggaibaa
open Go.ChangeShapes Go.WideShapes Go.ChangeAt Go.RowKit
set_option maxRecDepth 20000
set_option linter.unusedSimpArgs false
theorem open_evs2 {H : Type} {enc : TypeId × Value → H} {W : World} {r : Reach} {base : Nat} {v : Value} {d : DataW H} {p : List MemPlace} (hv : Value.okWide Try.prog W r base 46 v) (h : DataW.Trod enc Try.prog W 0 (fun _ => true) true 46 v d p) :
    ∃ a b : Ev, v = .agg (a.cells ++ b.cells).toArray ∧ a.Ok ∧ b.Ok := by
  simp only [Value.okWide, Try.underlying46] at hv
  obtain ⟨cs, rfl, hsz, _⟩ := hv
  have hct : Try.prog.cellsOf 46 = 34 := by kernel_rfl
  have hcv : Try.prog.cellsOf 41 = 17 := by kernel_rfl
  rw [hct] at hsz
  obtain ⟨fuel, hf⟩ := h
  obtain ⟨xs, m, _, _, _, hlen, hel⟩ := DataW.trod_array Try.underlying46 hf
  simp only [Value.cells, hcv] at hel
  have hl : cs.toList.length = 34 := by simpa using hsz
  have key : ∀ i, i < 2 → ∃ l : Ev, (cs.toList.drop (i * 17)).take 17 = l.cells ∧ l.Ok := fun i hi => by
    have h1 := hel i hi
    rw [List.getElem?_eq_getElem (by omega)] at h1
    exact ev_of_trodC h1
  obtain ⟨a, ea, ha⟩ := key 0 (by omega)
  obtain ⟨b, eb, hb⟩ := key 1 (by omega)
  refine ⟨a, b, ?_, ha, hb⟩
  congr 1
  rw [← ea, ← eb]
  have s : ∀ (l : List Value) (p n q : Nat), p + n = q → l.take p ++ (l.drop p).take n = l.take q := fun l p n q h => by rw [← h, List.take_add]
  have e : (cs.toList.drop (0 * 17)).take 17 ++ (cs.toList.drop (1 * 17)).take 17 = cs.toList := by
    rw [Nat.zero_mul, List.drop_zero, s cs.toList 17 17 34 rfl, List.take_of_length_le (by omega)]
  rw [e]
end Go.Proofs.Ythodlbkgggaibaa
