/- What every row of this seat wants: the listed table's cells, a world for the witness, an argument that is bytes or an array of words, opened. -/
import Derived.Test.YtknomnnbebhijaaDoorCards
import Derived.Test.YtknomnnbebhijaaDoorTie
import Derived.Test.YtknomnnbebhijaaDoorEq
import Derived.ProofKit
import Derived.OpenShut
import Derived.ChangeOld
import Derived.Deep.DeepHandedRow
import Derived.Lib.LaidTab
namespace Go.Proofs.YtknomnnbebhijaaDoor.S
set_option maxRecDepth 20000
open Go.ChangeShapes Go.WideShapes Go.ChangeAt Go.RowKit

theorem own : ownKnob Tryd.prog.godebug = none := by kernel_rfl
theorem laidOut : laidOutB Tryd.prog = true := by kernel_rfl
theorem gTab : Tryd.prog.globalNamed "escritoire/sha.roundWords" = some 0 := by kernel_rfl
theorem gTabType : (Tryd.prog.globals[0]?).map (·.type) = some 78 := by kernel_rfl
theorem cells64 : Tryd.prog.cellsOf 78 = 64 := by kernel_rfl

/-- What the row's list gives: the table's cells. -/
theorem table {W : World} (h : laidMetH Tryd.prog [("escritoire/sha.roundWords", Rows.laid_escritoire_sha_roundWords)] W) : KTab W := fun j hj => by
  have ht : Lib.TabIs Tryd.prog W "escritoire/sha.roundWords" .u32 kTab := Lib.tabIs_of_head (rest := []) gTab gTabType Tryd.underlying78 Tryd.underlying69 cellsU32 cells64 h
  have := ht.cell gTab j hj
  rw [List.getD_eq_getElem?_getD] at this
  exact this

/-- A world for the witness: the settled one, the table (block 0) holding what its initialiser lays. -/
noncomputable def laidWorld (os : Os) : World :=
  { World.holding Tryd.prog os ⟨#[], #[], []⟩ with heap := (World.holding Tryd.prog os ⟨#[], #[], []⟩).heap.modify 0 fun
      | .cells _ t frozen => .cells (row .u32 kTab) t frozen
      | o => o }

/-- Bytes that came in. -/
theorem open_bytes {H : Type} {enc : TypeId × Value → H} {W : World} {x : Option Addr} {len cap : Nat} {d : DataW H} {p : List MemPlace} (h : DataW.Trod enc Tryd.prog W 0 (fun _ => true) true 35 (.slice x len cap) d p) :
    ∃ z, Bytes W x len cap z ∧ (∀ v ∈ z, 0 ≤ v ∧ v ≤ 255) := by
  obtain ⟨fuel, hf⟩ := h
  rcases open_ints Tryd.underlying35 Tryd.underlying5 cellsU8 hf with ⟨hcs, _⟩ | ⟨a, l, c, zs, hcs, _, hl, hm, hz, _, hcell, hwz⟩
  · simp [Value.cells] at hcs
    obtain ⟨rfl, rfl, rfl⟩ := hcs
    exact ⟨[], bytes_nil W, by simp⟩
  · simp [Value.cells] at hcs
    obtain ⟨rfl, rfl, rfl⟩ := hcs
    simp only [if_true] at hz
    refine ⟨zs.take len, ⟨by simp; omega, hl, by simpa [maxLen] using hm, (fun h => by cases h), ?_⟩, fun v hv => bounds_u8 (hwz v (List.mem_of_mem_take hv))⟩
    by_cases h0 : len = 0
    · exact .inl h0
    · obtain ⟨b, off, rfl, hc⟩ := ints_at hcell (by omega)
      refine .inr ⟨b, off, rfl, fun j hj => ?_⟩
      have := hc j (by omega)
      rw [List.getElem?_take_of_lt hj]
      rw [List.getD_eq_getElem?_getD] at this
      exact this

/-- An array of numbers that came in. -/
theorem open_row {H : Type} {enc : TypeId × Value → H} {P : Program} {W : World} {r : Reach} {base n : Nat} {t e : TypeId} {k : IntKind} {v : Value} {d : DataW H} {p : List MemPlace} (hu : P.underlying t = some (.array n e)) (he : P.underlying e = some (.int k)) (hce : P.cellsOf e = 1) (hct : P.cellsOf t = n)
    (hv : Value.okWide P W r base t v) (h : DataW.Trod enc P W 0 (fun _ => true) true t v d p) :
    ∃ l : List Int, l.length = n ∧ v = .agg (row k l) ∧ ∀ x ∈ l, (Lit.int k x).wf = true := by
  simp only [Value.okWide, hu] at hv
  obtain ⟨cs, rfl, hsz, _⟩ := hv
  rw [hct] at hsz
  obtain ⟨fuel, hf⟩ := h
  obtain ⟨xs, m, _, _, _, hlen, hel⟩ := DataW.trod_array hu hf
  simp only [Value.cells, hce, Nat.mul_one] at hel
  have key : ∀ i (hi : i < cs.size), cs[i] = .int k (intOf cs[i]) ∧ (Lit.int k (intOf cs[i])).wf = true := fun i hi => by
    have h1 := hel i (by omega)
    rw [List.getElem?_eq_getElem (by omega)] at h1
    obtain ⟨a, ea, _, wa⟩ := DataW.trod_int he h1
    have e1 : (cs.toList.drop i).take 1 = [cs[i]] := by
      rw [List.drop_eq_getElem_cons (by simpa using hi)]; simp
    rw [e1] at ea
    have e2 : cs[i] = .int k a := by simpa using ea
    rw [e2]
    exact ⟨rfl, wa⟩
  refine ⟨cs.toList.map intOf, by simp [hsz], ?_, ?_⟩
  · congr 1
    apply Array.ext (by simp [row])
    intro i h1 h2
    have := (key i h1).1
    simp only [row, List.map_map, List.getElem_toArray, List.getElem_map, Function.comp, Array.getElem_toList]
    exact this
  · intro x hx
    obtain ⟨c, hc, rfl⟩ := List.mem_map.1 hx
    obtain ⟨i, hi, rfl⟩ := List.mem_iff_getElem.1 hc
    have := (key i (by simpa using hi)).2
    simpa using this

theorem cellsArr8 : Tryd.prog.cellsOf 70 = 8 := by kernel_rfl
/-- Eight words that came in. -/
theorem open_words {H : Type} {enc : TypeId × Value → H} {W : World} {r : Reach} {base : Nat} {v : Value} {d : DataW H} {p : List MemPlace} (hv : Value.okWide Tryd.prog W r base 70 v) (h : DataW.Trod enc Tryd.prog W 0 (fun _ => true) true 70 v d p) :
    ∃ l : List Int, l.length = 8 ∧ v = .agg (row .u32 l) ∧ InU l := by
  obtain ⟨l, h1, h2, h3⟩ := open_row Tryd.underlying70 Tryd.underlying69 cellsU32 cellsArr8 hv h
  exact ⟨l, h1, h2, fun x hx => bounds_u32 (h3 x hx)⟩
end Go.Proofs.YtknomnnbebhijaaDoor.S
