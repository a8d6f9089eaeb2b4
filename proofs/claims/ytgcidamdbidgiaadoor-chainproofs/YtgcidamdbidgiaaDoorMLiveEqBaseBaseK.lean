/- 'live' of the statements on sha: what must be whatever is asked: the digest of no bytes by the kernel's own reckoning. Two rows of numbers, compared. What every row of this seat wants: the listed table's cells, a world for the witness, an argument that is bytes or an array of words, opened. A key, two bytes, that came in. -/
import Derived.Test.YtgcidamdbidgiaaDoorMPureBPadSum
import Derived.ChangeKeysEq
import Derived.Test.YtgcidamdbidgiaaDoorCards
import Derived.Test.YtgcidamdbidgiaaDoorTie
import Derived.ProofKit
import Derived.OpenShut
import Derived.ChangeOld
import Derived.Deep.DeepHandedRow
import Derived.Lib.LaidTab
namespace Go.Proofs.YtgcidamdbidgiaaDoor.S
open Go.RowKit
set_option maxRecDepth 100000

theorem sum_nil : sumL [] = [227, 176, 196, 66, 152, 252, 28, 20, 154, 251, 244, 200, 153, 111, 185, 36, 39, 174, 65, 228, 100, 155, 147, 76, 164, 149, 153, 27, 120, 82, 184, 85] := by kernel_rfl



theorem padNil (w : World) :
    Calls Tryd.prog 63 #[.slice none 0 0] w fun e w' => ∃ g, e = .returned (.slice (some ⟨g, 0, none⟩) 64 64) ∧ Below w.heap.size w w' :=
  by
  have h := pad_any none 0 0 [] w (bytes_nil w) (by omega)
  have e : padSize ([] : List Int).length = 64 := by decide
  rw [e] at h
  exact h.mono fun _ _ ⟨g, h1, _, _, h2⟩ => ⟨g, h1, h2⟩

theorem index_start (wx : World) : (Instr.index 110 (.agg #[.int .u32 1779033703, .int .u32 3144134277, .int .u32 1013904242, .int .u32 2773480762, .int .u32 1359893119, .int .u32 2600822924, .int .u32 528734635, .int .u32 1541459225]) (.int .i64 0)).run Tryd.prog wx = .ok (.int .u32 1779033703) wx :=
  run_index_row wx 110 30 8 .u32 startL 0 Tryd.underlying110 Tryd.underlying30 size1u32 rfl (by omega)

end Go.Proofs.YtgcidamdbidgiaaDoor.S

namespace Go.Proofs.YtgcidamdbidgiaaDoor.S
open Go.RowKit

section
variable {P : Program}
theorem run_part_row (w : World) (e : TypeId) (kd : IntKind) (l : List Int) (k : Nat) (hue : P.underlying e = some (.int kd)) (hk : k < l.length) :
    (part e (row kd l) (k * 1)).run P w = .ok (.int kd (l[k]?.getD 0)) w := by
  have hg := row_get kd l k hk
  simp [part, isAgg, run_underlying hue, hg]
theorem run_eqItems_rows (w : World) (d : Nat) (e : TypeId) (kd : IntKind) (l m : List Int) (hue : P.underlying e = some (.int kd)) : ∀ is : List Nat, (∀ i ∈ is, i < l.length ∧ i < m.length) →
    (Op.eqItems (d + 1) e 1 (row kd l) (row kd m) is).run P w = .ok (is.all fun i => l[i]?.getD 0 == m[i]?.getD 0) w
  | [], _ => by simp [Op.eqItems]
  | i :: is, h => by
    have h1 := (h i (by simp)).1
    have h2 := (h i (by simp)).2
    have ih := run_eqItems_rows w d e kd l m hue is (fun j hj => h j (by simp [hj]))
    have he := run_equalIn_int (P := P) (w := w) d e kd kd (l[i]?.getD 0) (m[i]?.getD 0) hue
    simp only [Op.eqItems, Sem.run_bind, run_part_row w e kd l i hue h1, run_part_row w e kd m i hue h2, Result.andThen_ok, he, List.all_cons]
    cases hq : (l[i]?.getD 0 == m[i]?.getD 0)
    · simp
    · simpa using ih
theorem all_eq (l m : List Int) (n : Nat) (hl : l.length = n) (hm : m.length = n) : ((List.range n).all fun i => l[i]?.getD 0 == m[i]?.getD 0) = (l == m) := by
  rw [Bool.eq_iff_iff]
  simp only [List.all_eq_true, List.mem_range, beq_iff_eq]
  constructor
  · intro h
    apply List.ext_getElem (by omega)
    intro i h1 h2
    have := h i (by omega)
    simpa [h1, h2] using this
  · rintro rfl i _; rfl
theorem run_equalIn_rows (w : World) (d : Nat) {t e : TypeId} {n : Nat} (kd : IntKind) (l m : List Int) (hu : P.underlying t = some (.array n e)) (hue : P.underlying e = some (.int kd)) (hc : P.cellsOf e = 1) (hi : (P.info? e).isSome = true) (hl : l.length = n) (hm : m.length = n) :
    (Op.equalIn (d + 1 + 1) t (.agg (row kd l)) (.agg (row kd m))).run P w = .ok (l == m) w := by
  obtain ⟨i, hi⟩ := Option.isSome_iff_exists.1 hi
  rw [run_equalIn_array w (d + 1) _ _ hu hi, hc, run_eqItems_rows w d e kd l m hue _ (fun j hj => by have := List.mem_range.1 hj; omega), all_eq l m n hl hm]
end

theorem cellsU32 : Tryd.prog.cellsOf 30 = 1 := by kernel_rfl
theorem cellsU8 : Tryd.prog.cellsOf 5 = 1 := by kernel_rfl
theorem infoSomeU32 : (Tryd.prog.info? 30).isSome = true := by kernel_rfl
theorem infoSomeU8 : (Tryd.prog.info? 5).isSome = true := by kernel_rfl
theorem eqState (l m : List Int) (hl : l.length = 8) (hm : m.length = 8) (w : World) : (Op.equalIn 10000 110 (.agg (row .u32 l)) (.agg (row .u32 m))).run Tryd.prog w = .ok (l == m) w :=
  run_equalIn_rows w 9998 .u32 l m Tryd.underlying110 Tryd.underlying30 cellsU32 infoSomeU32 hl hm
theorem eqArr8 (l m : List Int) (hl : l.length = 8) (hm : m.length = 8) (w : World) : (Op.equalIn 10000 86 (.agg (row .u32 l)) (.agg (row .u32 m))).run Tryd.prog w = .ok (l == m) w :=
  run_equalIn_rows w 9998 .u32 l m Tryd.underlying86 Tryd.underlying30 cellsU32 infoSomeU32 hl hm
theorem eqKey (l m : List Int) (hl : l.length = 32) (hm : m.length = 32) (w : World) : (Op.equalIn 10000 34 (.agg (row .u8 l)) (.agg (row .u8 m))).run Tryd.prog w = .ok (l == m) w :=
  run_equalIn_rows w 9998 .u8 l m Tryd.underlying34 Tryd.underlying5 cellsU8 infoSomeU8 hl hm
theorem guardState : Tryd.prog.eqGuardType Tryd.prog.depth 110 = false := by kernel_rfl
theorem guardArr8 : Tryd.prog.eqGuardType Tryd.prog.depth 86 = false := by kernel_rfl
theorem guardKey : Tryd.prog.eqGuardType Tryd.prog.depth 34 = false := by kernel_rfl
end Go.Proofs.YtgcidamdbidgiaaDoor.S

namespace Go.Proofs.YtgcidamdbidgiaaDoor.S
set_option maxRecDepth 20000
open Go.ChangeShapes Go.WideShapes Go.ChangeAt Go.RowKit

theorem own : ownKnob Tryd.prog.godebug = none := by kernel_rfl
theorem laidOut : laidOutB Tryd.prog = true := by kernel_rfl
theorem gTab : Tryd.prog.globalNamed "escritoire/sha.roundWords" = some 0 := by kernel_rfl
theorem gTabType : (Tryd.prog.globals[0]?).map (·.type) = some 117 := by kernel_rfl
theorem cells64 : Tryd.prog.cellsOf 117 = 64 := by kernel_rfl

/-- What the row's list gives: the table's cells. -/
theorem table {W : World} (h : laidMetH Tryd.prog [("escritoire/sha.roundWords", Rows.laid_escritoire_sha_roundWords)] W) : KTab W := fun j hj => by
  have ht : Lib.TabIs Tryd.prog W "escritoire/sha.roundWords" .u32 kTab := Lib.tabIs_of_head (rest := []) gTab gTabType Tryd.underlying117 Tryd.underlying30 cellsU32 cells64 h
  have := ht.cell gTab j hj
  rw [List.getD_eq_getElem?_getD] at this
  exact this

/-- A world for the witness: the settled one, the table (block 0) holding what its initialiser lays. -/
noncomputable def laidWorld (os : Os) : World :=
  { World.holding Tryd.prog os ⟨#[], #[], []⟩ with heap := (World.holding Tryd.prog os ⟨#[], #[], []⟩).heap.modify 0 fun
      | .cells _ t frozen => .cells (row .u32 kTab) t frozen
      | o => o }

/-- Bytes that came in. -/
theorem open_bytes {H : Type} {enc : TypeId × Value → H} {W : World} {x : Option Addr} {len cap : Nat} {d : DataW H} {p : List MemPlace} (h : DataW.Trod enc Tryd.prog W 0 (fun _ => true) true 36 (.slice x len cap) d p) :
    ∃ z, Bytes W x len cap z ∧ (∀ v ∈ z, 0 ≤ v ∧ v ≤ 255) := by
  obtain ⟨fuel, hf⟩ := h
  rcases open_ints Tryd.underlying36 Tryd.underlying5 cellsU8 hf with ⟨hcs, _⟩ | ⟨a, l, c, zs, hcs, _, hl, hm, hz, _, hcell, hwz⟩
  · simp [Value.cells] at hcs
    obtain ⟨rfl, rfl, rfl⟩ := hcs
    exact ⟨[], bytes_nil W, by simp⟩
  · simp [Value.cells] at hcs
    obtain ⟨rfl, rfl, rfl⟩ := hcs
    simp only [if_true] at hz
    refine ⟨zs.take len, ⟨by simp; omega, hl, by simpa [maxLen] using hm, (fun h => by cases h), ?_⟩, fun v hv => bounds_u8 (hwz v (List.mem_of_mem_take hv))⟩
    by_cases h0 : len = 0
    · exact .inl h0
    · obtain ⟨b, off, rfl, hc⟩ := ints_at hcell (by omega)
      refine .inr ⟨b, off, rfl, fun j hj => ?_⟩
      have := hc j (by omega)
      rw [List.getElem?_take_of_lt hj]
      rw [List.getD_eq_getElem?_getD] at this
      exact this

/-- An array of numbers that came in. -/
theorem open_row {H : Type} {enc : TypeId × Value → H} {P : Program} {W : World} {r : Reach} {base n : Nat} {t e : TypeId} {k : IntKind} {v : Value} {d : DataW H} {p : List MemPlace} (hu : P.underlying t = some (.array n e)) (he : P.underlying e = some (.int k)) (hce : P.cellsOf e = 1) (hct : P.cellsOf t = n)
    (hv : Value.okWide P W r base t v) (h : DataW.Trod enc P W 0 (fun _ => true) true t v d p) :
    ∃ l : List Int, l.length = n ∧ v = .agg (row k l) ∧ ∀ x ∈ l, (Lit.int k x).wf = true := by
  simp only [Value.okWide, hu] at hv
  obtain ⟨cs, rfl, hsz, _⟩ := hv
  rw [hct] at hsz
  obtain ⟨fuel, hf⟩ := h
  obtain ⟨xs, m, _, _, _, hlen, hel⟩ := DataW.trod_array hu hf
  simp only [Value.cells, hce, Nat.mul_one] at hel
  have key : ∀ i (hi : i < cs.size), cs[i] = .int k (intOf cs[i]) ∧ (Lit.int k (intOf cs[i])).wf = true := fun i hi => by
    have h1 := hel i (by omega)
    rw [List.getElem?_eq_getElem (by omega)] at h1
    obtain ⟨a, ea, _, wa⟩ := DataW.trod_int he h1
    have e1 : (cs.toList.drop i).take 1 = [cs[i]] := by
      rw [List.drop_eq_getElem_cons (by simpa using hi)]; simp
    rw [e1] at ea
    have e2 : cs[i] = .int k a := by simpa using ea
    rw [e2]
    exact ⟨rfl, wa⟩
  refine ⟨cs.toList.map intOf, by simp [hsz], ?_, ?_⟩
  · congr 1
    apply Array.ext (by simp [row])
    intro i h1 h2
    have := (key i h1).1
    simp only [row, List.map_map, List.getElem_toArray, List.getElem_map, Function.comp, Array.getElem_toList]
    exact this
  · intro x hx
    obtain ⟨c, hc, rfl⟩ := List.mem_map.1 hx
    obtain ⟨i, hi, rfl⟩ := List.mem_iff_getElem.1 hc
    have := (key i (by simpa using hi)).2
    simpa using this

theorem cellsArr8 : Tryd.prog.cellsOf 86 = 8 := by kernel_rfl
/-- Eight words that came in. -/
theorem open_words {H : Type} {enc : TypeId × Value → H} {W : World} {r : Reach} {base : Nat} {v : Value} {d : DataW H} {p : List MemPlace} (hv : Value.okWide Tryd.prog W r base 86 v) (h : DataW.Trod enc Tryd.prog W 0 (fun _ => true) true 86 v d p) :
    ∃ l : List Int, l.length = 8 ∧ v = .agg (row .u32 l) ∧ InU l := by
  obtain ⟨l, h1, h2, h3⟩ := open_row Tryd.underlying86 Tryd.underlying30 cellsU32 cellsArr8 hv h
  exact ⟨l, h1, h2, fun x hx => bounds_u32 (h3 x hx)⟩
end Go.Proofs.YtgcidamdbidgiaaDoor.S

namespace Go.Proofs.YtgcidamdbidgiaaDoor.S
set_option maxRecDepth 20000
open Go.ChangeShapes Go.WideShapes Go.ChangeAt Go.RowKit

theorem cellsKey : Tryd.prog.cellsOf 34 = 32 := by kernel_rfl
/-- A key that came in. -/
theorem open_key {H : Type} {enc : TypeId × Value → H} {W : World} {r : Reach} {base : Nat} {v : Value} {d : DataW H} {p : List MemPlace} (hv : Value.okWide Tryd.prog W r base 34 v) (h : DataW.Trod enc Tryd.prog W 0 (fun _ => true) true 34 v d p) :
    ∃ l : List Int, l.length = 32 ∧ v = .agg (row .u8 l) ∧ ∀ x ∈ l, 0 ≤ x ∧ x ≤ 255 := by
  obtain ⟨l, h1, h2, h3⟩ := open_row Tryd.underlying34 Tryd.underlying5 cellsU8 cellsKey hv h
  exact ⟨l, h1, h2, fun x hx => bounds_u8 (h3 x hx)⟩
end Go.Proofs.YtgcidamdbidgiaaDoor.S
