/- Two rows of numbers, compared. -/
import Derived.Test.YtknomnnbebhijaaDoorLive
import Derived.ChangeKeysEq
namespace Go.Proofs.YtknomnnbebhijaaDoor.S
open Go.RowKit

section
variable {P : Program}
theorem run_part_row (w : World) (e : TypeId) (kd : IntKind) (l : List Int) (k : Nat) (hue : P.underlying e = some (.int kd)) (hk : k < l.length) :
    (part e (row kd l) (k * 1)).run P w = .ok (.int kd (l[k]?.getD 0)) w := by
  have hg := row_get kd l k hk
  simp [part, isAgg, run_underlying hue, hg]
theorem run_eqItems_rows (w : World) (d : Nat) (e : TypeId) (kd : IntKind) (l m : List Int) (hue : P.underlying e = some (.int kd)) : ∀ is : List Nat, (∀ i ∈ is, i < l.length ∧ i < m.length) →
    (Op.eqItems (d + 1) e 1 (row kd l) (row kd m) is).run P w = .ok (is.all fun i => l[i]?.getD 0 == m[i]?.getD 0) w
  | [], _ => by simp [Op.eqItems]
  | i :: is, h => by
    have h1 := (h i (by simp)).1
    have h2 := (h i (by simp)).2
    have ih := run_eqItems_rows w d e kd l m hue is (fun j hj => h j (by simp [hj]))
    have he := run_equalIn_int (P := P) (w := w) d e kd kd (l[i]?.getD 0) (m[i]?.getD 0) hue
    simp only [Op.eqItems, Sem.run_bind, run_part_row w e kd l i hue h1, run_part_row w e kd m i hue h2, Result.andThen_ok, he, List.all_cons]
    cases hq : (l[i]?.getD 0 == m[i]?.getD 0)
    · simp
    · simpa using ih
theorem all_eq (l m : List Int) (n : Nat) (hl : l.length = n) (hm : m.length = n) : ((List.range n).all fun i => l[i]?.getD 0 == m[i]?.getD 0) = (l == m) := by
  rw [Bool.eq_iff_iff]
  simp only [List.all_eq_true, List.mem_range, beq_iff_eq]
  constructor
  · intro h
    apply List.ext_getElem (by omega)
    intro i h1 h2
    have := h i (by omega)
    simpa [h1, h2] using this
  · rintro rfl i _; rfl
theorem run_equalIn_rows (w : World) (d : Nat) {t e : TypeId} {n : Nat} (kd : IntKind) (l m : List Int) (hu : P.underlying t = some (.array n e)) (hue : P.underlying e = some (.int kd)) (hc : P.cellsOf e = 1) (hi : (P.info? e).isSome = true) (hl : l.length = n) (hm : m.length = n) :
    (Op.equalIn (d + 1 + 1) t (.agg (row kd l)) (.agg (row kd m))).run P w = .ok (l == m) w := by
  obtain ⟨i, hi⟩ := Option.isSome_iff_exists.1 hi
  rw [run_equalIn_array w (d + 1) _ _ hu hi, hc, run_eqItems_rows w d e kd l m hue _ (fun j hj => by have := List.mem_range.1 hj; omega), all_eq l m n hl hm]
end

theorem cellsU32 : Tryd.prog.cellsOf 69 = 1 := by kernel_rfl
theorem cellsU8 : Tryd.prog.cellsOf 5 = 1 := by kernel_rfl
theorem infoSomeU32 : (Tryd.prog.info? 69).isSome = true := by kernel_rfl
theorem infoSomeU8 : (Tryd.prog.info? 5).isSome = true := by kernel_rfl
theorem eqState (l m : List Int) (hl : l.length = 8) (hm : m.length = 8) (w : World) : (Op.equalIn 10000 71 (.agg (row .u32 l)) (.agg (row .u32 m))).run Tryd.prog w = .ok (l == m) w :=
  run_equalIn_rows w 9998 .u32 l m Tryd.underlying71 Tryd.underlying69 cellsU32 infoSomeU32 hl hm
theorem eqArr8 (l m : List Int) (hl : l.length = 8) (hm : m.length = 8) (w : World) : (Op.equalIn 10000 70 (.agg (row .u32 l)) (.agg (row .u32 m))).run Tryd.prog w = .ok (l == m) w :=
  run_equalIn_rows w 9998 .u32 l m Tryd.underlying70 Tryd.underlying69 cellsU32 infoSomeU32 hl hm
theorem eqKey (l m : List Int) (hl : l.length = 32) (hm : m.length = 32) (w : World) : (Op.equalIn 10000 66 (.agg (row .u8 l)) (.agg (row .u8 m))).run Tryd.prog w = .ok (l == m) w :=
  run_equalIn_rows w 9998 .u8 l m Tryd.underlying66 Tryd.underlying5 cellsU8 infoSomeU8 hl hm
theorem guardState : Tryd.prog.eqGuardType Tryd.prog.depth 71 = false := by kernel_rfl
theorem guardArr8 : Tryd.prog.eqGuardType Tryd.prog.depth 70 = false := by kernel_rfl
theorem guardKey : Tryd.prog.eqGuardType Tryd.prog.depth 66 = false := by kernel_rfl
end Go.Proofs.YtknomnnbebhijaaDoor.S
