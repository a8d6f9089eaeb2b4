/- Rows of numbers in one block: read, stored, copied, handed back, compared, indexed; what is kept below; nothing of one program. -/
import Derived.Test.YtgmbmdmbnpkbbaaProg
import Derived.Laws.Entries
import Derived.WalkKit
import Derived.WalkSpells
import Derived.WalkLawsBesides
import Derived.Deep.QuietTactic
import Derived.BigQuiet
import Derived.Laws.Rows
import Derived.Laws.CopyRow
import Derived.Laws.CopyOwn
import Derived.Deep.WholeRow
import Derived.ChangeKeysEq
import Derived.Deep.RegionHeld3
import Derived.Deep.DeepCutAuto
namespace Go.Proofs.Ytgmbmdmbnpkbbaa
open Go Go.RowKit

/-- A fact that no tactic looks into till it is opened (a structure: nothing unfolds it). -/
structure Veil (p : Prop) : Prop where
  out : p

/-- A row of numbers of one kind, as cells. -/
def row (k : IntKind) (l : List Int) : Array Value := (l.map (Value.int k)).toArray
theorem row_size (k : IntKind) (l : List Int) : (row k l).size = l.length := by simp [row]
theorem row_get? (k : IntKind) (l : List Int) (i : Nat) : (row k l)[i]? = l[i]?.map (Value.int k) := by simp [row]
theorem row_get (k : IntKind) (l : List Int) (i : Nat) (h : i < l.length) : (row k l)[i]? = some (Value.int k (l[i]?.getD 0)) := by
  rw [row_get?, List.getElem?_eq_getElem h]; rfl
theorem row_set (k : IntKind) (l : List Int) (i : Nat) (v : Int) : (row k l).setIfInBounds i (Value.int k v) = row k (l.set i v) := by
  simp [row, List.map_set]
theorem row_one (k : IntKind) (l : List Int) : (row k l).all (·.oneCell') = true := by
  simp [row, Value.oneCell']
theorem bits_or_comm (k : IntKind) (x y : Int) : bits .or k x y = bits .or k y x := by
  simp only [bits]; rw [BitVec.or_comm]
/-- Numbers of 32 bits. -/
def InU (s : List Int) : Prop := ∀ x ∈ s, 0 ≤ x ∧ x ≤ 4294967295
theorem set_next (l : List Int) (m : Nat) (v : Int) : (l ++ List.replicate (m + 1) 0).set l.length v = (l ++ [v]) ++ List.replicate m 0 := by
  rw [List.set_append_right _ _ (Nat.le_refl _)]; simp [List.replicate_succ]
theorem set_four (l : List Int) (m n : Nat) (a b c d : Int) (h : l.length = n) : ((((l ++ List.replicate (m + 4) 0).set n a).set (n + 1) b).set (n + 2) c).set (n + 3) d = l ++ [a, b, c, d] ++ List.replicate m 0 := by
  subst h
  rw [set_next l (m + 3) a]
  have e1 := set_next (l ++ [a]) (m + 2) b
  have e2 := set_next (l ++ [a] ++ [b]) (m + 1) c
  have e3 := set_next (l ++ [a] ++ [b] ++ [c]) m d
  simp only [List.length_append, List.length_cons, List.length_nil] at e1 e2 e3
  rw [show l.length + 1 = l.length + (0 + 1) by omega, e1, show l.length + 2 = l.length + (0 + 1) + (0 + 1) by omega, e2, show l.length + 3 = l.length + (0 + 1) + (0 + 1) + (0 + 1) by omega, e3]
  simp
theorem take_next (l : List Int) (k : Nat) (h : k < l.length) : l.take (k + 1) = l.take k ++ [l[k]?.getD 0] := by
  rw [List.take_succ_eq_append_getElem h, List.getElem?_eq_getElem h]; rfl
/-- Block g holds the row l, and may be written. -/
def Holds (w : World) (g : Nat) (k : IntKind) (t : TypeId) (l : List Int) : Prop := w.heap[g]? = some (.cells (row k l) t (0, 0))
theorem Holds.lt {w : World} {g : Nat} {k : IntKind} {t : TypeId} {l : List Int} (h : Holds w g k t l) : g < w.heap.size := by
  unfold Holds at h
  exact (Array.getElem?_eq_some_iff.1 h).1
theorem Holds.cell {w : World} {g : Nat} {k : IntKind} {t : TypeId} {l : List Int} (h : Holds w g k t l) (j : Nat) (hj : j < l.length) : w.cell? ⟨g, j, none⟩ = some (.int k (l[j]?.getD 0)) := by
  rw [cell_of_row w g j _ t _ h, row_get k l j hj]
theorem Holds.frozen {w : World} {g : Nat} {k : IntKind} {t : TypeId} {l : List Int} (h : Holds w g k t l) (j : Nat) : w.frozen? ⟨g, j, none⟩ = false := frozen_of_row w g j _ t h
theorem Holds.drewN {w : World} {g : Nat} {k : IntKind} {t : TypeId} {l : List Int} (h : Holds w g k t l) (n : Nat) : Holds (w.drewN n) g k t l := by
  unfold Holds at h ⊢; simpa using h
theorem Holds.drew {w : World} {g : Nat} {k : IntKind} {t : TypeId} {l : List Int} (h : Holds w g k t l) : Holds w.drew g k t l := by
  unfold Holds at h ⊢; rw [heap_drew]; exact h
theorem Holds.alloc {w : World} {g : Nat} {k : IntKind} {t : TypeId} {l : List Int} (h : Holds w g k t l) (o : Obj) : Holds (w.alloc o) g k t l := by
  have hl := h.lt
  unfold Holds at h ⊢; rw [Below.heap_alloc w o g hl]; exact h
theorem Holds.below {w w' : World} {B g : Nat} {k : IntKind} {t : TypeId} {l : List Int} (h : Holds w g k t l) (hb : Below B w w') (hg : g < B) : Holds w' g k t l := by
  unfold Holds at h ⊢; rw [hb.block g hg]; exact h
theorem Holds.set {w : World} {g : Nat} {k : IntKind} {t : TypeId} {l : List Int} (h : Holds w g k t l) (j : Nat) (v : Int) : Holds (w.setCell ⟨g, j, none⟩ (.int k v)) g k t (l.set j v) := by
  unfold Holds at h ⊢
  rw [heap_setCell_same w g j _ t _ h, row_set]
theorem Holds.setOther {w : World} {g : Nat} {k : IntKind} {t : TypeId} {l : List Int} (h : Holds w g k t l) (a : Addr) (v : Value) (hne : g ≠ a.block) : Holds (w.setCell a v) g k t l := by
  unfold Holds at h ⊢
  rw [heap_setCell_other w a g v hne]; exact h
theorem Holds.new (w : World) (k : IntKind) (t : TypeId) (l : List Int) : Holds (w.alloc (.cells (row k l) t)) w.heap.size k t l := heap_alloc_new w _
theorem Holds.setRow {w : World} {g : Nat} {k : IntKind} {t : TypeId} {l : List Int} (h : Holds w g k t l) (l' : List Int) : Holds (w.setRow g (row k l')) g k t l' := by
  unfold Holds at h ⊢; exact setRow_heap w g _ _ t _ h
theorem Holds.setRowOther {w : World} {g g' : Nat} {k : IntKind} {t : TypeId} {l : List Int} (h : Holds w g k t l) (cs : Array Value) (hne : g ≠ g') : Holds (w.setRow g' cs) g k t l := by
  unfold Holds at h ⊢; rw [setRow_other w g' g cs hne]; exact h
theorem drewN_size (w : World) (n : Nat) : (w.drewN n).heap.size = w.heap.size := by simp
theorem below_drewN {B : Nat} {a w : World} (h : Below B a w) (n : Nat) : Below B a (w.drewN n) := by
  induction n with
  | zero => exact h
  | succ n ih => exact ih.drew
/-- What is known of a world in the place of its text. -/
theorem forget {p : World → Prop} {W : World} (I : World → Prop) (hI : I W) (h : ∀ W0, I W0 → p W0) : p W := h W hI
theorem bcell {W w1 : World} (hb : Below W.heap.size W w1) : (∀ b o, b < W.heap.size → w1.cell? ⟨b, o, none⟩ = W.cell? ⟨b, o, none⟩) ∧ (∀ b o, b < W.heap.size → w1.frozen? ⟨b, o, none⟩ = W.frozen? ⟨b, o, none⟩) :=
  ⟨fun b o h => hb.cell (p := ⟨b, o, none⟩) h, fun b o h => hb.frozen (p := ⟨b, o, none⟩) h⟩
section
variable {P : Program}
/-- A whole row of one type out of its block. -/
theorem wpList_ld {ops : Array Oper} {rest : List Oper} {o : Oper} {a : Act} {w : World} {Q : Exit → Act → World → Prop} (hgd : o.guard = none) (ty : TypeId) (x : Operand) (ho : o.op = .load ty x)
    (g : Nat) (hx : a.eval x = .pointer (some ⟨g, 0, none⟩)) {k : IntKind} {t : TypeId} {l : List Int} (hg : Holds w g k t l) {n : Nat} {e : TypeId}
    (hu : P.underlying ty = some (.array n e)) (hi : (P.info? ty).map (·.size) = some n) (hl : l.length = n)
    (h : wpList P ops Q rest (a.put o.dst (.agg (row k l))) w) : wpList P ops Q (o :: rest) a w :=
  wpList_load_row hgd ty x ho g hx t (row k l) (0, 0) _ hg hu rfl (by rw [hi, row_size, hl]) h
theorem run_storeVar_row (w : World) (g : Nat) (ty t : TypeId) (k : IntKind) (old l : List Int) (hg : Holds w g k t old) (hl : old.length = l.length) (hi : (P.info? ty).map (·.size) = some l.length) :
    (storeVar ty ⟨g, 0, none⟩ (.agg (row k l))).run P w = .ok () (w.setRow g (row k l)) := by
  have hst := run_storeCells_at P g 0 t (row k l).toList 0 (row k old) w hg (by simp [row, hl]) (fun v hv => by
    have := row_one k l
    exact (Array.all_eq_true_iff_forall_mem.1 this) v (by simpa using hv))
  cases hq : P.info? ty with
  | none => simp [hq] at hi
  | some i =>
    have hs : i.size = l.length := by simpa [hq] using hi
    have hsz : (row k l).size = i.size := by rw [row_size, hs]
    have he : (List.take (0 + 0) (row k old).toList ++ (row k l).toList ++ List.drop (0 + 0 + (row k l).toList.length) (row k old).toList).toArray = row k l := by
      simp [row, hl]
    rw [he] at hst
    simp [storeVar, sizeOf, typeInfo, hq, Value.cells, hsz, hst]
/-- A whole row of one type into its block. -/
theorem wpList_st {ops : Array Oper} {rest : List Oper} {o : Oper} {a : Act} {w : World} {Q : Exit → Act → World → Prop} (hgd : o.guard = none) (ty : TypeId) (x y : Operand) (ho : o.op = .store ty x y)
    (g : Nat) (hx : a.eval x = .pointer (some ⟨g, 0, none⟩)) {k : IntKind} {t : TypeId} {old l : List Int} (hy : a.eval y = .agg (row k l)) (hg : Holds w g k t old)
    (hi : (P.info? ty).map (·.size) = some l.length) (hl : old.length = l.length)
    (h : wpList P ops Q rest (a.put o.dst undef) (w.setRow g (row k l))) : wpList P ops Q (o :: rest) a w :=
  wpList_plain hgd fun _ hK => by
    unfold Oper.wp execOp
    simp only [ho, hx, hy, Instr.storeAt, Instr.sureAddr, Sem.run_bind, Sem.run_pure, Result.andThen_ok, run_storeVar_row w g ty t k old l hg hl hi]
    exact hK _ _ h
/-- A row handed back out of the result's own cell. -/
theorem results_holds {fn : Func} {p : Tmp} {ty : TypeId} (h : fn.results = #[.cell p ty]) (tmps : Array Value) {w : World} {g : Nat} {k : IntKind} {t : TypeId} {l : List Int}
    (hp : tmps.getD p undef = .pointer (some ⟨g, 0, none⟩)) (hg : Holds w g k t l) {n : Nat} {e : TypeId}
    (hu : P.underlying ty = some (.array n e)) (hi : (P.info? ty).map (·.size) = some n) (hl : l.length = n) :
    (results fn tmps).run P w = .ok (.agg (row k l)) w :=
  results_cell_row h tmps w g t (row k l) (0, 0) _ hp hg hu rfl (by rw [hi, row_size, hl])
theorem run_part_row (w : World) (e : TypeId) (kd : IntKind) (l : List Int) (k : Nat) (hue : P.underlying e = some (.int kd)) (hk : k < l.length) :
    (part e (row kd l) (k * 1)).run P w = .ok (.int kd (l[k]?.getD 0)) w := by
  have hg := row_get kd l k hk
  simp [part, isAgg, run_underlying hue, hg]
theorem run_eqItems_rows (w : World) (d : Nat) (e : TypeId) (kd : IntKind) (l m : List Int) (hue : P.underlying e = some (.int kd)) : ∀ is : List Nat, (∀ i ∈ is, i < l.length ∧ i < m.length) →
    (Op.eqItems (d + 1) e 1 (row kd l) (row kd m) is).run P w = .ok (is.all fun i => l[i]?.getD 0 == m[i]?.getD 0) w
  | [], _ => by simp [Op.eqItems]
  | i :: is, h => by
    have h1 := (h i (by simp)).1
    have h2 := (h i (by simp)).2
    have ih := run_eqItems_rows w d e kd l m hue is (fun j hj => h j (by simp [hj]))
    have he := run_equalIn_int (P := P) (w := w) d e kd kd (l[i]?.getD 0) (m[i]?.getD 0) hue
    simp only [Op.eqItems, Sem.run_bind, run_part_row w e kd l i hue h1, run_part_row w e kd m i hue h2, Result.andThen_ok, he, List.all_cons]
    cases hq : (l[i]?.getD 0 == m[i]?.getD 0)
    · simp
    · simpa using ih
theorem all_eq (l m : List Int) (n : Nat) (hl : l.length = n) (hm : m.length = n) : ((List.range n).all fun i => l[i]?.getD 0 == m[i]?.getD 0) = (l == m) := by
  rw [Bool.eq_iff_iff]
  simp only [List.all_eq_true, List.mem_range, beq_iff_eq]
  constructor
  · intro h
    apply List.ext_getElem (by omega)
    intro i h1 h2
    have := h i (by omega)
    simpa [h1, h2] using this
  · rintro rfl i _; rfl
theorem run_equalIn_rows (w : World) (d : Nat) {t e : TypeId} {n : Nat} (kd : IntKind) (l m : List Int) (hu : P.underlying t = some (.array n e)) (hue : P.underlying e = some (.int kd)) (hc : P.cellsOf e = 1) (hi : (P.info? e).isSome = true) (hl : l.length = n) (hm : m.length = n) :
    (Op.equalIn (d + 1 + 1) t (.agg (row kd l)) (.agg (row kd m))).run P w = .ok (l == m) w := by
  obtain ⟨i, hi⟩ := Option.isSome_iff_exists.1 hi
  rw [run_equalIn_array w (d + 1) _ _ hu hi, hc, run_eqItems_rows w d e kd l m hue _ (fun j hj => by have := List.mem_range.1 hj; omega), all_eq l m n hl hm]
end
theorem run_index_row {P : Program} (w : World) (t e : TypeId) (n : Nat) (kd : IntKind) (l : List Int) (k : Nat) (hu : P.underlying t = some (.array n e)) (hue : P.underlying e = some (.int kd)) (hi : (P.info? e).map (·.size) = some 1) (hl : l.length = n) (hk : k < n) :
    (Instr.index t (.agg (row kd l)) (.int .i64 k)).run P w = .ok (.int kd (l[k]?.getD 0)) w := by
  cases hq : P.info? e with
  | none => simp [hq] at hi
  | some i =>
    have hs : i.size = 1 := by simpa [hq] using hi
    have hg := row_get kd l k (by omega)
    simp [Instr.index, asIntOf, run_underlying hu, sizeOf, typeInfo, hq, hs, hk, part, isAgg, run_underlying hue, hg]
end Go.Proofs.Ytgmbmdmbnpkbbaa

