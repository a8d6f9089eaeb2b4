/- BaseK Gk Gb -/
import Derived.Test.YtflkhkmejnpapaaGreatDoorK03
import Derived.Test.YtflkhkmejnpapaaGreatDoorProg
import Derived.Laws.Entries
import Derived.WalkKit
import Derived.WalkSpells
import Derived.WalkLawsBesides
import Derived.Deep.QuietTactic
import Derived.BigQuiet
import Derived.Laws.Rows
import Derived.Laws.CopyRow
import Derived.Laws.CopyOwn
import Derived.Deep.WholeRow
import Derived.ChangeKeysEq
import Derived.Deep.RegionHeld3
import Derived.Deep.DeepCutAuto
import Derived.Deep.OwnRows
import Derived.Maps.AppendAt
import Derived.Laws.AppendOwnNone
import Derived.RangeFuncBox
import Derived.Laws.BytesString
import Derived.Laws.BytesArg
namespace Go.Proofs.YtflkhkmejnpapaaGreatDoor.S
set_option maxRecDepth 20000
open Go.ChangeShapes Go.WideShapes Go.ChangeAt Go.RowKit
theorem cellsKey : Tryz.prog.cellsOf 23 = 32 := by kernel_rfl
theorem open_key {H : Type} {enc : TypeId × Value → H} {W : World} {r : Reach} {base : Nat} {v : Value} {d : DataW H} {p : List MemPlace} (hv : Value.okWide Tryz.prog W r base 23 v) (h : DataW.Trod enc Tryz.prog W 0 (fun _ => true) true 23 v d p) :
    ∃ l : List Int, l.length = 32 ∧ v = .agg (row .u8 l) ∧ ∀ x ∈ l, 0 ≤ x ∧ x ≤ 255 := by
 obtain ⟨l, h1, h2, h3⟩ := open_row Tryz.underlying23 Tryz.underlying5 cellsU8 cellsKey hv h
 exact ⟨l, h1, h2, fun x hx => bounds_u8 (h3 x hx)⟩
end Go.Proofs.YtflkhkmejnpapaaGreatDoor.S
namespace Go.Proofs.YtflkhkmejnpapaaGreatDoor
open Go Go.RowKit
theorem sI {α : Type _} (l : List α) (i : Nat) (a : α) : l.toArray.setIfInBounds i a = (l.set i a).toArray := List.setIfInBounds_toArray ..
theorem sZ {α : Type _} {a b : α} {l : List α} : (a :: l).set 0 b = b :: l := rfl
theorem sS {α : Type _} {a b : α} {l : List α} {n : Nat} : (a :: l).set (n + 1) b = a :: l.set n b := rfl
theorem gZ {α : Type _} {a : α} {l : List α} (h : 0 < (a :: l).length) : (a :: l)[0] = a := rfl
theorem gS {α : Type _} {a : α} {l : List α} {i : Nat} (h : i + 1 < (a :: l).length) : (a :: l)[i + 1] = l[i]'(Nat.lt_of_succ_lt_succ h) := rfl
theorem gA {α : Type _} {xs : List α} {i : Nat} (h : i < xs.toArray.size) : xs.toArray[i] = xs[i]'(by simpa using h) := rfl
structure Veil (p : Prop) : Prop where
 out : p
def row (k : IntKind) (l : List Int) : Array Value := (l.map (Value.int k)).toArray
theorem row_size (k : IntKind) (l : List Int) : (row k l).size = l.length := by simp [row]
theorem row_get? (k : IntKind) (l : List Int) (i : Nat) : (row k l)[i]? = l[i]?.map (Value.int k) := by simp [row]
theorem row_get (k : IntKind) (l : List Int) (i : Nat) (h : i < l.length) : (row k l)[i]? = some (Value.int k (l[i]?.getD 0)) := by
 rw [row_get?, List.getElem?_eq_getElem h]; rfl
theorem row_set (k : IntKind) (l : List Int) (i : Nat) (v : Int) : (row k l).setIfInBounds i (Value.int k v) = row k (l.set i v) := by
 simp [row, List.map_set]
theorem row_one (k : IntKind) (l : List Int) : (row k l).all (·.oneCell') = true := by
 simp [row, Value.oneCell']
theorem bits_or_comm (k : IntKind) (x y : Int) : bits .or k x y = bits .or k y x := by
 simp only [bits]; rw [BitVec.or_comm]
def InU (s : List Int) : Prop := ∀ x ∈ s, 0 ≤ x ∧ x ≤ 4294967295
theorem set_next (l : List Int) (m : Nat) (v : Int) : (l ++ List.replicate (m + 1) 0).set l.length v = (l ++ [v]) ++ List.replicate m 0 := by
 rw [List.set_append_right _ _ (Nat.le_refl _)]; simp [List.replicate_succ]
theorem set_four (l : List Int) (m n : Nat) (a b c d : Int) (h : l.length = n) : ((((l ++ List.replicate (m + 4) 0).set n a).set (n + 1) b).set (n + 2) c).set (n + 3) d = l ++ [a, b, c, d] ++ List.replicate m 0 := by
 subst h
 rw [set_next l (m + 3) a]
 have e1 := set_next (l ++ [a]) (m + 2) b
 have e2 := set_next (l ++ [a] ++ [b]) (m + 1) c
 have e3 := set_next (l ++ [a] ++ [b] ++ [c]) m d
 simp only [List.length_append, List.length_cons, List.length_nil] at e1 e2 e3
 rw [show l.length + 1 = l.length + (0 + 1) by omega, e1, show l.length + 2 = l.length + (0 + 1) + (0 + 1) by omega, e2, show l.length + 3 = l.length + (0 + 1) + (0 + 1) + (0 + 1) by omega, e3]
 simp
theorem take_next (l : List Int) (k : Nat) (h : k < l.length) : l.take (k + 1) = l.take k ++ [l[k]?.getD 0] := by
 rw [List.take_succ_eq_append_getElem h, List.getElem?_eq_getElem h]; rfl
def Holds (w : World) (g : Nat) (k : IntKind) (t : TypeId) (l : List Int) : Prop := w.heap[g]? = some (.cells (row k l) t (0, 0))
theorem Holds.lt {w : World} {g : Nat} {k : IntKind} {t : TypeId} {l : List Int} (h : Holds w g k t l) : g < w.heap.size := by
 unfold Holds at h
 exact (Array.getElem?_eq_some_iff.1 h).1
theorem Holds.cell {w : World} {g : Nat} {k : IntKind} {t : TypeId} {l : List Int} (h : Holds w g k t l) (j : Nat) (hj : j < l.length) : w.cell? ⟨g, j, none⟩ = some (.int k (l[j]?.getD 0)) := by
 rw [cell_of_row w g j _ t _ h, row_get k l j hj]
theorem Holds.frozen {w : World} {g : Nat} {k : IntKind} {t : TypeId} {l : List Int} (h : Holds w g k t l) (j : Nat) : w.frozen? ⟨g, j, none⟩ = false := frozen_of_row w g j _ t h
theorem Holds.drewN {w : World} {g : Nat} {k : IntKind} {t : TypeId} {l : List Int} (h : Holds w g k t l) (n : Nat) : Holds (w.drewN n) g k t l := by
 unfold Holds at h ⊢; simpa using h
theorem Holds.drew {w : World} {g : Nat} {k : IntKind} {t : TypeId} {l : List Int} (h : Holds w g k t l) : Holds w.drew g k t l := by
 unfold Holds at h ⊢; rw [heap_drew]; exact h
theorem Holds.alloc {w : World} {g : Nat} {k : IntKind} {t : TypeId} {l : List Int} (h : Holds w g k t l) (o : Obj) : Holds (w.alloc o) g k t l := by
 have hl := h.lt
 unfold Holds at h ⊢; rw [Below.heap_alloc w o g hl]; exact h
theorem Holds.below {w w' : World} {B g : Nat} {k : IntKind} {t : TypeId} {l : List Int} (h : Holds w g k t l) (hb : Below B w w') (hg : g < B) : Holds w' g k t l := by
 unfold Holds at h ⊢; rw [hb.block g hg]; exact h
theorem Holds.set {w : World} {g : Nat} {k : IntKind} {t : TypeId} {l : List Int} (h : Holds w g k t l) (j : Nat) (v : Int) : Holds (w.setCell ⟨g, j, none⟩ (.int k v)) g k t (l.set j v) := by
 unfold Holds at h ⊢
 rw [heap_setCell_same w g j _ t _ h, row_set]
theorem Holds.setOther {w : World} {g : Nat} {k : IntKind} {t : TypeId} {l : List Int} (h : Holds w g k t l) (a : Addr) (v : Value) (hne : g ≠ a.block) : Holds (w.setCell a v) g k t l := by
 unfold Holds at h ⊢
 rw [heap_setCell_other w a g v hne]; exact h
theorem Holds.new (w : World) (k : IntKind) (t : TypeId) (l : List Int) : Holds (w.alloc (.cells (row k l) t)) w.heap.size k t l := heap_alloc_new w _
theorem Holds.setRow {w : World} {g : Nat} {k : IntKind} {t : TypeId} {l : List Int} (h : Holds w g k t l) (l' : List Int) : Holds (w.setRow g (row k l')) g k t l' := by
 unfold Holds at h ⊢; exact setRow_heap w g _ _ t _ h
theorem Holds.setRowOther {w : World} {g g' : Nat} {k : IntKind} {t : TypeId} {l : List Int} (h : Holds w g k t l) (cs : Array Value) (hne : g ≠ g') : Holds (w.setRow g' cs) g k t l := by
 unfold Holds at h ⊢; rw [setRow_other w g' g cs hne]; exact h
theorem drewN_size (w : World) (n : Nat) : (w.drewN n).heap.size = w.heap.size := by simp
theorem below_drewN {B : Nat} {a w : World} (h : Below B a w) (n : Nat) : Below B a (w.drewN n) := by
 induction n with
 | zero => exact h
 | succ n ih => exact ih.drew
theorem forget {p : World → Prop} {W : World} (I : World → Prop) (hI : I W) (h : ∀ W0, I W0 → p W0) : p W := h W hI
theorem bcell {W w1 : World} (hb : Below W.heap.size W w1) : (∀ b o, b < W.heap.size → w1.cell? ⟨b, o, none⟩ = W.cell? ⟨b, o, none⟩) ∧ (∀ b o, b < W.heap.size → w1.frozen? ⟨b, o, none⟩ = W.frozen? ⟨b, o, none⟩) :=
 ⟨fun b o h => hb.cell (p := ⟨b, o, none⟩) h, fun b o h => hb.frozen (p := ⟨b, o, none⟩) h⟩
section
variable {P : Program}
theorem wpList_ld {ops : Array Oper} {rest : List Oper} {o : Oper} {a : Act} {w : World} {Q : Exit → Act → World → Prop} (hgd : o.guard = none) (ty : TypeId) (x : Operand) (ho : o.op = .load ty x)
    (g : Nat) (hx : a.eval x = .pointer (some ⟨g, 0, none⟩)) {k : IntKind} {t : TypeId} {l : List Int} (hg : Holds w g k t l) {n : Nat} {e : TypeId}
    (hu : P.underlying ty = some (.array n e)) (hi : (P.info? ty).map (·.size) = some n) (hl : l.length = n)
    (h : wpList P ops Q rest (a.put o.dst (.agg (row k l))) w) : wpList P ops Q (o :: rest) a w :=
 wpList_load_row hgd ty x ho g hx t (row k l) (0, 0) _ hg hu rfl (by rw [hi, row_size, hl]) h
theorem run_storeVar_row (w : World) (g : Nat) (ty t : TypeId) (k : IntKind) (old l : List Int) (hg : Holds w g k t old) (hl : old.length = l.length) (hi : (P.info? ty).map (·.size) = some l.length) :
    (storeVar ty ⟨g, 0, none⟩ (.agg (row k l))).run P w = .ok () (w.setRow g (row k l)) := by
 have hst := run_storeCells_at P g 0 t (row k l).toList 0 (row k old) w hg (by simp [row, hl]) (fun v hv => by
  have := row_one k l
  exact (Array.all_eq_true_iff_forall_mem.1 this) v (by simpa using hv))
 cases hq : P.info? ty with
 | none => simp [hq] at hi
 | some i =>
  have hs : i.size = l.length := by simpa [hq] using hi
  have hsz : (row k l).size = i.size := by rw [row_size, hs]
  have he : (List.take (0 + 0) (row k old).toList ++ (row k l).toList ++ List.drop (0 + 0 + (row k l).toList.length) (row k old).toList).toArray = row k l := by
   simp [row, hl]
  rw [he] at hst
  simp [storeVar, sizeOf, typeInfo, hq, Value.cells, hsz, hst]
theorem wpList_st {ops : Array Oper} {rest : List Oper} {o : Oper} {a : Act} {w : World} {Q : Exit → Act → World → Prop} (hgd : o.guard = none) (ty : TypeId) (x y : Operand) (ho : o.op = .store ty x y)
    (g : Nat) (hx : a.eval x = .pointer (some ⟨g, 0, none⟩)) {k : IntKind} {t : TypeId} {old l : List Int} (hy : a.eval y = .agg (row k l)) (hg : Holds w g k t old)
    (hi : (P.info? ty).map (·.size) = some l.length) (hl : old.length = l.length)
    (h : wpList P ops Q rest (a.put o.dst undef) (w.setRow g (row k l))) : wpList P ops Q (o :: rest) a w :=
 wpList_plain hgd fun _ hK => by
  unfold Oper.wp execOp
  simp only [ho, hx, hy, Instr.storeAt, Instr.sureAddr, Sem.run_bind, Sem.run_pure, Result.andThen_ok, run_storeVar_row w g ty t k old l hg hl hi]
  exact hK _ _ h
theorem results_holds {fn : Func} {p : Tmp} {ty : TypeId} (h : fn.results = #[.cell p ty]) (tmps : Array Value) {w : World} {g : Nat} {k : IntKind} {t : TypeId} {l : List Int}
    (hp : tmps.getD p undef = .pointer (some ⟨g, 0, none⟩)) (hg : Holds w g k t l) {n : Nat} {e : TypeId}
    (hu : P.underlying ty = some (.array n e)) (hi : (P.info? ty).map (·.size) = some n) (hl : l.length = n) :
    (results fn tmps).run P w = .ok (.agg (row k l)) w :=
 results_cell_row h tmps w g t (row k l) (0, 0) _ hp hg hu rfl (by rw [hi, row_size, hl])
theorem run_part_row (w : World) (e : TypeId) (kd : IntKind) (l : List Int) (k : Nat) (hue : P.underlying e = some (.int kd)) (hk : k < l.length) :
    (part e (row kd l) (k * 1)).run P w = .ok (.int kd (l[k]?.getD 0)) w := by
 have hg := row_get kd l k hk
 simp [part, isAgg, run_underlying hue, hg]
theorem run_eqItems_rows (w : World) (d : Nat) (e : TypeId) (kd : IntKind) (l m : List Int) (hue : P.underlying e = some (.int kd)) : ∀ is : List Nat, (∀ i ∈ is, i < l.length ∧ i < m.length) →
    (Op.eqItems (d + 1) e 1 (row kd l) (row kd m) is).run P w = .ok (is.all fun i => l[i]?.getD 0 == m[i]?.getD 0) w
 | [], _ => by simp [Op.eqItems]
 | i :: is, h => by
  have h1 := (h i (by simp)).1
  have h2 := (h i (by simp)).2
  have ih := run_eqItems_rows w d e kd l m hue is (fun j hj => h j (by simp [hj]))
  have he := run_equalIn_int (P := P) (w := w) d e kd kd (l[i]?.getD 0) (m[i]?.getD 0) hue
  simp only [Op.eqItems, Sem.run_bind, run_part_row w e kd l i hue h1, run_part_row w e kd m i hue h2, Result.andThen_ok, he, List.all_cons]
  cases hq : (l[i]?.getD 0 == m[i]?.getD 0)
  · simp
  · simpa using ih
theorem all_eq (l m : List Int) (n : Nat) (hl : l.length = n) (hm : m.length = n) : ((List.range n).all fun i => l[i]?.getD 0 == m[i]?.getD 0) = (l == m) := by
 rw [Bool.eq_iff_iff]
 simp only [List.all_eq_true, List.mem_range, beq_iff_eq]
 constructor
 · intro h
   apply List.ext_getElem (by omega)
   intro i h1 h2
   have := h i (by omega)
   simpa [h1, h2] using this
 · rintro rfl i _; rfl
theorem run_equalIn_rows (w : World) (d : Nat) {t e : TypeId} {n : Nat} (kd : IntKind) (l m : List Int) (hu : P.underlying t = some (.array n e)) (hue : P.underlying e = some (.int kd)) (hc : P.cellsOf e = 1) (hi : (P.info? e).isSome = true) (hl : l.length = n) (hm : m.length = n) :
    (Op.equalIn (d + 1 + 1) t (.agg (row kd l)) (.agg (row kd m))).run P w = .ok (l == m) w := by
 obtain ⟨i, hi⟩ := Option.isSome_iff_exists.1 hi
 rw [run_equalIn_array w (d + 1) _ _ hu hi, hc, run_eqItems_rows w d e kd l m hue _ (fun j hj => by have := List.mem_range.1 hj; omega), all_eq l m n hl hm]
end
theorem run_index_row {P : Program} (w : World) (t e : TypeId) (n : Nat) (kd : IntKind) (l : List Int) (k : Nat) (hu : P.underlying t = some (.array n e)) (hue : P.underlying e = some (.int kd)) (hi : (P.info? e).map (·.size) = some 1) (hl : l.length = n) (hk : k < n) :
    (Instr.index t (.agg (row kd l)) (.int .i64 k)).run P w = .ok (.int kd (l[k]?.getD 0)) w := by
 cases hq : P.info? e with
 | none => simp [hq] at hi
 | some i =>
  have hs : i.size = 1 := by simpa [hq] using hi
  have hg := row_get kd l k (by omega)
  simp [Instr.index, asIntOf, run_underlying hu, sizeOf, typeInfo, hq, hs, hk, part, isAgg, run_underlying hue, hg]
open Go.RowKit
theorem Addr.add_mid' (b o j : Nat) : (⟨b, o, none⟩ : Addr).add j = ⟨b, o + j, none⟩ := by unfold Addr.add; split <;> simp_all
structure Bytes (w : World) (x : Option Addr) (len cap : Nat) (z : List Int) : Prop where
 len_eq : len = z.length
 le : len ≤ cap
 top : cap ≤ 9223372036854775807
 nil : x = none → cap = 0
 at_ : len = 0 ∨ ∃ b off, x = some ⟨b, off, none⟩ ∧ ∀ j, j < len → w.cell? ⟨b, off + j, none⟩ = some (.int .u8 (z[j]?.getD 0))
theorem Bytes.below {w w' : World} {x : Option Addr} {len cap : Nat} {z : List Int} (h : Bytes w x len cap z) (hb : Below w.heap.size w w') : Bytes w' x len cap z :=
 ⟨h.len_eq, h.le, h.top, h.nil, by
  rcases h.at_ with h0 | ⟨b, off, hx, hc⟩
  · exact .inl h0
  · by_cases hl : len = 0
    · exact .inl hl
    · exact .inr ⟨b, off, hx, fun j hj => (hb.cell (p := ⟨b, off + j, none⟩) (block_lt_of_cell (hc j hj))).trans (hc j hj)⟩⟩
theorem bytes_nil (w : World) : Bytes w none 0 0 [] := ⟨rfl, by omega, by omega, fun _ => rfl, .inl rfl⟩
theorem infoU8 : (Tryz.prog.info? 5).map (fun i => (i.zero, i.size, i.bytes)) = some (some (.int .u8 0), 1, 1) := by kernel_rfl
theorem size1u8 : (Tryz.prog.info? 5).map (·.size) = some 1 := by kernel_rfl
theorem made_row (n : Nat) : madeCells #[.int .u8 0] n = row .u8 (List.replicate n 0) := by
 apply Array.ext_getElem?
 intro i
 by_cases h : i < n <;> simp [madeCells, row, h, Nat.mod_one]
theorem run_copy_bytes {t : TypeId} (w : World) (g m : Nat) (x : Option Addr) (len cap : Nat) (z : List Int) (hb : Bytes w x len cap z) (hg : Holds w g .u8 t (List.replicate m 0)) (hm : len ≤ m) :
    (Builtin.copy_ #[74, 74] 3 #[.slice (some ⟨g, 0, none⟩) m m, .slice x len cap]).run Tryz.prog w = .ok (.int .i64 len) (w.setRow g (row .u8 (z ++ List.replicate (m - z.length) 0))) := by
 have hz : z.length = len := hb.len_eq.symm
 have hcopy : ∀ (a : Addr), (∀ j v, (row .u8 z).toList[j]? = some v → w.cell? (a.add j) = some v) →
     (Builtin.copy_ #[74, 74] 3 #[.slice (some ⟨g, 0, none⟩) m m, .slice (some a) len cap]).run Tryz.prog w = .ok (.int .i64 len) (w.setRow g (row .u8 (z ++ List.replicate (m - z.length) 0))) := fun a hsrc => by
  have hlen : (row .u8 z).toList.length = len := by simp [row, hz]
  have := run_copy_row (P := Tryz.prog) w 74 74 3 5 g 0 m m a len cap _ t (row .u8 z).toList Tryz.underlying74 size1u8 hg
   (by rw [hlen]; exact (Nat.min_eq_left hm).symm) hsrc (by rw [hlen, row_size, List.length_replicate]; omega) (fun v hv => (Array.all_eq_true_iff_forall_mem.1 (row_one .u8 z)) v (by simpa using hv))
  rw [this, hlen]
  have e : (List.take 0 (row .u8 (List.replicate m 0)).toList ++ (row .u8 z).toList ++ List.drop (0 + len) (row .u8 (List.replicate m 0)).toList).toArray = row .u8 (z ++ List.replicate (m - z.length) 0) := by
   simp [row, hz]
  rw [e]; rfl
 rcases hb.at_ with h0 | ⟨b, off, hx, hc⟩
 · have hz0 : z = [] := List.length_eq_zero_iff.1 (by omega)
   cases x with
   | none =>
    have hc0 := hb.nil rfl
    subst h0 hc0 hz0
    rw [run_copy_nil Tryz.prog w 74 74 3 5 ⟨g, 0, none⟩ m m Tryz.underlying74 (by rw [size1u8]; rfl)]
    simp only [List.nil_append, List.length_nil, Nat.sub_zero]
    rw [setRow_self w g _ t _ hg]; rfl
   | some a => exact hcopy a (fun j v hv => by subst hz0; simp [row] at hv)
 · subst hx
   exact hcopy _ (fun j v hv => by
    have hj : j < len := by
     have := (List.getElem?_eq_some_iff.1 hv).1
     simpa [row, hz] using this
    rw [Addr.add_mid', hc j hj]
    have : (row .u8 z).toList[j]? = some (.int .u8 (z[j]?.getD 0)) := by
     have h := row_get .u8 z j (by omega)
     simpa using h
    rw [← this]; exact hv)
def lenOf : Value → Nat | .slice _ n _ => n | _ => 0
def OwnB (w : World) (base : Nat) (v : Value) (z : List Int) : Prop := w.ownsRow base 5 1 v z.length (z.map (Value.int .u8))
theorem OwnB.cast {w : World} {base n : Nat} {v : Value} {z : List Int} {xs : List Value} (h : w.ownsRow base 5 1 v n xs) (hn : n = z.length) (hx : xs = z.map (Value.int .u8)) : OwnB w base v z := by
 subst hn hx; exact h
theorem wpList_app {w : World} {ops : Array Oper} {rest : List Oper} {o : Oper} {a : Act} {Q : Exit → Act → World → Prop} (hgd : o.guard = none) (s x : Operand)
    (ho : o.op = .call { callee := .builtin .append, args := #[s, x], argTypes := #[74, 74] }) (base : Nat) (v : Value) (zs : List Int) (hs : a.eval s = v) (hown : OwnB w base v zs)
    (y : Option Addr) (len cap : Nat) (z : List Int) (hx : a.eval x = .slice y len cap) (hb : Bytes w y len cap z) (hln : zs.length + len ≤ 4000000) (hbase : base ≤ w.heap.size)
    (h : ∀ v' w', OwnB w' base v' (zs ++ z) → w.grownBy w' v.ownBlock → wpList Tryz.prog ops Q rest (a.put o.dst v') w') : wpList Tryz.prog ops Q (o :: rest) a w := by
 obtain ⟨i0, hi, hz0, hz1, hz2⟩ := info_parts infoU8
 have hzl := hb.len_eq
 have hcase : ∀ ad : Addr, y = some ad → (∀ j u, (z.map (Value.int .u8))[j]? = some u → w.cell? (ad.add j) = some u) → wpList Tryz.prog ops Q (o :: rest) a w := fun ad hy hsrc => by
  subst hy
  refine wpList_append_own w hgd s x 74 ho base 5 i0 (.int .u8 0) 1 1 Tryz.underlying74 hi hz0 hz1 hz2 rfl (by decide) v zs.length (zs.map (Value.int .u8)) hs hown ad len cap (z.map (Value.int .u8)) hx (by simp [hzl]) hsrc (by simp [Value.oneCell']) (by simp [maxLen]; omega) (by omega) hbase ?_
  intro v' w' h1 h2 _
  exact h v' w' (OwnB.cast h1 (by simp [hzl]) (by simp)) h2
 rcases hb.at_ with h0 | ⟨b, off, hy, hc⟩
 · have hz0' : z = [] := List.length_eq_zero_iff.1 (by omega)
   cases y with
   | none =>
    have hc0 := hb.nil rfl
    subst h0 hc0 hz0'
    refine wpList_append_own_none hgd s x 74 ho base 5 i0 1 Tryz.underlying74 hi v zs.length (zs.map (Value.int .u8)) hs hown hx ?_
    exact h v w (by rw [List.append_nil]; exact hown) ⟨rfl, rfl, rfl, Nat.le_refl _, fun _ _ _ => rfl⟩
   | some ad => exact hcase ad rfl (fun j u hu => by subst hz0'; simp at hu)
 · exact hcase _ hy (fun j u hu => by
    have hj : j < len := by have := (List.getElem?_eq_some_iff.1 hu).1; simpa [hzl] using this
    rw [Addr.add_mid', hc j hj, ← hu, List.getElem?_map, List.getElem?_eq_getElem (by omega)]; rfl)
theorem wpList_app1 {w : World} {ops : Array Oper} {rest : List Oper} {o : Oper} {a : Act} {Q : Exit → Act → World → Prop} (hgd : o.guard = none) (s x : Operand)
    (ho : o.op = .call { callee := .builtin .append, args := #[s, x], argTypes := #[74, 74] }) (base : Nat) (v : Value) (zs : List Int) (hs : a.eval s = v) (c : Int) (hown : OwnB (w.alloc (.cells #[.int .u8 c] 5)) base v zs)
    (hx : a.eval x = .slice (some ⟨w.heap.size, 0, none⟩) 1 1) (hln : zs.length ≤ 4000000) (hbase : base ≤ w.heap.size)
    (h : ∀ v' w', OwnB w' base v' (zs ++ [c]) → (w.alloc (.cells #[.int .u8 c] 5)).grownBy w' v.ownBlock → wpList Tryz.prog ops Q rest (a.put o.dst v') w') : wpList Tryz.prog ops Q (o :: rest) a (w.alloc (.cells #[.int .u8 c] 5)) := by
 obtain ⟨i0, hi, hz0, hz1, hz2⟩ := info_parts infoU8
 refine wpList_append_own (w.alloc (.cells #[.int .u8 c] 5)) hgd s x 74 ho base 5 i0 (.int .u8 0) 1 1 Tryz.underlying74 hi hz0 hz1 hz2 rfl (by decide) v zs.length (zs.map (Value.int .u8)) hs hown ⟨w.heap.size, 0, none⟩ 1 1 [.int .u8 c] hx rfl (cell_one_new _ _ _) (by simp [Value.oneCell']) (by simp [maxLen]; omega) (by omega) (by simp; omega) ?_
 intro v' w' h1 h2 _
 exact h v' w' (OwnB.cast h1 (by simp) (by simp)) h2
theorem OwnB.nil (w : World) (base : Nat) : OwnB w base (.slice none 0 0) [] := World.ownsRow_nil w base 5 1
theorem OwnB.alloc {w : World} {base : Nat} {v : Value} {z : List Int} (h : OwnB w base v z) (o : Obj) : OwnB (w.alloc o) base v z := World.ownsRow.alloc h o
theorem OwnB.slice {w : World} {base : Nat} {v : Value} {z : List Int} (h : OwnB w base v z) (hz : 0 < z.length) : ∃ g cap, v = .slice (some ⟨g, 0, none⟩) z.length cap ∧ base ≤ g := by
 rcases h.2 with ⟨_, h0⟩ | ⟨g, cap, cur, rfl, hb, _⟩
 · omega
 · exact ⟨g, cap, rfl, hb⟩
theorem below_grown {base : Nat} {w0 w w' : World} {v : Value} {z : List Int} (hb : Below base w0 w) (hown : OwnB w base v z) (hg : w.grownBy w' v.ownBlock) (hbase : base ≤ w.heap.size) : Below base w0 w' :=
 hb.grown hg hbase (fun k hk => by
  rcases hown.2 with ⟨rfl, _⟩ | ⟨g, cap, cur, rfl, hb, _⟩
  · cases hk
  · simp [Value.ownBlock] at hk; omega)
theorem Holds.bytes {w : World} {g : Nat} {t : TypeId} {l : List Int} {n : Nat} (h : Holds w g .u8 t l) (hn : n = l.length) (hl : l.length ≤ 4000000) : Bytes w (some ⟨g, 0, none⟩) n n l := by
 subst hn
 exact ⟨rfl, Nat.le_refl _, by omega, (fun h => by cases h), .inr ⟨g, 0, rfl, fun j hj => by rw [Nat.zero_add]; exact h.cell j hj⟩⟩
theorem OwnB.bytes {w : World} {base : Nat} {x : Option Addr} {n cap : Nat} {z : List Int} (h : OwnB w base (.slice x n cap) z) : n = z.length ∧ Bytes w x n cap z := by
 rcases h.2 with ⟨h1, h0⟩ | ⟨g, cap', cur, h1, _, hg, hc, hm, hs, ht⟩
 · have hz : z = [] := List.length_eq_zero_iff.1 h0
   cases h1
   subst hz
   exact ⟨rfl, bytes_nil w⟩
 · cases h1
   refine ⟨rfl, rfl, hc, by simpa [maxLen] using hm, (fun h => by cases h), .inr ⟨g, 0, rfl, fun j hj => ?_⟩⟩
   rw [Nat.zero_add, cell_of_row w g j _ _ _ hg, ← Array.getElem?_toList]
   have e : (cur.toList.take (z.length * 1))[j]? = (z.map (Value.int .u8))[j]? := by rw [ht]
   rw [Nat.mul_one, List.getElem?_take_of_lt hj, List.getElem?_map, List.getElem?_eq_getElem hj] at e
   rw [e, List.getElem?_eq_getElem hj]; rfl
theorem OwnB.isSlice {w : World} {base : Nat} {v : Value} {z : List Int} (h : OwnB w base v z) : ∃ x n c, v = .slice x n c ∧ n = z.length := by
 rcases h.2 with ⟨rfl, h0⟩ | ⟨g, cap, cur, rfl, _⟩
 · exact ⟨none, 0, 0, rfl, h0.symm⟩
 · exact ⟨_, _, _, rfl, rfl⟩
theorem conv_bytes {w : World} {x : Option Addr} {len cap : Nat} {z : List Int} (h : Bytes w x len cap z) : (convert 74 9 (.slice x len cap)).run Tryz.prog w = .ok (.string (strOfNums z)) w := by
 rw [run_convert_bytes_string w 74 9 5 x len cap Tryz.underlying74 Tryz.underlying5 Tryz.underlying9]
 have hz := h.len_eq
 have hcase : ∀ a : Addr, x = some a → (∀ j u, (z.map (Value.int .u8))[j]? = some u → w.cell? (a.add j) = some u) → (Conv.bytesToString (.slice x len cap)).run Tryz.prog w = .ok (.string (strOfNums z)) w := fun a hx hsrc => by
  subst hx
  have hl := run_loadCells_list (P := Tryz.prog) w a (z.map (Value.int .u8)) hsrc
  rw [List.length_map, ← hz] at hl
  rw [run_bytesToString w a len cap z hl, foldl_push_bytes]
  simp [strOfNums]
 rcases h.at_ with h0 | ⟨b, off, hx, hc⟩
 · have hz0 : z = [] := List.length_eq_zero_iff.1 (by omega)
   cases x with
   | none =>
    subst hz0 h0
    simp only [Conv.bytesToString, Sem.run_pure]; rfl
   | some a => exact hcase a rfl (fun j u hu => by subst hz0; simp at hu)
 · exact hcase _ hx (fun j u hu => by
    have hj : j < len := by have := (List.getElem?_eq_some_iff.1 hu).1; simpa [hz] using this
    rw [Addr.add_mid', hc j hj, ← hu, List.getElem?_map, List.getElem?_eq_getElem (by omega)]; rfl)
theorem Bytes.drewN {w : World} {x : Option Addr} {len cap : Nat} {z : List Int} (h : Bytes w x len cap z) (n : Nat) : Bytes (w.drewN n) x len cap z := h.below (below_drewN (Below.refl _ _) n)
end Go.Proofs.YtflkhkmejnpapaaGreatDoor
