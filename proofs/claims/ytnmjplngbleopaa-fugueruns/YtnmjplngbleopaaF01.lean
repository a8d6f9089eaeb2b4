/- Gk Ev0 Mp -/
import Derived.Test.YtnmjplngbleopaaProg
import Derived.Laws.Entries
import Derived.WalkKit
import Derived.WalkSpells
import Derived.WalkLawsBesides
import Derived.Deep.QuietTactic
import Derived.BigQuiet
import Derived.Laws.Rows
import Derived.Laws.CopyRow
import Derived.Laws.CopyOwn
import Derived.Deep.WholeRow
import Derived.ChangeKeysEq
import Derived.Deep.RegionHeld3
import Derived.Deep.DeepCutAuto
import Derived.Deep.MidRow
import Derived.Maps.OwnSet
import Derived.DeepKeys3
namespace Go.Proofs.Ytnmjplngbleopaa
open Go Go.RowKit
structure Veil (p : Prop) : Prop where
  out : p
def row (k : IntKind) (l : List Int) : Array Value := (l.map (Value.int k)).toArray
theorem row_get? (k : IntKind) (l : List Int) (i : Nat) : (row k l)[i]? = l[i]?.map (Value.int k) := by simp [row]
theorem row_get (k : IntKind) (l : List Int) (i : Nat) (h : i < l.length) : (row k l)[i]? = some (Value.int k (l[i]?.getD 0)) := by
  rw [row_get?, List.getElem?_eq_getElem h]; rfl
theorem row_set (k : IntKind) (l : List Int) (i : Nat) (v : Int) : (row k l).setIfInBounds i (Value.int k v) = row k (l.set i v) := by
  simp [row, List.map_set]
def Holds (w : World) (g : Nat) (k : IntKind) (t : TypeId) (l : List Int) : Prop := w.heap[g]? = some (.cells (row k l) t (0, 0))
theorem Holds.lt {w : World} {g : Nat} {k : IntKind} {t : TypeId} {l : List Int} (h : Holds w g k t l) : g < w.heap.size := by
  unfold Holds at h
  exact (Array.getElem?_eq_some_iff.1 h).1
theorem Holds.cell {w : World} {g : Nat} {k : IntKind} {t : TypeId} {l : List Int} (h : Holds w g k t l) (j : Nat) (hj : j < l.length) : w.cell? ⟨g, j, none⟩ = some (.int k (l[j]?.getD 0)) := by
  rw [cell_of_row w g j _ t _ h, row_get k l j hj]
theorem Holds.frozen {w : World} {g : Nat} {k : IntKind} {t : TypeId} {l : List Int} (h : Holds w g k t l) (j : Nat) : w.frozen? ⟨g, j, none⟩ = false := frozen_of_row w g j _ t h
theorem Holds.drew {w : World} {g : Nat} {k : IntKind} {t : TypeId} {l : List Int} (h : Holds w g k t l) : Holds w.drew g k t l := by
  unfold Holds at h ⊢; rw [heap_drew]; exact h
theorem Holds.alloc {w : World} {g : Nat} {k : IntKind} {t : TypeId} {l : List Int} (h : Holds w g k t l) (o : Obj) : Holds (w.alloc o) g k t l := by
  have hl := h.lt
  unfold Holds at h ⊢; rw [Below.heap_alloc w o g hl]; exact h
theorem Holds.below {w w' : World} {B g : Nat} {k : IntKind} {t : TypeId} {l : List Int} (h : Holds w g k t l) (hb : Below B w w') (hg : g < B) : Holds w' g k t l := by
  unfold Holds at h ⊢; rw [hb.block g hg]; exact h
theorem Holds.set {w : World} {g : Nat} {k : IntKind} {t : TypeId} {l : List Int} (h : Holds w g k t l) (j : Nat) (v : Int) : Holds (w.setCell ⟨g, j, none⟩ (.int k v)) g k t (l.set j v) := by
  unfold Holds at h ⊢
  rw [heap_setCell_same w g j _ t _ h, row_set]
theorem Holds.new (w : World) (k : IntKind) (t : TypeId) (l : List Int) : Holds (w.alloc (.cells (row k l) t)) w.heap.size k t l := heap_alloc_new w _
theorem Holds.setRow {w : World} {g : Nat} {k : IntKind} {t : TypeId} {l : List Int} (h : Holds w g k t l) (l' : List Int) : Holds (w.setRow g (row k l')) g k t l' := by
  unfold Holds at h ⊢; exact setRow_heap w g _ _ t _ h
theorem forget {p : World → Prop} {W : World} (I : World → Prop) (hI : I W) (h : ∀ W0, I W0 → p W0) : p W := h W hI
section
variable {P : Program}
end
open Go.RowKit
set_option maxRecDepth 20000
set_option linter.unusedSimpArgs false
theorem wpList_ldv {P : Program} {ops : Array Oper} {rest : List Oper} {o : Oper} {a : Act} {w : World} {Q : Exit → Act → World → Prop} {d : TypeDesc} (hgd : o.guard = none) (ty : TypeId) (x : Operand) (ho : o.op = .load ty x)
    (g off : Nat) (hx : a.eval x = .pointer (some ⟨g, off, none⟩)) (cs : List Value) (hg : w.rangeAt g off cs)
    (hu : P.underlying ty = some d) (hd : d.isRow = true) (hi : (P.info? ty).map (·.size) = some cs.length)
    (h : wpList P ops Q rest (a.put o.dst (.agg cs.toArray)) w) : wpList P ops Q (o :: rest) a w :=
  wpList_plain hgd fun _ hK => wp_load_mid ty x ho g off hx cs _ hg hu hd hi (hK _ _ h)
def CellsAt (w : World) (g : Nat) (t : TypeId) (cs : List Value) : Prop := w.heap[g]? = some (.cells cs.toArray t (0, 0))
theorem CellsAt.new (w : World) (t : TypeId) (cs : List Value) : CellsAt (w.alloc (.cells cs.toArray t)) w.heap.size t cs := heap_alloc_new w _
theorem CellsAt.lt {w : World} {g : Nat} {t : TypeId} {cs : List Value} (h : CellsAt w g t cs) : g < w.heap.size := (Array.getElem?_eq_some_iff.1 h).1
theorem CellsAt.cell {w : World} {g : Nat} {t : TypeId} {cs : List Value} (h : CellsAt w g t cs) (j : Nat) : w.cell? ⟨g, j, none⟩ = cs[j]? := by
  rw [cell_of_row w g j _ _ _ h]; simp
theorem CellsAt.alloc {w : World} {g : Nat} {t : TypeId} {cs : List Value} (h : CellsAt w g t cs) (o : Obj) : CellsAt (w.alloc o) g t cs := by
  have hl := h.lt
  unfold CellsAt at h ⊢; rw [Below.heap_alloc w o g hl]; exact h
theorem CellsAt.range {w : World} {g : Nat} {t : TypeId} {cs : List Value} (h : CellsAt w g t cs) (o n : Nat) : w.rangeAt g o ((cs.drop o).take n) := fun j v hv => by
  rw [h.cell]
  rw [List.getElem?_take] at hv
  split at hv
  · rw [List.getElem?_drop] at hv; exact hv
  · simp at hv
theorem CellsAt.frozen {w : World} {g : Nat} {t : TypeId} {cs : List Value} (h : CellsAt w g t cs) (j : Nat) : w.frozen? ⟨g, j, none⟩ = false := frozen_of_row w g j _ t h
theorem CellsAt.set {w : World} {g : Nat} {t : TypeId} {cs : List Value} (h : CellsAt w g t cs) (j : Nat) (v : Value) : CellsAt (w.setCell ⟨g, j, none⟩ v) g t (cs.set j v) := by
  unfold CellsAt at h ⊢
  simp only [World.setCell, Array.getElem?_modify, h]
  simp
theorem CellsAt.congr {w w' : World} {g : Nat} {t : TypeId} {cs : List Value} (h : CellsAt w g t cs) (he : w'.heap[g]? = w.heap[g]?) : CellsAt w' g t cs := he.trans h
def dotC (a s : Int) : List Value := [.int .u8 a, .int .u32 s]
structure Ev where
  da : Int
  ds : Int
  past : List Int
  kind : Int
  pa : Int
  ps : Int
  right : Bool
  char : Int
  who : Int
  role : Int
def Ev.cells (e : Ev) : List Value := dotC e.da e.ds ++ e.past.map (Value.int .u32) ++ ([.int .u8 e.kind] ++ dotC e.pa e.ps ++ [.bool e.right, .int .u8 e.char, .int .u8 e.who, .int .u8 e.role])
theorem sizeDot : (Try.prog.info? 32).map (·.size) = some 2 := by kernel_rfl
theorem run_storeVar_cells {P : Program} (w : World) (g : Nat) (ty t : TypeId) (old cs : List Value) (hg : CellsAt w g t old) (hl : old.length = cs.length) (hi : (P.info? ty).map (·.size) = some cs.length) (h1 : ∀ v ∈ cs, v.oneCell' = true) :
    (storeVar ty ⟨g, 0, none⟩ (.agg cs.toArray)).run P w = .ok () (w.setRow g cs.toArray) := by
  have hst := run_storeCells_at P g 0 t cs 0 old.toArray w hg (by simp [hl]) h1
  cases hq : P.info? ty with
  | none => simp [hq] at hi
  | some i =>
    have hs : i.size = cs.length := by simpa [hq] using hi
    have hsz : cs.toArray.size = i.size := by simp [hs]
    have he : (List.take (0 + 0) old.toArray.toList ++ cs ++ List.drop (0 + 0 + cs.length) old.toArray.toList).toArray = cs.toArray := by
      simp [← hl]
    rw [he] at hst
    simp [storeVar, sizeOf, typeInfo, hq, Value.cells, hs, hst]
theorem wpList_stv {P : Program} {ops : Array Oper} {rest : List Oper} {o : Oper} {a : Act} {w : World} {Q : Exit → Act → World → Prop} (hgd : o.guard = none) (ty : TypeId) (x y : Operand) (ho : o.op = .store ty x y)
    (g : Nat) (hx : a.eval x = .pointer (some ⟨g, 0, none⟩)) {t : TypeId} {old cs : List Value} (hy : a.eval y = .agg cs.toArray) (hg : CellsAt w g t old)
    (hi : (P.info? ty).map (·.size) = some cs.length) (hl : old.length = cs.length) (h1 : ∀ v ∈ cs, v.oneCell' = true)
    (h : wpList P ops Q rest (a.put o.dst undef) (w.setRow g cs.toArray)) : wpList P ops Q (o :: rest) a w :=
  wpList_plain hgd fun _ hK => by
    unfold Oper.wp execOp
    simp only [ho, hx, hy, Instr.storeAt, Instr.sureAddr, Sem.run_bind, Sem.run_pure, Result.andThen_ok, run_storeVar_cells w g ty t old cs hg hl hi h1]
    exact hK _ _ h
theorem CellsAt.setRow {w : World} {g : Nat} {t : TypeId} {cs : List Value} (h : CellsAt w g t cs) (cs' : List Value) : CellsAt (w.setRow g cs'.toArray) g t cs' := by
  unfold CellsAt at h ⊢; exact setRow_heap w g _ _ t _ h
structure Wp where
  too : Int
  ea : Int
  es : Int
  data : List Int
def Wp.cells (e : Wp) : List Value := [.int .u8 e.too] ++ dotC e.ea e.es ++ e.data.map (Value.int .u8)
def rawElem (v : Value) : Option (DataW Value × List MemPlace) := some (.held v, [])
theorem dotKeyed : Go.Maps.Keyed Try.prog 32 := Go.Maps.Keyed.of_law (deep_law (m := 3) (by omega) (by kernel_rfl) (by kernel_rfl) (by kernel_rfl))
def dotLit (a s : Int) : Lit := .string (keyBytes [.int .u8 a, .int .u32 s])
def okD (a s : Int) : Prop := (0 ≤ a ∧ a ≤ 255) ∧ 0 ≤ s ∧ s ≤ 4294967295
theorem u8_wf {a : Int} (h1 : 0 ≤ a) (h2 : a ≤ 255) : (Lit.int .u8 a).wf = true := by
  show (decide ((0 : Int) ≤ a) && decide (a ≤ 255)) = true
  simp; omega
theorem u32_wf {a : Int} (h1 : 0 ≤ a) (h2 : a ≤ 4294967295) : (Lit.int .u32 a).wf = true := by
  show (decide ((0 : Int) ≤ a) && decide (a ≤ 4294967295)) = true
  simp; omega
theorem litsU8 (d : Nat) (a : Int) (h1 : 0 ≤ a) (h2 : a ≤ 255) : Try.prog.keyLits (d + 1) 5 [.int .u8 a] = some [.int .u8 a] := by
  unfold Program.keyLits; simp [Try.underlying5, u8_wf h1 h2]
theorem litsU32 (d : Nat) (a : Int) (h1 : 0 ≤ a) (h2 : a ≤ 4294967295) : Try.prog.keyLits (d + 1) 30 [.int .u32 a] = some [.int .u32 a] := by
  unfold Program.keyLits; simp [Try.underlying30, u32_wf h1 h2]
theorem cellsDot : Try.prog.cellsOf 32 = 2 ∧ Try.prog.cellsOf 5 = 1 ∧ Try.prog.cellsOf 30 = 1 := ⟨by kernel_rfl, by kernel_rfl, by kernel_rfl⟩
theorem litsDot (d : Nat) (a s : Int) (h : okD a s) : Try.prog.keyLits (d + 1 + 1) 32 (dotC a s) = some [.int .u8 a, .int .u32 s] := by
  obtain ⟨⟨h1, h2⟩, h3, h4⟩ := h
  obtain ⟨c1, c2, c3⟩ := cellsDot
  unfold Program.keyLits
  simp [Try.underlying32, dotC, c1, c2, c3, litsU8 d a h1 h2, litsU32 d s h3 h4]
theorem typesBig : ∃ m, Try.prog.types.size = m + 1 := by
  have h : Nat.ble 1 Try.prog.types.size = true := by kernel_rfl
  exact ⟨Try.prog.types.size - 1, by have := Nat.le_of_ble_eq_true h; omega⟩
theorem dotKey (a s : Int) (h : okD a s) : keyOf Try.prog 32 (.agg (dotC a s).toArray) = some (dotLit a s) := by
  obtain ⟨m, hm⟩ := typesBig
  have hk : Try.prog.keyType 32 = true := by kernel_rfl
  have hf : Value.formed Try.prog 32 (.agg (dotC a s).toArray) = true := by
    simp [Value.formed, Try.underlying32, cellsDot.1, dotC]
  unfold keyOf
  rw [Try.underlying32, hm]
  simp only [hk, hf, Bool.and_self, if_true, Value.cells]
  rw [litsDot m a s h]
  rfl
theorem dotLit_inj {a s a' s' : Int} (h : okD a s) (h' : okD a' s') (e : dotLit a s = dotLit a' s') : a = a' ∧ s = s' := by
  unfold dotLit at e
  injection e with e
  have := keyLits_inj (litsDot 0 a s h) (litsDot 0 a' s' h') e
  simpa using this
def MapAt (w : World) (b n : Nat) (M : Int → Int → Option Value) : Prop :=
  ∃ D : DataW Value, w.ownsMap Try.prog 32 rawElem b n D ∧ ∀ a s, okD a s → ∀ z, D.atKey (dotLit a s) z = (match M a s with | some v => .held v | none => z)
def putM (M : Int → Int → Option Value) (a s : Int) (v : Value) : Int → Int → Option Value := fun a' s' => if a' = a ∧ s' = s then some v else M a' s'
def delM (M : Int → Int → Option Value) (a s : Int) : Int → Int → Option Value := fun a' s' => if a' = a ∧ s' = s then none else M a' s'
theorem MapAt.made (w : World) : MapAt (w.alloc (.map #[] 0)) w.heap.size 0 (fun _ _ => none) := ⟨_, World.ownsMap_made w _ _ _, fun _ _ _ _ => rfl⟩
theorem MapAt.lt {w : World} {b n : Nat} {M : Int → Int → Option Value} (h : MapAt w b n M) : b < w.heap.size := by obtain ⟨D, h, _⟩ := h; exact h.lt
theorem MapAt.congr {w w' : World} {b n : Nat} {M : Int → Int → Option Value} (h : MapAt w b n M) (he : w'.heap[b]? = w.heap[b]?) : MapAt w' b n M := by
  obtain ⟨D, ⟨es, cl, hb, r⟩, hM⟩ := h
  exact ⟨D, ⟨es, cl, he.trans hb, r⟩, hM⟩
theorem MapAt.alloc {w : World} {b n : Nat} {M : Int → Int → Option Value} (h : MapAt w b n M) (o : Obj) : MapAt (w.alloc o) b n M := h.congr (Below.heap_alloc w o b h.lt)
theorem MapAt.below {w w' : World} {b n B : Nat} {M : Int → Int → Option Value} (h : MapAt w b n M) (hb : Below B w w') (hl : b < B) : MapAt w' b n M := h.congr (hb.block b hl)
theorem MapAt.far {w w' : World} {b n : Nat} {M : Int → Int → Option Value} (h : MapAt w b n M) (hb : Below w.heap.size w w') : MapAt w' b n M := h.below hb h.lt
theorem MapAt.setCell {w : World} {b n : Nat} {M : Int → Int → Option Value} (h : MapAt w b n M) {a : Addr} (ha : b ≠ a.block) (u : Value) : MapAt (w.setCell a u) b n M := h.congr (Below.heap_setCell w a u b ha)
theorem MapAt.has {w : World} {b n : Nat} {M : Int → Int → Option Value} (h : MapAt w b n M) : ∃ D : DataW Value, w.ownsMap Try.prog 32 rawElem b n D ∧ ∀ a s, okD a s → Maps.has D (dotLit a s) = (M a s).isSome ∧ ∀ z, D.atKey (dotLit a s) z = (match M a s with | some v => .held v | none => z) := by
  obtain ⟨D, h, hM⟩ := h
  refine ⟨D, h, fun a s ho => ⟨?_, hM a s ho⟩⟩
  cases hv : M a s with
  | none => exact Maps.has_false_of_atKey fun z => by rw [hM a s ho, hv]
  | some v => exact Maps.has_true_of_atKey (y := .held v) fun z => by rw [hM a s ho, hv]
theorem MapAt.look {w : World} {b n : Nat} {M : Int → Int → Option Value} (h : MapAt w b n M) {t e : TypeId} (ht : Try.prog.underlying t = some (.map 32 e)) {z : Value} (hz : (zeroValue e).run Try.prog w = .ok z w) (a s : Int) (ho : okD a s) :
    (Instr.lookup t (.map (some b)) (.agg (dotC a s).toArray) true).run Try.prog w = .ok (.tuple #[(M a s).getD z, .bool (M a s).isSome]) w := by
  obtain ⟨D, hD, hM⟩ := h.has
  obtain ⟨h1, h2⟩ := hM a s ho
  obtain ⟨v, ps, hrun, hv⟩ := hD.look_ok dotKeyed ht hz (zd := .held z) (zp := []) rfl (dotKey a s ho)
  rw [hrun, h1]
  unfold rawElem at hv
  injection hv with hv
  injection hv with hv _
  rw [h2] at hv
  cases hm : M a s with
  | none => rw [hm] at hv; injection hv with hv; rw [hv]; rfl
  | some u => rw [hm] at hv; injection hv with hv; rw [hv]; rfl
theorem MapAt.get {w : World} {b n : Nat} {M : Int → Int → Option Value} (h : MapAt w b n M) {t e : TypeId} (ht : Try.prog.underlying t = some (.map 32 e)) {z : Value} (hz : (zeroValue e).run Try.prog w = .ok z w) (a s : Int) (ho : okD a s) :
    (Instr.lookup t (.map (some b)) (.agg (dotC a s).toArray) false).run Try.prog w = .ok ((M a s).getD z) w := by
  obtain ⟨D, hD, hM⟩ := h.has
  obtain ⟨h1, h2⟩ := hM a s ho
  obtain ⟨v, ps, hrun, hv⟩ := hD.lookup dotKeyed ht hz (zd := .held z) (zp := []) rfl (dotKey a s ho)
  rw [hrun]
  unfold rawElem at hv
  injection hv with hv
  injection hv with hv _
  rw [h2] at hv
  cases hm : M a s with
  | none => rw [hm] at hv; injection hv with hv; rw [hv]; rfl
  | some u => rw [hm] at hv; injection hv with hv; rw [hv]; rfl
theorem dotKeyLit (a s : Int) : Go.WideAt.IsKeyLit (dotLit a s) := by unfold dotLit; trivial
theorem MapAt.store {w : World} {b n : Nat} {M : Int → Int → Option Value} (h : MapAt w b n M) {t e : TypeId} (ht : Try.prog.underlying t = some (.map 32 e)) (hn : n < maxLen) (a s : Int) (ho : okD a s) (v : Value) :
    ∃ w', (Instr.mapUpdate t (.map (some b)) (.agg (dotC a s).toArray) v).run Try.prog w = .ok () w' ∧ MapAt w' b (n + 1) (putM M a s v) ∧ w.grownBy w' (some b) := by
  obtain ⟨D, hD, hM⟩ := h
  obtain ⟨w', hrun, hown, ht'⟩ := hD.store dotKeyed ht hn (dotKey a s ho) (d := .held v) (ps := []) rfl
  refine ⟨w', hrun, ⟨_, hown, fun a' s' ho' z => ?_⟩, ht'.grown⟩
  unfold putM
  by_cases e : a' = a ∧ s' = s
  · obtain ⟨rfl, rfl⟩ := e
    rw [if_pos ⟨rfl, rfl⟩, Maps.atKey_put_same hD.isMap (dotKeyLit _ _)]
  · rw [if_neg e, Maps.atKey_put_other (fun q => e (dotLit_inj ho' ho q)), hM a' s' ho']
theorem MapAt.drop {w : World} {b n : Nat} {M : Int → Int → Option Value} (h : MapAt w b n M) {t e : TypeId} (ht : Try.prog.underlying t = some (.map 32 e)) (ty : TypeId) (a s : Int) (ho : okD a s) :
    ∃ w', (Builtin.delete_ #[t, 32] ty #[.map (some b), .agg (dotC a s).toArray]).run Try.prog w = .ok (.tuple #[]) w' ∧ MapAt w' b n (delM M a s) ∧ w.grownBy w' (some b) := by
  obtain ⟨D, hD, hM⟩ := h
  obtain ⟨w', hrun, hown, ht'⟩ := hD.drop dotKeyed ht (dotKey a s ho) ty
  refine ⟨w', hrun, ⟨_, hown, fun a' s' ho' z => ?_⟩, ht'.grown⟩
  unfold delM
  by_cases e : a' = a ∧ s' = s
  · obtain ⟨rfl, rfl⟩ := e
    rw [if_pos ⟨rfl, rfl⟩, Maps.atKey_del_same]
  · rw [if_neg e, Maps.atKey_del_other (fun q => e (dotLit_inj ho' ho q)), hM a' s' ho']
end Go.Proofs.Ytnmjplngbleopaa
