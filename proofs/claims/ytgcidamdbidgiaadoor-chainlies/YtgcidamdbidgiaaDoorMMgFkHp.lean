/- Maps whose keys are whatever flat things, told by a function enc; elements are whatever values: made, looked up, stored into, deleted from, cloned. Two flat things compared. Flat things (numbers, arrays and structs of them) as keys, and compared: digests, heads, links, proofs, dots. chain: what the authors have told, as lists of digests: counted, looked at, added to, compared; nothing of memory. -/
import Derived.Test.YtgcidamdbidgiaaDoorMEv0Wr2Wr3Wr4Fd
import Derived.Maps.OwnSet
import Derived.DeepKeys3
import Derived.Laws.StructEq
namespace Go.Proofs.YtgcidamdbidgiaaDoor
open Go.RowKit
set_option maxRecDepth 20000
set_option linter.unusedSimpArgs false
set_option linter.unusedSectionVars false

/-- An element reads as itself. -/
def rawE (v : Value) : Option (DataW Value × List MemPlace) := some (.held v, [])
/-- Things x with ok x are keys of the type kt, as enc x, no two alike. -/
structure KeyEnc (P : Program) (kt : TypeId) {α : Type} (enc : α → Value) (ok : α → Prop) : Prop where
  keyed : Go.Maps.Keyed P kt
  has : ∀ x, ok x → ∃ l, keyOf P kt (enc x) = some l
  inj : ∀ x y, ok x → ok y → enc x = enc y → x = y
section
variable {P : Program} {kt : TypeId} {α : Type} [DecidableEq α] {enc : α → Value} {ok : α → Prop}
/-- Block b is a map of at most n entries that holds M x at x. -/
def MapG (P : Program) (kt : TypeId) (enc : α → Value) (ok : α → Prop) (w : World) (b n : Nat) (M : α → Option Value) : Prop :=
  ∃ D : DataW Value, w.ownsMap P kt rawE b n D ∧ ∀ x, ok x → ∀ l, keyOf P kt (enc x) = some l → ∀ z, D.atKey l z = (match M x with | some v => .held v | none => z)
def putG (M : α → Option Value) (x : α) (v : Value) : α → Option Value := fun y => if y = x then some v else M y
def delG (M : α → Option Value) (x : α) : α → Option Value := fun y => if y = x then none else M y
theorem MapG.made (w : World) : MapG P kt enc ok (w.alloc (.map #[] 0)) w.heap.size 0 (fun _ => none) := ⟨_, World.ownsMap_made w _ _ _, fun _ _ _ _ _ => rfl⟩
theorem MapG.lt {w : World} {b n : Nat} {M : α → Option Value} (h : MapG P kt enc ok w b n M) : b < w.heap.size := by obtain ⟨D, h, _⟩ := h; exact h.lt
theorem MapG.congr {w w' : World} {b n : Nat} {M : α → Option Value} (h : MapG P kt enc ok w b n M) (he : w'.heap[b]? = w.heap[b]?) : MapG P kt enc ok w' b n M := by
  obtain ⟨D, ⟨es, cl, hb, r⟩, hM⟩ := h
  exact ⟨D, ⟨es, cl, he.trans hb, r⟩, hM⟩
theorem MapG.cellsNe {w : World} {b n g : Nat} {M : α → Option Value} (h : MapG P kt enc ok w b n M) {t : TypeId} {cs : List Value} (hg : CellsAt w g t cs) : b ≠ g := by
  intro e
  subst e
  obtain ⟨D, ⟨es, cl, hb, _⟩, _⟩ := h
  unfold CellsAt at hg
  rw [hb] at hg
  cases hg
/-- 'v, ok := m[x]'. -/
theorem MapG.look (K : KeyEnc P kt enc ok) {w : World} {b n : Nat} {M : α → Option Value} (h : MapG P kt enc ok w b n M) {t e : TypeId} (ht : P.underlying t = some (.map kt e)) {z : Value} (hz : (zeroValue e).run P w = .ok z w) (x : α) (hx : ok x) :
    (Instr.lookup t (.map (some b)) (enc x) true).run P w = .ok (.tuple #[(M x).getD z, .bool (M x).isSome]) w := by
  obtain ⟨D, hD, hM⟩ := h
  obtain ⟨l, hl⟩ := K.has x hx
  have h2 := hM x hx l hl
  have h1 : Maps.has D l = (M x).isSome := by
    cases hv : M x with
    | none => exact Maps.has_false_of_atKey fun z => by rw [h2, hv]
    | some v => exact Maps.has_true_of_atKey (y := .held v) fun z => by rw [h2, hv]
  obtain ⟨v, ps, hrun, hv⟩ := hD.look_ok K.keyed ht hz (zd := .held z) (zp := []) rfl hl
  rw [hrun, h1]
  unfold rawE at hv
  injection hv with hv
  injection hv with hv _
  rw [h2] at hv
  cases hm : M x with
  | none => rw [hm] at hv; injection hv with hv; rw [hv]; rfl
  | some u => rw [hm] at hv; injection hv with hv; rw [hv]; rfl
/-- 'm[x]'. -/
theorem MapG.get (K : KeyEnc P kt enc ok) {w : World} {b n : Nat} {M : α → Option Value} (h : MapG P kt enc ok w b n M) {t e : TypeId} (ht : P.underlying t = some (.map kt e)) {z : Value} (hz : (zeroValue e).run P w = .ok z w) (x : α) (hx : ok x) :
    (Instr.lookup t (.map (some b)) (enc x) false).run P w = .ok ((M x).getD z) w := by
  obtain ⟨D, hD, hM⟩ := h
  obtain ⟨l, hl⟩ := K.has x hx
  have h2 := hM x hx l hl
  obtain ⟨v, ps, hrun, hv⟩ := hD.lookup K.keyed ht hz (zd := .held z) (zp := []) rfl hl
  rw [hrun]
  unfold rawE at hv
  injection hv with hv
  injection hv with hv _
  rw [h2] at hv
  cases hm : M x with
  | none => rw [hm] at hv; injection hv with hv; rw [hv]; rfl
  | some u => rw [hm] at hv; injection hv with hv; rw [hv]; rfl
theorem KeyEnc.lit_inj (K : KeyEnc P kt enc ok) {x y : α} (hx : ok x) (hy : ok y) {l : Lit} (h1 : keyOf P kt (enc x) = some l) (h2 : keyOf P kt (enc y) = some l) : x = y := K.inj x y hx hy (K.keyed.inj h1 h2)
/-- 'm[x] = v'. -/
theorem MapG.store (K : KeyEnc P kt enc ok) {w : World} {b n : Nat} {M : α → Option Value} (h : MapG P kt enc ok w b n M) {t e : TypeId} (ht : P.underlying t = some (.map kt e)) (hn : n < maxLen) (x : α) (hx : ok x) (v : Value) :
    ∃ w', (Instr.mapUpdate t (.map (some b)) (enc x) v).run P w = .ok () w' ∧ MapG P kt enc ok w' b (n + 1) (putG M x v) ∧ w.grownBy w' (some b) := by
  obtain ⟨D, hD, hM⟩ := h
  obtain ⟨l, hl⟩ := K.has x hx
  obtain ⟨w', hrun, hown, ht'⟩ := hD.store K.keyed ht hn hl (d := .held v) (ps := []) rfl
  refine ⟨w', hrun, ⟨_, hown, fun y hy ly hly z => ?_⟩, ht'.grown⟩
  unfold putG
  by_cases e : y = x
  · subst e
    obtain rfl : ly = l := by rw [hl] at hly; injection hly with h; exact h.symm
    rw [if_pos rfl, Maps.atKey_put_same hD.isMap (K.keyed.key hl)]
  · rw [if_neg e, Maps.atKey_put_other (fun q : ly = l => e (K.lit_inj hy hx hly (by rw [q]; exact hl))), hM y hy ly hly]
/-- 'delete(m, x)'. -/
theorem MapG.drop (K : KeyEnc P kt enc ok) {w : World} {b n : Nat} {M : α → Option Value} (h : MapG P kt enc ok w b n M) {t e : TypeId} (ht : P.underlying t = some (.map kt e)) (ty : TypeId) (x : α) (hx : ok x) :
    ∃ w', (Builtin.delete_ #[t, kt] ty #[.map (some b), enc x]).run P w = .ok (.tuple #[]) w' ∧ MapG P kt enc ok w' b n (delG M x) ∧ w.grownBy w' (some b) := by
  obtain ⟨D, hD, hM⟩ := h
  obtain ⟨l, hl⟩ := K.has x hx
  obtain ⟨w', hrun, hown, ht'⟩ := hD.drop K.keyed ht hl ty
  refine ⟨w', hrun, ⟨_, hown, fun y hy ly hly z => ?_⟩, ht'.grown⟩
  unfold delG
  by_cases e : y = x
  · subst e
    obtain rfl : ly = l := by rw [hl] at hly; injection hly with h; exact h.symm
    rw [if_pos rfl, Maps.atKey_del_same]
  · rw [if_neg e, Maps.atKey_del_other (fun q : ly = l => e (K.lit_inj hy hx hly (by rw [q]; exact hl))), hM y hy ly hly]
end
theorem u8_wfG {a : Int} (h1 : 0 ≤ a) (h2 : a ≤ 255) : (Lit.int .u8 a).wf = true := by
  show (decide ((0 : Int) ≤ a) && decide (a ≤ 255)) = true
  simp; omega
theorem u32_wfG {a : Int} (h1 : 0 ≤ a) (h2 : a ≤ 4294967295) : (Lit.int .u32 a).wf = true := by
  show (decide ((0 : Int) ≤ a) && decide (a ≤ 4294967295)) = true
  simp; omega
/-- Bytes. -/
def isB8 (l : List Int) : Prop := ∀ v ∈ l, 0 ≤ v ∧ v ≤ 255
section
variable {P : Program}
theorem litsU8G {t : TypeId} (hu : P.underlying t = some (.int .u8)) (d : Nat) (a : Int) (h1 : 0 ≤ a) (h2 : a ≤ 255) : P.keyLits (d + 1) t [.int .u8 a] = some [.int .u8 a] := by
  unfold Program.keyLits; simp [hu, u8_wfG h1 h2]
theorem litsU32G {t : TypeId} (hu : P.underlying t = some (.int .u32)) (d : Nat) (a : Int) (h1 : 0 ≤ a) (h2 : a ≤ 4294967295) : P.keyLits (d + 1) t [.int .u32 a] = some [.int .u32 a] := by
  unfold Program.keyLits; simp [hu, u32_wfG h1 h2]
end
end Go.Proofs.YtgcidamdbidgiaaDoor

namespace Go.Proofs.YtgcidamdbidgiaaDoor
open Go.RowKit
set_option maxRecDepth 20000
set_option linter.unusedSimpArgs false
set_option linter.unusedSectionVars false

/-- The cells are those of a flat thing of type t. -/
def Flat (P : Program) (d : Nat) (t : TypeId) (cs : List Value) : Prop := ∃ L, P.keyLits d t cs = some L
theorem mapM_some {α β : Type} (f : α → Option β) : ∀ l : List α, (∀ x ∈ l, ∃ y, f x = some y) → ∃ ys, l.mapM f = some ys
  | [], _ => ⟨[], by simp⟩
  | x :: l, h => by
    obtain ⟨y, hy⟩ := h x (by simp)
    obtain ⟨ys, hys⟩ := mapM_some f l (fun z hz => h z (by simp [hz]))
    exact ⟨y :: ys, by simp [List.mapM_cons, hy, hys]⟩
section
variable {P : Program} {d : Nat} {t : TypeId}
theorem flat_u8 (hu : P.underlying t = some (.int .u8)) (a : Int) (h1 : 0 ≤ a) (h2 : a ≤ 255) : Flat P (d + 1) t [.int .u8 a] := ⟨_, litsU8G hu d a h1 h2⟩
theorem flat_u32 (hu : P.underlying t = some (.int .u32)) (a : Int) (h1 : 0 ≤ a) (h2 : a ≤ 4294967295) : Flat P (d + 1) t [.int .u32 a] := ⟨_, litsU32G hu d a h1 h2⟩
theorem flat_bool (hu : P.underlying t = some .bool) (b : Bool) : Flat P (d + 1) t [.bool b] := ⟨[.bool b], by unfold Program.keyLits; simp [hu]⟩
theorem flat_arr {n c : Nat} {e : TypeId} {cs : List Value} (hu : P.underlying t = some (.array n e)) (hc : P.cellsOf e = c) (hl : cs.length = P.cellsOf t) (h : ∀ i, i < n → Flat P d e ((cs.drop (i * c)).take c)) : Flat P (d + 1) t cs := by
  obtain ⟨ys, hys⟩ := mapM_some (fun i => P.keyLits d e ((cs.drop (i * P.cellsOf e)).take (P.cellsOf e))) (List.range n) (fun i hi => by
    rw [hc]; exact h i (List.mem_range.1 hi))
  refine ⟨ys.flatten, ?_⟩
  unfold Program.keyLits
  simp only [hu, hl, if_true, hys, Option.map_some]
theorem flat_row {n : Nat} {e : TypeId} {l : List Int} (hu : P.underlying t = some (.array n e)) (hue : P.underlying e = some (.int .u8)) (hc : P.cellsOf e = 1) (ht : P.cellsOf t = n) (hl : l.length = n) (hb : isB8 l) : Flat P (d + 1 + 1) t (l.map (Value.int .u8)) :=
  flat_arr hu hc (by rw [List.length_map, hl, ht]) fun i hi => by
    have h1 : i < l.length := by omega
    have := hb _ (List.getElem_mem h1)
    rw [Nat.mul_one, ← List.map_drop, ← List.map_take, List.drop_eq_getElem_cons h1]
    exact flat_u8 hue _ this.1 this.2
theorem flat_row32 {n : Nat} {e : TypeId} {l : List Int} (hu : P.underlying t = some (.array n e)) (hue : P.underlying e = some (.int .u32)) (hc : P.cellsOf e = 1) (ht : P.cellsOf t = n) (hl : l.length = n) (hb : ∀ v ∈ l, 0 ≤ v ∧ v ≤ 4294967295) : Flat P (d + 1 + 1) t (l.map (Value.int .u32)) :=
  flat_arr hu hc (by rw [List.length_map, hl, ht]) fun i hi => by
    have h1 : i < l.length := by omega
    have := hb _ (List.getElem_mem h1)
    rw [Nat.mul_one, ← List.map_drop, ← List.map_take, List.drop_eq_getElem_cons h1]
    exact flat_u32 hue _ this.1 this.2
theorem flat_struct {fs : Array Field} {cs : List Value} {tl : List (TypeId × Nat × Nat)} (hu : P.underlying t = some (.struct fs)) (hn : fs.all (·.name != "_") = true) (hl : cs.length = P.cellsOf t)
    (hm : fs.toList.map (fun f => (f.type, f.offset, P.cellsOf f.type)) = tl) (h : ∀ p ∈ tl, Flat P d p.1 ((cs.drop p.2.1).take p.2.2)) : Flat P (d + 1) t cs := by
  obtain ⟨ys, hys⟩ := mapM_some (fun f : Field => P.keyLits d f.type ((cs.drop f.offset).take (P.cellsOf f.type))) fs.toList (fun f hf => h (f.type, f.offset, P.cellsOf f.type) (by rw [← hm]; exact List.mem_map_of_mem hf))
  refine ⟨ys.flatten, ?_⟩
  unfold Program.keyLits
  simp only [hu, hl, hn, and_self, if_true, hys, Option.map_some]
theorem key_of_flat {cs : List Value} (hwide : (match P.underlying t with | some (.array _ _) | some (.struct _) => true | _ => false) = true) (hk : P.keyType t = true) (hl : cs.length = P.cellsOf t) (h : Flat P (P.types.size + 1) t cs) : ∃ l, keyOf P t (.agg cs.toArray) = some l := by
  obtain ⟨L, hL⟩ := h
  have hf : Value.formed P t (.agg cs.toArray) = true := by
    unfold Value.formed
    cases hu : P.underlying t with
    | none => simp [hu] at hwide
    | some q => cases q <;> simp_all
  refine ⟨.string (keyBytes L), ?_⟩
  unfold keyOf
  cases hu : P.underlying t with
  | none => simp [hu] at hwide
  | some q => cases q <;> simp_all [Value.cells]
end
section
variable {P : Program} {kt : TypeId} {α : Type} [DecidableEq α] {enc : α → Value} {ok : α → Prop}
/-- Two flat things compared. -/
theorem KeyEnc.equal (K : KeyEnc P kt enc ok) {m : Nat} (hm : m ≤ 10000) (hk : P.keyTypeAt m kt = true) (hwide : (match P.underlying kt with | some (.array _ _) | some (.struct _) => true | _ => false) = true) (x y : α) (hx : ok x) (hy : ok y) (w : World) :
    (Op.equal kt (enc x) (enc y)).run P w = .ok (decide (x = y)) w := by
  obtain ⟨lx, h1⟩ := K.has x hx
  obtain ⟨ly, h2⟩ := K.has y hy
  obtain ⟨r, hr, hi⟩ := run_equal_deep w hm hk hwide h1 h2
  rw [hr]
  have : r = decide (x = y) := by
    rw [Bool.eq_iff_iff, hi, decide_eq_true_iff]
    constructor
    · intro e; subst e; exact K.lit_inj hx hy h1 h2
    · intro e; subst e; rw [h1] at h2; injection h2
  rw [this]
theorem KeyEnc.eql (K : KeyEnc P kt enc ok) {cx cy : Array Value} {m : Nat} (hm : m ≤ 10000) (hk : P.keyTypeAt m kt = true) (hwide : (match P.underlying kt with | some (.array _ _) | some (.struct _) => true | _ => false) = true) (x y : α) (hx : ok x) (hy : ok y) (ex : enc x = .agg cx) (ey : enc y = .agg cy) (w : World) :
    (binOp .eql kt (.agg cx) (.agg cy)).run P w = .ok (.bool (decide (x = y))) w := by
  have h := K.equal hm hk hwide x y hx hy w
  rw [ex, ey] at h
  rw [run_eql_struct, show Op.equalIn 10000 kt (.agg cx) (.agg cy) = Op.equal kt (.agg cx) (.agg cy) from rfl, h]; rfl
theorem KeyEnc.neq (K : KeyEnc P kt enc ok) {cx cy : Array Value} {m : Nat} (hm : m ≤ 10000) (hk : P.keyTypeAt m kt = true) (hwide : (match P.underlying kt with | some (.array _ _) | some (.struct _) => true | _ => false) = true) (x y : α) (hx : ok x) (hy : ok y) (ex : enc x = .agg cx) (ey : enc y = .agg cy) (w : World) :
    (binOp .neq kt (.agg cx) (.agg cy)).run P w = .ok (.bool (!decide (x = y))) w := by
  have h := K.equal hm hk hwide x y hx hy w
  rw [ex, ey] at h
  rw [run_neq_struct, show Op.equalIn 10000 kt (.agg cx) (.agg cy) = Op.equal kt (.agg cx) (.agg cy) from rfl, h]; rfl
end
theorem manyTypes : ∃ m, Tryd.prog.types.size + 1 = m + 1 + 1 + 1 + 1 + 1 + 1 := by
  have h : Nat.ble 6 Tryd.prog.types.size = true := by kernel_rfl
  exact ⟨Tryd.prog.types.size - 5, by have := Nat.le_of_ble_eq_true h; omega⟩
theorem row_inj {k : IntKind} {l m : List Int} (h : row k l = row k m) : l = m := by
  have h' : l.map (Value.int k) = m.map (Value.int k) := by simpa [row] using h
  exact (List.map_inj_right (fun x y e => by injection e)).1 h'
theorem mapI_inj {k : IntKind} {l m : List Int} (h : l.map (Value.int k) = m.map (Value.int k)) : l = m := (List.map_inj_right (fun x y e => by injection e)).1 h
/-- A digest, a key. -/
def okK (k : List Int) : Prop := k.length = 32 ∧ isB8 k
def encK (k : List Int) : Value := .agg (row .u8 k)
theorem flatKey (d : Nat) (k : List Int) (h : okK k) : Flat Tryd.prog (d + 1 + 1) 34 (k.map (Value.int .u8)) := flat_row Tryd.underlying34 Tryd.underlying5 (by kernel_rfl) (by kernel_rfl) h.1 h.2
theorem keyEncK : KeyEnc Tryd.prog 34 encK okK where
  keyed := Go.Maps.Keyed.of_law (deep_law (m := 3) (by omega) (by kernel_rfl) (by kernel_rfl) (by kernel_rfl))
  has := fun k h => by
    obtain ⟨m, hm⟩ := manyTypes
    exact key_of_flat (by kernel_rfl) (by kernel_rfl) (by rw [List.length_map, h.1]; kernel_rfl) (by rw [hm]; exact flatKey _ k h)
  inj := fun x y _ _ e => row_inj (by unfold encK at e; injection e)
theorem eqlKey (x y : List Int) (hx : okK x) (hy : okK y) (w : World) : (binOp .eql 34 (.agg (row .u8 x)) (.agg (row .u8 y))).run Tryd.prog w = .ok (.bool (decide (x = y))) w := keyEncK.eql (m := 3) (by omega) (by kernel_rfl) (by kernel_rfl) x y hx hy rfl rfl w
theorem neqKey (x y : List Int) (hx : okK x) (hy : okK y) (w : World) : (binOp .neq 34 (.agg (row .u8 x)) (.agg (row .u8 y))).run Tryd.prog w = .ok (.bool (!decide (x = y))) w := keyEncK.neq (m := 3) (by omega) (by kernel_rfl) (by kernel_rfl) x y hx hy rfl rfl w
/-- A head. -/
def okH (h : Int × List Int) : Prop := (0 ≤ h.1 ∧ h.1 ≤ 4294967295) ∧ okK h.2
def headC (h : Int × List Int) : List Value := .int .u32 h.1 :: h.2.map (Value.int .u8)
def encH (h : Int × List Int) : Value := .agg (headC h).toArray
theorem headC_len (h : Int × List Int) (hl : h.2.length = 32) : (headC h).length = 33 := by simp [headC, hl]
theorem headC_inj {g h : Int × List Int} (e : headC g = headC h) : g = h := by
  unfold headC at e
  injection e with e1 e2
  injection e1 with _ e1
  obtain ⟨a, b⟩ := g
  obtain ⟨c, d⟩ := h
  simp only at e1 e2
  rw [e1, mapI_inj e2]
theorem flatHead (d : Nat) (h : Int × List Int) (hh : okH h) : Flat Tryd.prog (d + 1 + 1 + 1) 40 (headC h) :=
  flat_struct Tryd.underlying40 (by kernel_rfl) (by rw [headC_len h hh.2.1]; kernel_rfl) (tl := [(30, 0, 1), (34, 1, 32)]) (by kernel_rfl) fun p hp => by
    simp only [List.mem_cons, List.not_mem_nil, or_false] at hp
    rcases hp with rfl | rfl
    · exact flat_u32 Tryd.underlying30 _ hh.1.1 hh.1.2
    · show Flat Tryd.prog (d + 1 + 1) 34 ((h.2.map (Value.int .u8)).take 32)
      rw [List.take_of_length_le (by rw [List.length_map, hh.2.1]; omega)]
      exact flatKey d _ hh.2
theorem keyEncH : KeyEnc Tryd.prog 40 encH okH where
  keyed := Go.Maps.Keyed.of_law (deep_law (m := 4) (by omega) (by kernel_rfl) (by kernel_rfl) (by kernel_rfl))
  has := fun k h => by
    obtain ⟨m, hm⟩ := manyTypes
    exact key_of_flat (by kernel_rfl) (by kernel_rfl) (by rw [headC_len k h.2.1]; kernel_rfl) (by rw [hm]; exact flatHead _ k h)
  inj := fun x y _ _ e => headC_inj (by unfold encH at e; injection e with e; simpa using e)
theorem eqlHead (x y : Int × List Int) (hx : okH x) (hy : okH y) (w : World) : (binOp .eql 40 (.agg (headC x).toArray) (.agg (headC y).toArray)).run Tryd.prog w = .ok (.bool (decide (x = y))) w := keyEncH.eql (m := 4) (by omega) (by kernel_rfl) (by kernel_rfl) x y hx hy rfl rfl w
theorem neqHead (x y : Int × List Int) (hx : okH x) (hy : okH y) (w : World) : (binOp .neq 40 (.agg (headC x).toArray) (.agg (headC y).toArray)).run Tryd.prog w = .ok (.bool (!decide (x = y))) w := keyEncH.neq (m := 4) (by omega) (by kernel_rfl) (by kernel_rfl) x y hx hy rfl rfl w
/-- A link: an author, a head. -/
def okL (l : Int × Int × List Int) : Prop := (0 ≤ l.1 ∧ l.1 ≤ 255) ∧ okH l.2
def linkC (l : Int × Int × List Int) : List Value := .int .u8 l.1 :: headC l.2
def encL (l : Int × Int × List Int) : Value := .agg (linkC l).toArray
theorem linkC_len (l : Int × Int × List Int) (hl : l.2.2.length = 32) : (linkC l).length = 34 := by simp [linkC, headC_len l.2 hl]
theorem linkC_inj {g h : Int × Int × List Int} (e : linkC g = linkC h) : g = h := by
  unfold linkC at e
  injection e with e1 e2
  injection e1 with _ e1
  obtain ⟨a, b⟩ := g
  obtain ⟨c, d⟩ := h
  simp only at e1 e2
  rw [e1, headC_inj e2]
theorem flatLink (d : Nat) (l : Int × Int × List Int) (hl : okL l) : Flat Tryd.prog (d + 1 + 1 + 1 + 1) 67 (linkC l) :=
  flat_struct Tryd.underlying67 (by kernel_rfl) (by rw [linkC_len l hl.2.2.1]; kernel_rfl) (tl := [(5, 0, 1), (40, 1, 33)]) (by kernel_rfl) fun p hp => by
    simp only [List.mem_cons, List.not_mem_nil, or_false] at hp
    rcases hp with rfl | rfl
    · exact flat_u8 Tryd.underlying5 _ hl.1.1 hl.1.2
    · show Flat Tryd.prog (d + 1 + 1 + 1) 40 ((headC l.2).take 33)
      rw [List.take_of_length_le (by rw [headC_len l.2 hl.2.2.1]; omega)]
      exact flatHead d _ hl.2
theorem keyEncL : KeyEnc Tryd.prog 67 encL okL where
  keyed := Go.Maps.Keyed.of_law (deep_law (m := 5) (by omega) (by kernel_rfl) (by kernel_rfl) (by kernel_rfl))
  has := fun k h => by
    obtain ⟨m, hm⟩ := manyTypes
    exact key_of_flat (by kernel_rfl) (by kernel_rfl) (by rw [linkC_len k h.2.2.1]; kernel_rfl) (by rw [hm]; exact flatLink _ k h)
  inj := fun x y _ _ e => linkC_inj (by unfold encL at e; injection e with e; simpa using e)
/-- A proof: an author, a number, two digests. -/
def okP (p : Int × Int × List Int × List Int) : Prop := (0 ≤ p.1 ∧ p.1 ≤ 255) ∧ (0 ≤ p.2.1 ∧ p.2.1 ≤ 4294967295) ∧ okK p.2.2.1 ∧ okK p.2.2.2
def proofC (p : Int × Int × List Int × List Int) : List Value := .int .u8 p.1 :: .int .u32 p.2.1 :: (p.2.2.1.map (Value.int .u8) ++ p.2.2.2.map (Value.int .u8))
def encP (p : Int × Int × List Int × List Int) : Value := .agg (proofC p).toArray
theorem proofC_len (p : Int × Int × List Int × List Int) (h1 : p.2.2.1.length = 32) (h2 : p.2.2.2.length = 32) : (proofC p).length = 66 := by simp [proofC, h1, h2]
theorem proofC_inj {g h : Int × Int × List Int × List Int} (hg : g.2.2.1.length = 32) (hh : h.2.2.1.length = 32) (e : proofC g = proofC h) : g = h := by
  obtain ⟨a, b, c, d⟩ := g
  obtain ⟨a', b', c', d'⟩ := h
  simp only at hg hh
  unfold proofC at e
  injection e with e1 e2
  injection e2 with e2 e3
  injection e1 with _ e1
  injection e2 with _ e2
  obtain ⟨e3, e4⟩ := List.append_inj e3 (by simp [hg, hh])
  simp only at e1 e2 e3 e4
  rw [e1, e2, mapI_inj e3, mapI_inj e4]
theorem flatProof (d : Nat) (p : Int × Int × List Int × List Int) (hp : okP p) : Flat Tryd.prog (d + 1 + 1 + 1) 49 (proofC p) :=
  flat_struct Tryd.underlying49 (by kernel_rfl) (by rw [proofC_len p hp.2.2.1.1 hp.2.2.2.1]; kernel_rfl) (tl := [(5, 0, 1), (30, 1, 1), (34, 2, 32), (34, 34, 32)]) (by kernel_rfl) fun q hq => by
    simp only [List.mem_cons, List.not_mem_nil, or_false] at hq
    rcases hq with rfl | rfl | rfl | rfl
    · exact flat_u8 Tryd.underlying5 _ hp.1.1 hp.1.2
    · exact flat_u32 Tryd.underlying30 _ hp.2.1.1 hp.2.1.2
    · show Flat Tryd.prog (d + 1 + 1) 34 ((p.2.2.1.map (Value.int .u8) ++ p.2.2.2.map (Value.int .u8)).take 32)
      rw [List.take_left' (by rw [List.length_map, hp.2.2.1.1])]
      exact flatKey d _ hp.2.2.1
    · show Flat Tryd.prog (d + 1 + 1) 34 (((p.2.2.1.map (Value.int .u8) ++ p.2.2.2.map (Value.int .u8)).drop 32).take 32)
      rw [List.drop_left' (by rw [List.length_map, hp.2.2.1.1]), List.take_of_length_le (by rw [List.length_map, hp.2.2.2.1]; omega)]
      exact flatKey d _ hp.2.2.2
theorem keyEncP : KeyEnc Tryd.prog 49 encP okP where
  keyed := Go.Maps.Keyed.of_law (deep_law (m := 4) (by omega) (by kernel_rfl) (by kernel_rfl) (by kernel_rfl))
  has := fun k h => by
    obtain ⟨m, hm⟩ := manyTypes
    exact key_of_flat (by kernel_rfl) (by kernel_rfl) (by rw [proofC_len k h.2.2.1.1 h.2.2.2.1]; kernel_rfl) (by rw [hm]; exact flatProof _ k h)
  inj := fun x y hx hy e => proofC_inj hx.2.2.1.1 hy.2.2.1.1 (by unfold encP at e; injection e with e; simpa using e)
theorem eqlProof (x y : Int × Int × List Int × List Int) (hx : okP x) (hy : okP y) (w : World) : (binOp .eql 49 (.agg (proofC x).toArray) (.agg (proofC y).toArray)).run Tryd.prog w = .ok (.bool (decide (x = y))) w := keyEncP.eql (m := 4) (by omega) (by kernel_rfl) (by kernel_rfl) x y hx hy rfl rfl w
theorem neqProof (x y : Int × Int × List Int × List Int) (hx : okP x) (hy : okP y) (w : World) : (binOp .neq 49 (.agg (proofC x).toArray) (.agg (proofC y).toArray)).run Tryd.prog w = .ok (.bool (!decide (x = y))) w := keyEncP.neq (m := 4) (by omega) (by kernel_rfl) (by kernel_rfl) x y hx hy rfl rfl w
end Go.Proofs.YtgcidamdbidgiaaDoor

namespace Go.Proofs.YtgcidamdbidgiaaDoor
open Go.RowKit
set_option maxRecDepth 20000
set_option linter.unusedSimpArgs false

def zk : List Int := List.replicate 32 0
theorem okK_zk : okK zk := ⟨rfl, fun v hv => by rw [(List.mem_replicate.1 hv).2]; omega⟩
/-- Of each author the digests, that of nothing first. -/
abbrev Sms := Nat → List (List Int)
structure OkS (T : Sms) : Prop where
  one : ∀ a, (T a)[0]? = some zk
  le : ∀ a, (T a).length ≤ 257
  key : ∀ a k, k ∈ T a → okK k
def cnt (T : Sms) (a : Nat) : Nat := (T a).length - 1
def atN (T : Sms) (a n : Nat) : List Int := ((T a)[n]?).getD zk
def noS : Sms := fun _ => [zk]
theorem okS_no : OkS noS := ⟨fun _ => rfl, fun _ => by simp [noS], fun a k hk => by
  have : k = zk := by simpa [noS] using hk
  rw [this]; exact okK_zk⟩
theorem OkS.pos {T : Sms} (h : OkS T) (a : Nat) : 1 ≤ (T a).length := by
  have := (List.getElem?_eq_some_iff.1 (h.one a)).1; omega
theorem OkS.cnt_lt {T : Sms} (h : OkS T) (a : Nat) : cnt T a + 1 = (T a).length := by have := h.pos a; unfold cnt; omega
theorem OkS.cnt_le {T : Sms} (h : OkS T) (a : Nat) : cnt T a ≤ 256 := by have := h.le a; unfold cnt; omega
theorem OkS.at_ok {T : Sms} (h : OkS T) (a n : Nat) : okK (atN T a n) := by
  unfold atN
  cases hq : (T a)[n]? with
  | none => exact okK_zk
  | some k => exact h.key a k (List.mem_of_getElem? hq)
theorem OkS.at0 {T : Sms} (h : OkS T) (a : Nat) : atN T a 0 = zk := by unfold atN; rw [h.one a]; rfl
def headOf (T : Sms) (a : Nat) : Int × List Int := ((cnt T a : Int), atN T a (cnt T a))
theorem OkS.head_ok {T : Sms} (h : OkS T) (a : Nat) : okH (headOf T a) := ⟨⟨by unfold headOf; simp, by have := h.cnt_le a; unfold headOf; simp only; omega⟩, h.at_ok a _⟩
def headsOf (T : Sms) : List (Int × List Int) := (List.range 8).map (headOf T)
def headsC (l : List (Int × List Int)) : List Value := (l.map headC).flatten
theorem headsOf_length (T : Sms) : (headsOf T).length = 8 := by simp [headsOf]
theorem headsOf_get (T : Sms) (a : Nat) (h : a < 8) : (headsOf T)[a]'(by rw [headsOf_length]; exact h) = headOf T a := by simp [headsOf]
theorem headsC_app (a b : List (Int × List Int)) : headsC (a ++ b) = headsC a ++ headsC b := by simp [headsC]
theorem headsC_cons (h : Int × List Int) (b : List (Int × List Int)) : headsC (h :: b) = headC h ++ headsC b := by simp [headsC]
def okHs (l : List (Int × List Int)) : Prop := ∀ h ∈ l, okH h
theorem OkS.heads_ok {T : Sms} (h : OkS T) : okHs (headsOf T) := fun x hx => by
  obtain ⟨a, _, rfl⟩ := List.mem_map.1 hx
  exact h.head_ok a
theorem headsC_len (l : List (Int × List Int)) (hl : okHs l) : (headsC l).length = 33 * l.length := by
  induction l with
  | nil => rfl
  | cons h l ih =>
    rw [headsC_cons, List.length_append, headC_len h (hl h (by simp)).2.1, ih (fun x hx => hl x (by simp [hx])), List.length_cons]; omega
theorem headsC_one (l : List (Int × List Int)) : ∀ v ∈ headsC l, v.oneCell' = true := by
  intro v hv
  unfold headsC at hv
  obtain ⟨c, hc, hvc⟩ := List.mem_flatten.1 hv
  obtain ⟨h, _, rfl⟩ := List.mem_map.1 hc
  unfold headC at hvc
  rcases List.mem_cons.1 hvc with rfl | h1
  · rfl
  · obtain ⟨x, _, rfl⟩ := List.mem_map.1 h1; rfl
theorem headC_one (h : Int × List Int) : ∀ v ∈ headC h, v.oneCell' = true := fun v hv => headsC_one [h] v (by simpa [headsC] using hv)
theorem heads_split (l : List (Int × List Int)) (j : Nat) (hj : j < l.length) : l = l.take j ++ l[j] :: l.drop (j + 1) := by
  rw [List.getElem_cons_drop, List.take_append_drop]
/-- The head at place j. -/
theorem headsC_part (l : List (Int × List Int)) (hl : okHs l) (j : Nat) (hj : j < l.length) (rest : List Value) : ((headsC l ++ rest).drop (j * 33)).take 33 = headC l[j] := by
  have hok : okHs (l.take j) := fun x hx => hl x (List.mem_of_mem_take hx)
  have hlen := headsC_len (l.take j) hok
  rw [List.length_take, Nat.min_eq_left (by omega)] at hlen
  conv => lhs; rw [heads_split l j hj]
  rw [headsC_app, headsC_cons, List.append_assoc, List.append_assoc, List.drop_append_of_le_length (by omega), List.drop_of_length_le (by omega), List.nil_append]
  exact List.take_left' (headC_len _ (hl _ (List.getElem_mem hj)).2.1)
/-- Another head at place j. -/
theorem headsC_put (l : List (Int × List Int)) (hl : okHs l) (j : Nat) (hj : j < l.length) (h : Int × List Int) (rest : List Value) :
    (headsC l ++ rest).take (j * 33) ++ headC h ++ (headsC l ++ rest).drop (j * 33 + 33) = headsC (l.set j h) ++ rest := by
  have hok : okHs (l.take j) := fun x hx => hl x (List.mem_of_mem_take hx)
  have hlen := headsC_len (l.take j) hok
  rw [List.length_take, Nat.min_eq_left (by omega)] at hlen
  have hj33 := headC_len _ (hl _ (List.getElem_mem hj)).2.1
  have e1 : headsC l = headsC (l.take j) ++ (headC l[j] ++ headsC (l.drop (j + 1))) := by
    conv => lhs; rw [heads_split l j hj]
    rw [headsC_app, headsC_cons]
  have e2 : l.set j h = l.take j ++ h :: l.drop (j + 1) := by
    rw [List.set_eq_take_append_cons_drop, if_pos hj]
  have e3 : headsC l ++ rest = headsC (l.take j) ++ (headC l[j] ++ (headsC (l.drop (j + 1)) ++ rest)) := by rw [e1]; simp
  have t3 : (headsC l ++ rest).take (j * 33) = headsC (l.take j) := by rw [e3]; exact List.take_left' (by omega)
  have d3 : (headsC l ++ rest).drop (j * 33 + 33) = headsC (l.drop (j + 1)) ++ rest := by
    rw [e3, show j * 33 + 33 = (headsC (l.take j)).length + 33 by omega, List.drop_length_add_append]
    exact List.drop_left' hj33
  rw [t3, d3, e2, headsC_app, headsC_cons]
  simp
def addS (T : Sms) (a : Nat) (k : List Int) : Sms := fun b => if b = a then T b ++ [k] else T b
theorem OkS.add {T : Sms} (h : OkS T) (a : Nat) (k : List Int) (hk : okK k) (hc : cnt T a < 256) : OkS (addS T a k) := by
  refine ⟨fun b => ?_, fun b => ?_, fun b x hx => ?_⟩
  · unfold addS
    split
    · rw [List.getElem?_append_left (by have := h.pos b; omega)]; exact h.one b
    · exact h.one b
  · unfold addS
    split
    · rename_i e; subst e
      have := h.cnt_lt b
      rw [List.length_append]; simp; omega
    · exact h.le b
  · unfold addS at hx
    split at hx
    · rcases List.mem_append.1 hx with h1 | h1
      · exact h.key b x h1
      · rw [List.mem_singleton.1 h1]; exact hk
    · exact h.key b x hx
theorem cnt_add {T : Sms} (h : OkS T) (a : Nat) (k : List Int) : cnt (addS T a k) a = cnt T a + 1 := by
  have := h.pos a
  unfold cnt addS
  rw [if_pos rfl, List.length_append]; simp; omega
theorem cnt_add_ne (T : Sms) (a b : Nat) (k : List Int) (h : b ≠ a) : cnt (addS T a k) b = cnt T b := by unfold cnt addS; rw [if_neg h]
theorem atN_add_ne (T : Sms) (a b n : Nat) (k : List Int) (h : b ≠ a) : atN (addS T a k) b n = atN T b n := by unfold atN addS; rw [if_neg h]
theorem atN_add_lt {T : Sms} (h : OkS T) (a n : Nat) (k : List Int) (hn : n ≤ cnt T a) : atN (addS T a k) a n = atN T a n := by
  have := h.cnt_lt a
  unfold atN addS
  rw [if_pos rfl, List.getElem?_append_left (by omega)]
theorem atN_add_new {T : Sms} (h : OkS T) (a : Nat) (k : List Int) : atN (addS T a k) a (cnt T a + 1) = k := by
  have := h.cnt_lt a
  unfold atN addS
  rw [if_pos rfl, List.getElem?_append_right (by omega), show cnt T a + 1 - (T a).length = 0 by omega]; rfl
theorem headOf_add {T : Sms} (h : OkS T) (a : Nat) (k : List Int) : headOf (addS T a k) a = (((cnt T a + 1 : Nat) : Int), k) := by
  unfold headOf
  rw [cnt_add h, atN_add_new h]
theorem headOf_add_ne (T : Sms) (a b : Nat) (k : List Int) (h : b ≠ a) : headOf (addS T a k) b = headOf T b := by
  unfold headOf
  rw [cnt_add_ne T a b k h, atN_add_ne T a b _ k h]
theorem headsOf_add {T : Sms} (h : OkS T) (a : Nat) (k : List Int) : headsOf (addS T a k) = (headsOf T).set a (((cnt T a + 1 : Nat) : Int), k) := by
  apply List.ext_getElem
  · simp [headsOf]
  · intro j h1 h2
    rw [headsOf_length] at h1
    rw [headsOf_get _ j h1, List.getElem_set]
    split
    · rename_i e; subst e; exact headOf_add h a k
    · rename_i e
      rw [headsOf_get _ j h1]; exact headOf_add_ne T a j k (fun q => e q.symm)
/-- What leads from each digest to the one ahead of it. -/
def linkM (T : Sms) (l : Int × Int × List Int) : Option Value :=
  if (0 ≤ l.1 ∧ l.1 < 8) ∧ (1 ≤ l.2.1 ∧ l.2.1.toNat ≤ cnt T l.1.toNat) ∧ atN T l.1.toNat l.2.1.toNat = l.2.2 then some (encK (atN T l.1.toNat (l.2.1.toNat - 1))) else none
theorem linkM_no : linkM noS = fun _ => none := by
  funext l
  unfold linkM
  rw [if_neg]
  rintro ⟨_, ⟨h1, h2⟩, _⟩
  have : cnt noS l.1.toNat = 0 := rfl
  omega
theorem linkM_at {T : Sms} (a n : Nat) (ha : a < 8) (h1 : 1 ≤ n) (h2 : n ≤ cnt T a) : linkM T ((a : Int), (n : Int), atN T a n) = some (encK (atN T a (n - 1))) := by
  unfold linkM
  rw [if_pos ⟨⟨by show (0 : Int) ≤ a; omega, by show (a : Int) < 8; omega⟩, ⟨by show (1 : Int) ≤ n; omega, by rw [Int.toNat_natCast, Int.toNat_natCast]; exact h2⟩, by rw [Int.toNat_natCast, Int.toNat_natCast]⟩, Int.toNat_natCast, Int.toNat_natCast]
theorem linkM_has {T : Sms} (a n : Nat) (s : List Int) (ha : a < 8) (h1 : 1 ≤ n) (h2 : n ≤ cnt T a) : (linkM T ((a : Int), (n : Int), s)).isSome = decide (atN T a n = s) := by
  unfold linkM
  simp only [Int.toNat_natCast]
  by_cases e : atN T a n = s
  · rw [if_pos ⟨⟨by omega, by omega⟩, ⟨by omega, h2⟩, e⟩]; simp [e]
  · rw [if_neg (fun h => e h.2.2)]; simp [e]
theorem linkM_add {T : Sms} (h : OkS T) (a : Nat) (ha : a < 8) (k : List Int) : linkM (addS T a k) = putG (linkM T) ((a : Int), ((cnt T a + 1 : Nat) : Int), k) (encK (atN T a (cnt T a))) := by
  funext l
  obtain ⟨b, n, s⟩ := l
  unfold putG
  by_cases e : ((b, n, s) : Int × Int × List Int) = ((a : Int), ((cnt T a + 1 : Nat) : Int), k)
  · rw [if_pos e]
    injection e with e1 e2
    injection e2 with e2 e3
    subst e1 e2 e3
    have := linkM_at (T := addS T a s) a (cnt T a + 1) ha (by omega) (by rw [cnt_add h]; exact Nat.le_refl _)
    rw [atN_add_new h, Nat.add_sub_cancel, atN_add_lt h a _ s (Nat.le_refl _)] at this
    exact this
  · rw [if_neg e]
    unfold linkM
    simp only
    by_cases hb : b.toNat = a ∧ 0 ≤ b
    · obtain ⟨hb, hb0⟩ := hb
      rw [hb, cnt_add h]
      by_cases hn : n.toNat ≤ cnt T a
      · rw [atN_add_lt h a _ k hn, atN_add_lt h a _ k (by omega)]
        by_cases q : (0 ≤ b ∧ b < 8) ∧ (1 ≤ n ∧ n.toNat ≤ cnt T a) ∧ atN T a n.toNat = s
        · rw [if_pos ⟨q.1, ⟨q.2.1.1, by omega⟩, q.2.2⟩, if_pos q]
        · rw [if_neg (fun q' => q ⟨q'.1, ⟨q'.2.1.1, hn⟩, q'.2.2⟩), if_neg q]
      · rw [if_neg (c := (0 ≤ b ∧ b < 8) ∧ (1 ≤ n ∧ n.toNat ≤ cnt T a) ∧ atN T a n.toNat = s) (fun q => hn q.2.1.2), if_neg]
        rintro ⟨_, ⟨q1, q2⟩, q3⟩
        have hne : n.toNat = cnt T a + 1 := by omega
        rw [hne, atN_add_new h] at q3
        exact e (by rw [q3, show n = ((cnt T a + 1 : Nat) : Int) by omega, show b = (a : Int) by omega])
    · by_cases h0 : 0 ≤ b
      · have hba : b.toNat ≠ a := fun q => hb ⟨q, h0⟩
        rw [cnt_add_ne T a _ k hba, atN_add_ne T a _ _ k hba, atN_add_ne T a _ _ k hba]
      · rw [if_neg (fun q => h0 q.1.1), if_neg (fun q => h0 q.1.1)]
def tot (T : Sms) : Nat := cnt T 0 + cnt T 1 + cnt T 2 + cnt T 3 + cnt T 4 + cnt T 5 + cnt T 6 + cnt T 7
theorem tot_add {T : Sms} (h : OkS T) (a : Nat) (ha : a < 8) (k : List Int) : tot (addS T a k) = tot T + 1 := by
  have e := cnt_add h a k
  have n := fun b (hb : b ≠ a) => cnt_add_ne T a b k hb
  unfold tot
  rcases (by omega : a = 0 ∨ a = 1 ∨ a = 2 ∨ a = 3 ∨ a = 4 ∨ a = 5 ∨ a = 6 ∨ a = 7) with r | r | r | r | r | r | r | r <;> subst r
  · rw [e, n 1 (by omega), n 2 (by omega), n 3 (by omega), n 4 (by omega), n 5 (by omega), n 6 (by omega), n 7 (by omega)]; omega
  · rw [e, n 0 (by omega), n 2 (by omega), n 3 (by omega), n 4 (by omega), n 5 (by omega), n 6 (by omega), n 7 (by omega)]; omega
  · rw [e, n 1 (by omega), n 0 (by omega), n 3 (by omega), n 4 (by omega), n 5 (by omega), n 6 (by omega), n 7 (by omega)]; omega
  · rw [e, n 1 (by omega), n 2 (by omega), n 0 (by omega), n 4 (by omega), n 5 (by omega), n 6 (by omega), n 7 (by omega)]; omega
  · rw [e, n 1 (by omega), n 2 (by omega), n 3 (by omega), n 0 (by omega), n 5 (by omega), n 6 (by omega), n 7 (by omega)]; omega
  · rw [e, n 1 (by omega), n 2 (by omega), n 3 (by omega), n 4 (by omega), n 0 (by omega), n 6 (by omega), n 7 (by omega)]; omega
  · rw [e, n 1 (by omega), n 2 (by omega), n 3 (by omega), n 4 (by omega), n 5 (by omega), n 0 (by omega), n 7 (by omega)]; omega
  · rw [e, n 1 (by omega), n 2 (by omega), n 3 (by omega), n 4 (by omega), n 5 (by omega), n 6 (by omega), n 0 (by omega)]; omega
theorem OkS.tot_le {T : Sms} (h : OkS T) : tot T ≤ 2048 := by
  have := fun a => h.cnt_le a
  unfold tot
  have := this 0; have := h.cnt_le 1; have := h.cnt_le 2; have := h.cnt_le 3; have := h.cnt_le 4; have := h.cnt_le 5; have := h.cnt_le 6; have := h.cnt_le 7
  omega
/-- A proof. -/
abbrev Pf := Int × Int × List Int × List Int
/-- P13.1: what is said of a frame: its author, number, the digest ahead of it, its own. -/
def lookN (T : Sms) (a n : Nat) (prev sum : List Int) : Int :=
  if 8 ≤ a ∨ n = 0 ∨ 256 < n then 2
  else if n ≤ cnt T a then (if atN T a n = sum then 5 else 11)
  else if cnt T a + 1 < n then 6
  else if prev = atN T a (cnt T a) then 0
  else if cnt T a = 0 then 3 else 11
def proofN (T : Sms) (a n : Nat) (prev sum : List Int) : Pf := if n ≤ cnt T a then ((a : Int), (n : Int), atN T a n, sum) else ((a : Int), (cnt T a : Int), atN T a (cnt T a), prev)
def noteP (P : List Pf) (p : Pf) : List Pf := if p ∈ P ∨ 32 ≤ P.length then P else P ++ [p]
def noteAll (P : List Pf) (l : List Pf) : List Pf := l.foldl noteP P
theorem noteP_le (P : List Pf) (p : Pf) (h : P.length ≤ 32) : (noteP P p).length ≤ 32 := by
  unfold noteP
  split
  · exact h
  · rename_i q
    have : ¬ 32 ≤ P.length := fun h => q (.inr h)
    rw [List.length_append]; simp; omega
theorem noteP_ok (P : List Pf) (p : Pf) (h : ∀ q ∈ P, okP q) (hp : okP p) : ∀ q ∈ noteP P p, okP q := by
  intro q hq
  unfold noteP at hq
  split at hq
  · exact h q hq
  · rcases List.mem_append.1 hq with h1 | h1
    · exact h q h1
    · rw [List.mem_singleton.1 h1]; exact hp
theorem noteAll_full (P l : List Pf) (h : 32 ≤ P.length) : noteAll P l = P := by
  induction l with
  | nil => rfl
  | cons p l ih =>
    have : noteP P p = P := by unfold noteP; rw [if_pos (.inr h)]
    unfold noteAll at ih ⊢
    rw [List.foldl_cons, this, ih]
def addSt (T : Sms) (P : List Pf) (a n : Nat) (prev sum : List Int) : Sms × List Pf :=
  if lookN T a n prev sum = 0 then (addS T a sum, P) else if lookN T a n prev sum = 11 then (T, noteP P (proofN T a n prev sum)) else (T, P)
/-- What Compare finds of one author. -/
def foundAt (T : Sms) (a : Nat) (h : Int × List Int) : List Pf := if 1 ≤ h.1 ∧ h.1.toNat ≤ cnt T a ∧ atN T a h.1.toNat ≠ h.2 then [((a : Int), h.1, atN T a h.1.toNat, h.2)] else []
def foundN (T : Sms) (l : List (Int × List Int)) (n : Nat) : List Pf := ((List.range n).map fun a => foundAt T a (l[a]?.getD (0, zk))).flatten
theorem foundN_succ (T : Sms) (l : List (Int × List Int)) (n : Nat) : foundN T l (n + 1) = foundN T l n ++ foundAt T n (l[n]?.getD (0, zk)) := by
  unfold foundN
  rw [List.range_succ, List.map_append, List.flatten_append]; simp
theorem foundAt_len (T : Sms) (a : Nat) (h : Int × List Int) : (foundAt T a h).length ≤ 1 := by unfold foundAt; split <;> simp
theorem foundN_len (T : Sms) (l : List (Int × List Int)) (n : Nat) : (foundN T l n).length ≤ n := by
  induction n with
  | zero => simp [foundN]
  | succ n ih => rw [foundN_succ, List.length_append]; have := foundAt_len T n (l[n]?.getD (0, zk)); omega
theorem lookN_le (T : Sms) (a n : Nat) (prev sum : List Int) (h0 : lookN T a n prev sum = 0) : a < 8 ∧ n = cnt T a + 1 ∧ cnt T a < 256 ∧ prev = atN T a (cnt T a) := by
  unfold lookN at h0
  split at h0
  · omega
  · rename_i q1
    split at h0
    · split at h0 <;> omega
    · rename_i q2
      split at h0
      · omega
      · rename_i q3
        split at h0
        · rename_i q4
          have h1 : ¬ 8 ≤ a := fun x => q1 (.inl x)
          have h2 : ¬ 256 < n := fun x => q1 (.inr (.inr x))
          exact ⟨by omega, by omega, by omega, q4⟩
        · split at h0 <;> omega
end Go.Proofs.YtgcidamdbidgiaaDoor
