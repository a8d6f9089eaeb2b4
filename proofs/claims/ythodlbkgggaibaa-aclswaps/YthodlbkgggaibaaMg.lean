/- Maps whose keys are whatever flat things, told by a function enc; elements are whatever values: made, looked up, stored into, deleted from, cloned. Two flat things compared. -/
import Derived.Test.YthodlbkgggaibaaEv0
import Derived.Maps.OwnSet
import Derived.DeepKeys3
namespace Go.Proofs.Ythodlbkgggaibaa
open Go.RowKit
set_option maxRecDepth 20000
set_option linter.unusedSimpArgs false
set_option linter.unusedSectionVars false

/-- An element reads as itself. -/
def rawE (v : Value) : Option (DataW Value × List MemPlace) := some (.held v, [])
/-- Things x with ok x are keys of the type kt, as enc x, no two alike. -/
structure KeyEnc (P : Program) (kt : TypeId) {α : Type} (enc : α → Value) (ok : α → Prop) : Prop where
  keyed : Go.Maps.Keyed P kt
  has : ∀ x, ok x → ∃ l, keyOf P kt (enc x) = some l
  inj : ∀ x y, ok x → ok y → enc x = enc y → x = y
section
variable {P : Program} {kt : TypeId} {α : Type} [DecidableEq α] {enc : α → Value} {ok : α → Prop}
/-- Block b is a map of at most n entries that holds M x at x. -/
def MapG (P : Program) (kt : TypeId) (enc : α → Value) (ok : α → Prop) (w : World) (b n : Nat) (M : α → Option Value) : Prop :=
  ∃ D : DataW Value, w.ownsMap P kt rawE b n D ∧ ∀ x, ok x → ∀ l, keyOf P kt (enc x) = some l → ∀ z, D.atKey l z = (match M x with | some v => .held v | none => z)
def putG (M : α → Option Value) (x : α) (v : Value) : α → Option Value := fun y => if y = x then some v else M y
def delG (M : α → Option Value) (x : α) : α → Option Value := fun y => if y = x then none else M y
theorem MapG.made (w : World) : MapG P kt enc ok (w.alloc (.map #[] 0)) w.heap.size 0 (fun _ => none) := ⟨_, World.ownsMap_made w _ _ _, fun _ _ _ _ _ => rfl⟩
theorem MapG.lt {w : World} {b n : Nat} {M : α → Option Value} (h : MapG P kt enc ok w b n M) : b < w.heap.size := by obtain ⟨D, h, _⟩ := h; exact h.lt
theorem MapG.congr {w w' : World} {b n : Nat} {M : α → Option Value} (h : MapG P kt enc ok w b n M) (he : w'.heap[b]? = w.heap[b]?) : MapG P kt enc ok w' b n M := by
  obtain ⟨D, ⟨es, cl, hb, r⟩, hM⟩ := h
  exact ⟨D, ⟨es, cl, he.trans hb, r⟩, hM⟩
theorem MapG.cellsNe {w : World} {b n g : Nat} {M : α → Option Value} (h : MapG P kt enc ok w b n M) {t : TypeId} {cs : List Value} (hg : CellsAt w g t cs) : b ≠ g := by
  intro e
  subst e
  obtain ⟨D, ⟨es, cl, hb, _⟩, _⟩ := h
  unfold CellsAt at hg
  rw [hb] at hg
  cases hg
/-- 'v, ok := m[x]'. -/
theorem MapG.look (K : KeyEnc P kt enc ok) {w : World} {b n : Nat} {M : α → Option Value} (h : MapG P kt enc ok w b n M) {t e : TypeId} (ht : P.underlying t = some (.map kt e)) {z : Value} (hz : (zeroValue e).run P w = .ok z w) (x : α) (hx : ok x) :
    (Instr.lookup t (.map (some b)) (enc x) true).run P w = .ok (.tuple #[(M x).getD z, .bool (M x).isSome]) w := by
  obtain ⟨D, hD, hM⟩ := h
  obtain ⟨l, hl⟩ := K.has x hx
  have h2 := hM x hx l hl
  have h1 : Maps.has D l = (M x).isSome := by
    cases hv : M x with
    | none => exact Maps.has_false_of_atKey fun z => by rw [h2, hv]
    | some v => exact Maps.has_true_of_atKey (y := .held v) fun z => by rw [h2, hv]
  obtain ⟨v, ps, hrun, hv⟩ := hD.look_ok K.keyed ht hz (zd := .held z) (zp := []) rfl hl
  rw [hrun, h1]
  unfold rawE at hv
  injection hv with hv
  injection hv with hv _
  rw [h2] at hv
  cases hm : M x with
  | none => rw [hm] at hv; injection hv with hv; rw [hv]; rfl
  | some u => rw [hm] at hv; injection hv with hv; rw [hv]; rfl
/-- 'm[x]'. -/
theorem MapG.get (K : KeyEnc P kt enc ok) {w : World} {b n : Nat} {M : α → Option Value} (h : MapG P kt enc ok w b n M) {t e : TypeId} (ht : P.underlying t = some (.map kt e)) {z : Value} (hz : (zeroValue e).run P w = .ok z w) (x : α) (hx : ok x) :
    (Instr.lookup t (.map (some b)) (enc x) false).run P w = .ok ((M x).getD z) w := by
  obtain ⟨D, hD, hM⟩ := h
  obtain ⟨l, hl⟩ := K.has x hx
  have h2 := hM x hx l hl
  obtain ⟨v, ps, hrun, hv⟩ := hD.lookup K.keyed ht hz (zd := .held z) (zp := []) rfl hl
  rw [hrun]
  unfold rawE at hv
  injection hv with hv
  injection hv with hv _
  rw [h2] at hv
  cases hm : M x with
  | none => rw [hm] at hv; injection hv with hv; rw [hv]; rfl
  | some u => rw [hm] at hv; injection hv with hv; rw [hv]; rfl
theorem KeyEnc.lit_inj (K : KeyEnc P kt enc ok) {x y : α} (hx : ok x) (hy : ok y) {l : Lit} (h1 : keyOf P kt (enc x) = some l) (h2 : keyOf P kt (enc y) = some l) : x = y := K.inj x y hx hy (K.keyed.inj h1 h2)
/-- 'm[x] = v'. -/
theorem MapG.store (K : KeyEnc P kt enc ok) {w : World} {b n : Nat} {M : α → Option Value} (h : MapG P kt enc ok w b n M) {t e : TypeId} (ht : P.underlying t = some (.map kt e)) (hn : n < maxLen) (x : α) (hx : ok x) (v : Value) :
    ∃ w', (Instr.mapUpdate t (.map (some b)) (enc x) v).run P w = .ok () w' ∧ MapG P kt enc ok w' b (n + 1) (putG M x v) ∧ w.grownBy w' (some b) := by
  obtain ⟨D, hD, hM⟩ := h
  obtain ⟨l, hl⟩ := K.has x hx
  obtain ⟨w', hrun, hown, ht'⟩ := hD.store K.keyed ht hn hl (d := .held v) (ps := []) rfl
  refine ⟨w', hrun, ⟨_, hown, fun y hy ly hly z => ?_⟩, ht'.grown⟩
  unfold putG
  by_cases e : y = x
  · subst e
    obtain rfl : ly = l := by rw [hl] at hly; injection hly with h; exact h.symm
    rw [if_pos rfl, Maps.atKey_put_same hD.isMap (K.keyed.key hl)]
  · rw [if_neg e, Maps.atKey_put_other (fun q : ly = l => e (K.lit_inj hy hx hly (by rw [q]; exact hl))), hM y hy ly hly]
/-- 'delete(m, x)'. -/
theorem MapG.drop (K : KeyEnc P kt enc ok) {w : World} {b n : Nat} {M : α → Option Value} (h : MapG P kt enc ok w b n M) {t e : TypeId} (ht : P.underlying t = some (.map kt e)) (ty : TypeId) (x : α) (hx : ok x) :
    ∃ w', (Builtin.delete_ #[t, kt] ty #[.map (some b), enc x]).run P w = .ok (.tuple #[]) w' ∧ MapG P kt enc ok w' b n (delG M x) ∧ w.grownBy w' (some b) := by
  obtain ⟨D, hD, hM⟩ := h
  obtain ⟨l, hl⟩ := K.has x hx
  obtain ⟨w', hrun, hown, ht'⟩ := hD.drop K.keyed ht hl ty
  refine ⟨w', hrun, ⟨_, hown, fun y hy ly hly z => ?_⟩, ht'.grown⟩
  unfold delG
  by_cases e : y = x
  · subst e
    obtain rfl : ly = l := by rw [hl] at hly; injection hly with h; exact h.symm
    rw [if_pos rfl, Maps.atKey_del_same]
  · rw [if_neg e, Maps.atKey_del_other (fun q : ly = l => e (K.lit_inj hy hx hly (by rw [q]; exact hl))), hM y hy ly hly]
end
theorem u8_wfG {a : Int} (h1 : 0 ≤ a) (h2 : a ≤ 255) : (Lit.int .u8 a).wf = true := by
  show (decide ((0 : Int) ≤ a) && decide (a ≤ 255)) = true
  simp; omega
theorem u32_wfG {a : Int} (h1 : 0 ≤ a) (h2 : a ≤ 4294967295) : (Lit.int .u32 a).wf = true := by
  show (decide ((0 : Int) ≤ a) && decide (a ≤ 4294967295)) = true
  simp; omega
/-- Bytes. -/
def isB8 (l : List Int) : Prop := ∀ v ∈ l, 0 ≤ v ∧ v ≤ 255
section
variable {P : Program}
theorem litsU8G {t : TypeId} (hu : P.underlying t = some (.int .u8)) (d : Nat) (a : Int) (h1 : 0 ≤ a) (h2 : a ≤ 255) : P.keyLits (d + 1) t [.int .u8 a] = some [.int .u8 a] := by
  unfold Program.keyLits; simp [hu, u8_wfG h1 h2]
theorem litsU32G {t : TypeId} (hu : P.underlying t = some (.int .u32)) (d : Nat) (a : Int) (h1 : 0 ≤ a) (h2 : a ≤ 4294967295) : P.keyLits (d + 1) t [.int .u32 a] = some [.int .u32 a] := by
  unfold Program.keyLits; simp [hu, u32_wfG h1 h2]
end
end Go.Proofs.Ythodlbkgggaibaa

