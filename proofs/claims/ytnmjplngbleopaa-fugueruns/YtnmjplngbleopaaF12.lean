/- Mg Fk Fg7 -/
import Derived.Test.YtnmjplngbleopaaF01
import Derived.Maps.OwnSet
import Derived.DeepKeys3
import Derived.Laws.StructEq
import Derived.Test.YtnmjplngbleopaaF11
namespace Go.Proofs.Ytnmjplngbleopaa
open Go.RowKit
set_option maxRecDepth 20000
set_option linter.unusedSimpArgs false
set_option linter.unusedSectionVars false
def rawE (v : Value) : Option (DataW Value × List MemPlace) := some (.held v, [])
structure KeyEnc (P : Program) (kt : TypeId) {α : Type} (enc : α → Value) (ok : α → Prop) : Prop where
  keyed : Go.Maps.Keyed P kt
  has : ∀ x, ok x → ∃ l, keyOf P kt (enc x) = some l
  inj : ∀ x y, ok x → ok y → enc x = enc y → x = y
section
variable {P : Program} {kt : TypeId} {α : Type} [DecidableEq α] {enc : α → Value} {ok : α → Prop}
def MapG (P : Program) (kt : TypeId) (enc : α → Value) (ok : α → Prop) (w : World) (b n : Nat) (M : α → Option Value) : Prop :=
  ∃ D : DataW Value, w.ownsMap P kt rawE b n D ∧ ∀ x, ok x → ∀ l, keyOf P kt (enc x) = some l → ∀ z, D.atKey l z = (match M x with | some v => .held v | none => z)
def putG (M : α → Option Value) (x : α) (v : Value) : α → Option Value := fun y => if y = x then some v else M y
def delG (M : α → Option Value) (x : α) : α → Option Value := fun y => if y = x then none else M y
theorem MapG.made (w : World) : MapG P kt enc ok (w.alloc (.map #[] 0)) w.heap.size 0 (fun _ => none) := ⟨_, World.ownsMap_made w _ _ _, fun _ _ _ _ _ => rfl⟩
theorem MapG.lt {w : World} {b n : Nat} {M : α → Option Value} (h : MapG P kt enc ok w b n M) : b < w.heap.size := by obtain ⟨D, h, _⟩ := h; exact h.lt
theorem MapG.congr {w w' : World} {b n : Nat} {M : α → Option Value} (h : MapG P kt enc ok w b n M) (he : w'.heap[b]? = w.heap[b]?) : MapG P kt enc ok w' b n M := by
  obtain ⟨D, ⟨es, cl, hb, r⟩, hM⟩ := h
  exact ⟨D, ⟨es, cl, he.trans hb, r⟩, hM⟩
theorem MapG.cellsNe {w : World} {b n g : Nat} {M : α → Option Value} (h : MapG P kt enc ok w b n M) {t : TypeId} {cs : List Value} (hg : CellsAt w g t cs) : b ≠ g := by
  intro e
  subst e
  obtain ⟨D, ⟨es, cl, hb, _⟩, _⟩ := h
  unfold CellsAt at hg
  rw [hb] at hg
  cases hg
theorem MapG.look (K : KeyEnc P kt enc ok) {w : World} {b n : Nat} {M : α → Option Value} (h : MapG P kt enc ok w b n M) {t e : TypeId} (ht : P.underlying t = some (.map kt e)) {z : Value} (hz : (zeroValue e).run P w = .ok z w) (x : α) (hx : ok x) :
    (Instr.lookup t (.map (some b)) (enc x) true).run P w = .ok (.tuple #[(M x).getD z, .bool (M x).isSome]) w := by
  obtain ⟨D, hD, hM⟩ := h
  obtain ⟨l, hl⟩ := K.has x hx
  have h2 := hM x hx l hl
  have h1 : Maps.has D l = (M x).isSome := by
    cases hv : M x with
    | none => exact Maps.has_false_of_atKey fun z => by rw [h2, hv]
    | some v => exact Maps.has_true_of_atKey (y := .held v) fun z => by rw [h2, hv]
  obtain ⟨v, ps, hrun, hv⟩ := hD.look_ok K.keyed ht hz (zd := .held z) (zp := []) rfl hl
  rw [hrun, h1]
  unfold rawE at hv
  injection hv with hv
  injection hv with hv _
  rw [h2] at hv
  cases hm : M x with
  | none => rw [hm] at hv; injection hv with hv; rw [hv]; rfl
  | some u => rw [hm] at hv; injection hv with hv; rw [hv]; rfl
theorem MapG.get (K : KeyEnc P kt enc ok) {w : World} {b n : Nat} {M : α → Option Value} (h : MapG P kt enc ok w b n M) {t e : TypeId} (ht : P.underlying t = some (.map kt e)) {z : Value} (hz : (zeroValue e).run P w = .ok z w) (x : α) (hx : ok x) :
    (Instr.lookup t (.map (some b)) (enc x) false).run P w = .ok ((M x).getD z) w := by
  obtain ⟨D, hD, hM⟩ := h
  obtain ⟨l, hl⟩ := K.has x hx
  have h2 := hM x hx l hl
  obtain ⟨v, ps, hrun, hv⟩ := hD.lookup K.keyed ht hz (zd := .held z) (zp := []) rfl hl
  rw [hrun]
  unfold rawE at hv
  injection hv with hv
  injection hv with hv _
  rw [h2] at hv
  cases hm : M x with
  | none => rw [hm] at hv; injection hv with hv; rw [hv]; rfl
  | some u => rw [hm] at hv; injection hv with hv; rw [hv]; rfl
theorem KeyEnc.lit_inj (K : KeyEnc P kt enc ok) {x y : α} (hx : ok x) (hy : ok y) {l : Lit} (h1 : keyOf P kt (enc x) = some l) (h2 : keyOf P kt (enc y) = some l) : x = y := K.inj x y hx hy (K.keyed.inj h1 h2)
theorem MapG.store (K : KeyEnc P kt enc ok) {w : World} {b n : Nat} {M : α → Option Value} (h : MapG P kt enc ok w b n M) {t e : TypeId} (ht : P.underlying t = some (.map kt e)) (hn : n < maxLen) (x : α) (hx : ok x) (v : Value) :
    ∃ w', (Instr.mapUpdate t (.map (some b)) (enc x) v).run P w = .ok () w' ∧ MapG P kt enc ok w' b (n + 1) (putG M x v) ∧ w.grownBy w' (some b) := by
  obtain ⟨D, hD, hM⟩ := h
  obtain ⟨l, hl⟩ := K.has x hx
  obtain ⟨w', hrun, hown, ht'⟩ := hD.store K.keyed ht hn hl (d := .held v) (ps := []) rfl
  refine ⟨w', hrun, ⟨_, hown, fun y hy ly hly z => ?_⟩, ht'.grown⟩
  unfold putG
  by_cases e : y = x
  · subst e
    obtain rfl : ly = l := by rw [hl] at hly; injection hly with h; exact h.symm
    rw [if_pos rfl, Maps.atKey_put_same hD.isMap (K.keyed.key hl)]
  · rw [if_neg e, Maps.atKey_put_other (fun q : ly = l => e (K.lit_inj hy hx hly (by rw [q]; exact hl))), hM y hy ly hly]
theorem MapG.drop (K : KeyEnc P kt enc ok) {w : World} {b n : Nat} {M : α → Option Value} (h : MapG P kt enc ok w b n M) {t e : TypeId} (ht : P.underlying t = some (.map kt e)) (ty : TypeId) (x : α) (hx : ok x) :
    ∃ w', (Builtin.delete_ #[t, kt] ty #[.map (some b), enc x]).run P w = .ok (.tuple #[]) w' ∧ MapG P kt enc ok w' b n (delG M x) ∧ w.grownBy w' (some b) := by
  obtain ⟨D, hD, hM⟩ := h
  obtain ⟨l, hl⟩ := K.has x hx
  obtain ⟨w', hrun, hown, ht'⟩ := hD.drop K.keyed ht hl ty
  refine ⟨w', hrun, ⟨_, hown, fun y hy ly hly z => ?_⟩, ht'.grown⟩
  unfold delG
  by_cases e : y = x
  · subst e
    obtain rfl : ly = l := by rw [hl] at hly; injection hly with h; exact h.symm
    rw [if_pos rfl, Maps.atKey_del_same]
  · rw [if_neg e, Maps.atKey_del_other (fun q : ly = l => e (K.lit_inj hy hx hly (by rw [q]; exact hl))), hM y hy ly hly]
end
theorem u8_wfG {a : Int} (h1 : 0 ≤ a) (h2 : a ≤ 255) : (Lit.int .u8 a).wf = true := by
  show (decide ((0 : Int) ≤ a) && decide (a ≤ 255)) = true
  simp; omega
theorem u32_wfG {a : Int} (h1 : 0 ≤ a) (h2 : a ≤ 4294967295) : (Lit.int .u32 a).wf = true := by
  show (decide ((0 : Int) ≤ a) && decide (a ≤ 4294967295)) = true
  simp; omega
section
variable {P : Program}
theorem litsU8G {t : TypeId} (hu : P.underlying t = some (.int .u8)) (d : Nat) (a : Int) (h1 : 0 ≤ a) (h2 : a ≤ 255) : P.keyLits (d + 1) t [.int .u8 a] = some [.int .u8 a] := by
  unfold Program.keyLits; simp [hu, u8_wfG h1 h2]
theorem litsU32G {t : TypeId} (hu : P.underlying t = some (.int .u32)) (d : Nat) (a : Int) (h1 : 0 ≤ a) (h2 : a ≤ 4294967295) : P.keyLits (d + 1) t [.int .u32 a] = some [.int .u32 a] := by
  unfold Program.keyLits; simp [hu, u32_wfG h1 h2]
end
def Flat (P : Program) (d : Nat) (t : TypeId) (cs : List Value) : Prop := ∃ L, P.keyLits d t cs = some L
theorem mapM_some {α β : Type} (f : α → Option β) : ∀ l : List α, (∀ x ∈ l, ∃ y, f x = some y) → ∃ ys, l.mapM f = some ys
  | [], _ => ⟨[], by simp⟩
  | x :: l, h => by
    obtain ⟨y, hy⟩ := h x (by simp)
    obtain ⟨ys, hys⟩ := mapM_some f l (fun z hz => h z (by simp [hz]))
    exact ⟨y :: ys, by simp [List.mapM_cons, hy, hys]⟩
section
variable {P : Program} {d : Nat} {t : TypeId}
theorem flat_u8 (hu : P.underlying t = some (.int .u8)) (a : Int) (h1 : 0 ≤ a) (h2 : a ≤ 255) : Flat P (d + 1) t [.int .u8 a] := ⟨_, litsU8G hu d a h1 h2⟩
theorem flat_u32 (hu : P.underlying t = some (.int .u32)) (a : Int) (h1 : 0 ≤ a) (h2 : a ≤ 4294967295) : Flat P (d + 1) t [.int .u32 a] := ⟨_, litsU32G hu d a h1 h2⟩
theorem flat_bool (hu : P.underlying t = some .bool) (b : Bool) : Flat P (d + 1) t [.bool b] := ⟨[.bool b], by unfold Program.keyLits; simp [hu]⟩
theorem flat_struct {fs : Array Field} {cs : List Value} {tl : List (TypeId × Nat × Nat)} (hu : P.underlying t = some (.struct fs)) (hn : fs.all (·.name != "_") = true) (hl : cs.length = P.cellsOf t)
    (hm : fs.toList.map (fun f => (f.type, f.offset, P.cellsOf f.type)) = tl) (h : ∀ p ∈ tl, Flat P d p.1 ((cs.drop p.2.1).take p.2.2)) : Flat P (d + 1) t cs := by
  obtain ⟨ys, hys⟩ := mapM_some (fun f : Field => P.keyLits d f.type ((cs.drop f.offset).take (P.cellsOf f.type))) fs.toList (fun f hf => h (f.type, f.offset, P.cellsOf f.type) (by rw [← hm]; exact List.mem_map_of_mem hf))
  refine ⟨ys.flatten, ?_⟩
  unfold Program.keyLits
  simp only [hu, hl, hn, and_self, if_true, hys, Option.map_some]
theorem key_of_flat {cs : List Value} (hwide : (match P.underlying t with | some (.array _ _) | some (.struct _) => true | _ => false) = true) (hk : P.keyType t = true) (hl : cs.length = P.cellsOf t) (h : Flat P (P.types.size + 1) t cs) : ∃ l, keyOf P t (.agg cs.toArray) = some l := by
  obtain ⟨L, hL⟩ := h
  have hf : Value.formed P t (.agg cs.toArray) = true := by
    unfold Value.formed
    cases hu : P.underlying t with
    | none => simp [hu] at hwide
    | some q => cases q <;> simp_all
  refine ⟨.string (keyBytes L), ?_⟩
  unfold keyOf
  cases hu : P.underlying t with
  | none => simp [hu] at hwide
  | some q => cases q <;> simp_all [Value.cells]
end
section
variable {P : Program} {kt : TypeId} {α : Type} [DecidableEq α] {enc : α → Value} {ok : α → Prop}
theorem KeyEnc.equal (K : KeyEnc P kt enc ok) {m : Nat} (hm : m ≤ 10000) (hk : P.keyTypeAt m kt = true) (hwide : (match P.underlying kt with | some (.array _ _) | some (.struct _) => true | _ => false) = true) (x y : α) (hx : ok x) (hy : ok y) (w : World) :
    (Op.equal kt (enc x) (enc y)).run P w = .ok (decide (x = y)) w := by
  obtain ⟨lx, h1⟩ := K.has x hx
  obtain ⟨ly, h2⟩ := K.has y hy
  obtain ⟨r, hr, hi⟩ := run_equal_deep w hm hk hwide h1 h2
  rw [hr]
  have : r = decide (x = y) := by
    rw [Bool.eq_iff_iff, hi, decide_eq_true_iff]
    constructor
    · intro e; subst e; exact K.lit_inj hx hy h1 h2
    · intro e; subst e; rw [h1] at h2; injection h2
  rw [this]
theorem KeyEnc.eql (K : KeyEnc P kt enc ok) {cx cy : Array Value} {m : Nat} (hm : m ≤ 10000) (hk : P.keyTypeAt m kt = true) (hwide : (match P.underlying kt with | some (.array _ _) | some (.struct _) => true | _ => false) = true) (x y : α) (hx : ok x) (hy : ok y) (ex : enc x = .agg cx) (ey : enc y = .agg cy) (w : World) :
    (binOp .eql kt (.agg cx) (.agg cy)).run P w = .ok (.bool (decide (x = y))) w := by
  have h := K.equal hm hk hwide x y hx hy w
  rw [ex, ey] at h
  rw [run_eql_struct, show Op.equalIn 10000 kt (.agg cx) (.agg cy) = Op.equal kt (.agg cx) (.agg cy) from rfl, h]; rfl
end
theorem manyTypes : ∃ m, Try.prog.types.size + 1 = m + 1 + 1 + 1 + 1 + 1 + 1 := by
  have h : Nat.ble 6 Try.prog.types.size = true := by kernel_rfl
  exact ⟨Try.prog.types.size - 5, by have := Nat.le_of_ble_eq_true h; omega⟩
open Go.RowKit Go.Shelf
def okDF (x : Int × Int) : Prop := (0 ≤ x.1 ∧ x.1 ≤ 255) ∧ (0 ≤ x.2 ∧ x.2 ≤ 4294967295)
theorem encF_inj {x y : Int × Int} (e : encF x = encF y) : x = y := by
  obtain ⟨a, b⟩ := x
  obtain ⟨c, d⟩ := y
  simp only [encF, dotC] at e
  injection e with e1 e2
  injection e2 with e2 _
  injection e1 with _ e1
  injection e2 with _ e2
  rw [e1, e2]
theorem flatDotF (d : Nat) (x : Int × Int) (h : okDF x) : Flat Try.prog (d + 1 + 1) 32 (encF x) :=
  flat_struct Try.underlying32 (by kernel_rfl) (by show (2 : Nat) = _; kernel_rfl) (tl := [(5, 0, 1), (30, 1, 1)]) (by kernel_rfl) fun p hp => by
    simp only [List.mem_cons, List.not_mem_nil, or_false] at hp
    rcases hp with rfl | rfl
    · exact flat_u8 Try.underlying5 _ h.1.1 h.1.2
    · exact flat_u32 Try.underlying30 _ h.2.1 h.2.2
def encDF (x : Int × Int) : Value := .agg (encF x).toArray
theorem keyEncDF : KeyEnc Try.prog 32 encDF okDF where
  keyed := Go.Maps.Keyed.of_law (deep_law (m := 4) (by omega) (by kernel_rfl) (by kernel_rfl) (by kernel_rfl))
  has := fun k h => by
    obtain ⟨m, hm⟩ := manyTypes
    exact key_of_flat (by kernel_rfl) (by kernel_rfl) (by show (2 : Nat) = _; kernel_rfl) (by rw [hm]; exact flatDotF _ k h)
  inj := fun x y _ _ e => encF_inj (by unfold encDF at e; injection e with e; simpa using e)
def sideC (s : (Int × Int) × Bool) : List Value := encF s.1 ++ [.bool s.2]
def encS (s : (Int × Int) × Bool) : Value := .agg (sideC s).toArray
def okS (s : (Int × Int) × Bool) : Prop := okDF s.1
theorem sideC_len (s : (Int × Int) × Bool) : (sideC s).length = 3 := rfl
theorem sideC_inj {s t : (Int × Int) × Bool} (e : sideC s = sideC t) : s = t := by
  obtain ⟨x, a⟩ := s
  obtain ⟨y, b⟩ := t
  unfold sideC at e
  obtain ⟨e1, e2⟩ := List.append_inj e rfl
  injection e2 with e2 _
  injection e2 with e2
  simp only at e1 e2
  rw [encF_inj e1, e2]
theorem flatSide (d : Nat) (s : (Int × Int) × Bool) (h : okS s) : Flat Try.prog (d + 1 + 1 + 1) 56 (sideC s) :=
  flat_struct Try.underlying56 (by kernel_rfl) (by rw [sideC_len]; kernel_rfl) (tl := [(32, 0, 2), (4, 2, 1)]) (by kernel_rfl) fun p hp => by
    simp only [List.mem_cons, List.not_mem_nil, or_false] at hp
    rcases hp with rfl | rfl
    · exact flatDotF d _ h
    · exact flat_bool Try.underlying4 _
theorem keyEncS : KeyEnc Try.prog 56 encS okS where
  keyed := Go.Maps.Keyed.of_law (deep_law (m := 5) (by omega) (by kernel_rfl) (by kernel_rfl) (by kernel_rfl))
  has := fun k h => by
    obtain ⟨m, hm⟩ := manyTypes
    exact key_of_flat (by kernel_rfl) (by kernel_rfl) (by rw [sideC_len]; kernel_rfl) (by rw [hm]; exact flatSide _ k h)
  inj := fun x y _ _ e => sideC_inj (by unfold encS at e; injection e with e; simpa using e)
end Go.Proofs.Ytnmjplngbleopaa
