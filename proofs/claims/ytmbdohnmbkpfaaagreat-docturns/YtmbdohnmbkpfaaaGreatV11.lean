/- Mg Fk Fg7 Fg8 Fg9 Mx Fg10 -/
import Derived.Test.YtmbdohnmbkpfaaaGreatV01
import Derived.Maps.OwnSet
import Derived.DeepKeys3
import Derived.Laws.StructEq
import Derived.Test.YtmbdohnmbkpfaaaGreatV10
import Derived.Test.YtmbdohnmbkpfaaaGreatV07
namespace Go.Proofs.YtmbdohnmbkpfaaaGreat
open Go.RowKit
set_option maxRecDepth 20000
set_option linter.unusedSimpArgs false
set_option linter.unusedSectionVars false
def rawE (v : Value) : Option (DataW Value × List MemPlace) := some (.held v, [])
structure KeyEnc (P : Program) (kt : TypeId) {α : Type} (enc : α → Value) (ok : α → Prop) : Prop where
 keyed : Go.Maps.Keyed P kt
 has : ∀ x, ok x → ∃ l, keyOf P kt (enc x) = some l
 inj : ∀ x y, ok x → ok y → enc x = enc y → x = y
section
variable {P : Program} {kt : TypeId} {α : Type} [DecidableEq α] {enc : α → Value} {ok : α → Prop}
def MapG (P : Program) (kt : TypeId) (enc : α → Value) (ok : α → Prop) (w : World) (b n : Nat) (M : α → Option Value) : Prop :=
 ∃ D : DataW Value, w.ownsMap P kt rawE b n D ∧ ∀ x, ok x → ∀ l, keyOf P kt (enc x) = some l → ∀ z, D.atKey l z = (match M x with | some v => .held v | none => z)
def putG (M : α → Option Value) (x : α) (v : Value) : α → Option Value := fun y => if y = x then some v else M y
def delG (M : α → Option Value) (x : α) : α → Option Value := fun y => if y = x then none else M y
theorem MapG.made (w : World) : MapG P kt enc ok (w.alloc (.map #[] 0)) w.heap.size 0 (fun _ => none) := ⟨_, World.ownsMap_made w _ _ _, fun _ _ _ _ _ => rfl⟩
theorem MapG.lt {w : World} {b n : Nat} {M : α → Option Value} (h : MapG P kt enc ok w b n M) : b < w.heap.size := by obtain ⟨D, h, _⟩ := h; exact h.lt
theorem MapG.congr {w w' : World} {b n : Nat} {M : α → Option Value} (h : MapG P kt enc ok w b n M) (he : w'.heap[b]? = w.heap[b]?) : MapG P kt enc ok w' b n M := by
 obtain ⟨D, ⟨es, cl, hb, r⟩, hM⟩ := h
 exact ⟨D, ⟨es, cl, he.trans hb, r⟩, hM⟩
theorem MapG.cellsNe {w : World} {b n g : Nat} {M : α → Option Value} (h : MapG P kt enc ok w b n M) {t : TypeId} {cs : List Value} (hg : CellsAt w g t cs) : b ≠ g := by
 intro e
 subst e
 obtain ⟨D, ⟨es, cl, hb, _⟩, _⟩ := h
 unfold CellsAt at hg
 rw [hb] at hg
 cases hg
theorem MapG.look (K : KeyEnc P kt enc ok) {w : World} {b n : Nat} {M : α → Option Value} (h : MapG P kt enc ok w b n M) {t e : TypeId} (ht : P.underlying t = some (.map kt e)) {z : Value} (hz : (zeroValue e).run P w = .ok z w) (x : α) (hx : ok x) :
    (Instr.lookup t (.map (some b)) (enc x) true).run P w = .ok (.tuple #[(M x).getD z, .bool (M x).isSome]) w := by
 obtain ⟨D, hD, hM⟩ := h
 obtain ⟨l, hl⟩ := K.has x hx
 have h2 := hM x hx l hl
 have h1 : Maps.has D l = (M x).isSome := by
  cases hv : M x with
  | none => exact Maps.has_false_of_atKey fun z => by rw [h2, hv]
  | some v => exact Maps.has_true_of_atKey (y := .held v) fun z => by rw [h2, hv]
 obtain ⟨v, ps, hrun, hv⟩ := hD.look_ok K.keyed ht hz (zd := .held z) (zp := []) rfl hl
 rw [hrun, h1]
 unfold rawE at hv
 injection hv with hv
 injection hv with hv _
 rw [h2] at hv
 cases hm : M x with
 | none => rw [hm] at hv; injection hv with hv; rw [hv]; rfl
 | some u => rw [hm] at hv; injection hv with hv; rw [hv]; rfl
theorem MapG.get (K : KeyEnc P kt enc ok) {w : World} {b n : Nat} {M : α → Option Value} (h : MapG P kt enc ok w b n M) {t e : TypeId} (ht : P.underlying t = some (.map kt e)) {z : Value} (hz : (zeroValue e).run P w = .ok z w) (x : α) (hx : ok x) :
    (Instr.lookup t (.map (some b)) (enc x) false).run P w = .ok ((M x).getD z) w := by
 obtain ⟨D, hD, hM⟩ := h
 obtain ⟨l, hl⟩ := K.has x hx
 have h2 := hM x hx l hl
 obtain ⟨v, ps, hrun, hv⟩ := hD.lookup K.keyed ht hz (zd := .held z) (zp := []) rfl hl
 rw [hrun]
 unfold rawE at hv
 injection hv with hv
 injection hv with hv _
 rw [h2] at hv
 cases hm : M x with
 | none => rw [hm] at hv; injection hv with hv; rw [hv]; rfl
 | some u => rw [hm] at hv; injection hv with hv; rw [hv]; rfl
theorem KeyEnc.lit_inj (K : KeyEnc P kt enc ok) {x y : α} (hx : ok x) (hy : ok y) {l : Lit} (h1 : keyOf P kt (enc x) = some l) (h2 : keyOf P kt (enc y) = some l) : x = y := K.inj x y hx hy (K.keyed.inj h1 h2)
theorem MapG.store (K : KeyEnc P kt enc ok) {w : World} {b n : Nat} {M : α → Option Value} (h : MapG P kt enc ok w b n M) {t e : TypeId} (ht : P.underlying t = some (.map kt e)) (hn : n < maxLen) (x : α) (hx : ok x) (v : Value) :
    ∃ w', (Instr.mapUpdate t (.map (some b)) (enc x) v).run P w = .ok () w' ∧ MapG P kt enc ok w' b (n + 1) (putG M x v) ∧ w.grownBy w' (some b) := by
 obtain ⟨D, hD, hM⟩ := h
 obtain ⟨l, hl⟩ := K.has x hx
 obtain ⟨w', hrun, hown, ht'⟩ := hD.store K.keyed ht hn hl (d := .held v) (ps := []) rfl
 refine ⟨w', hrun, ⟨_, hown, fun y hy ly hly z => ?_⟩, ht'.grown⟩
 unfold putG
 by_cases e : y = x
 · subst e
   obtain rfl : ly = l := by rw [hl] at hly; injection hly with h; exact h.symm
   rw [if_pos rfl, Maps.atKey_put_same hD.isMap (K.keyed.key hl)]
 · rw [if_neg e, Maps.atKey_put_other (fun q : ly = l => e (K.lit_inj hy hx hly (by rw [q]; exact hl))), hM y hy ly hly]
theorem MapG.drop (K : KeyEnc P kt enc ok) {w : World} {b n : Nat} {M : α → Option Value} (h : MapG P kt enc ok w b n M) {t e : TypeId} (ht : P.underlying t = some (.map kt e)) (ty : TypeId) (x : α) (hx : ok x) :
    ∃ w', (Builtin.delete_ #[t, kt] ty #[.map (some b), enc x]).run P w = .ok (.tuple #[]) w' ∧ MapG P kt enc ok w' b n (delG M x) ∧ w.grownBy w' (some b) := by
 obtain ⟨D, hD, hM⟩ := h
 obtain ⟨l, hl⟩ := K.has x hx
 obtain ⟨w', hrun, hown, ht'⟩ := hD.drop K.keyed ht hl ty
 refine ⟨w', hrun, ⟨_, hown, fun y hy ly hly z => ?_⟩, ht'.grown⟩
 unfold delG
 by_cases e : y = x
 · subst e
   obtain rfl : ly = l := by rw [hl] at hly; injection hly with h; exact h.symm
   rw [if_pos rfl, Maps.atKey_del_same]
 · rw [if_neg e, Maps.atKey_del_other (fun q : ly = l => e (K.lit_inj hy hx hly (by rw [q]; exact hl))), hM y hy ly hly]
end
theorem u8_wfG {a : Int} (h1 : 0 ≤ a) (h2 : a ≤ 255) : (Lit.int .u8 a).wf = true := by
 show (decide ((0 : Int) ≤ a) && decide (a ≤ 255)) = true
 simp; omega
theorem u32_wfG {a : Int} (h1 : 0 ≤ a) (h2 : a ≤ 4294967295) : (Lit.int .u32 a).wf = true := by
 show (decide ((0 : Int) ≤ a) && decide (a ≤ 4294967295)) = true
 simp; omega
section
variable {P : Program}
theorem litsU8G {t : TypeId} (hu : P.underlying t = some (.int .u8)) (d : Nat) (a : Int) (h1 : 0 ≤ a) (h2 : a ≤ 255) : P.keyLits (d + 1) t [.int .u8 a] = some [.int .u8 a] := by
 unfold Program.keyLits; simp [hu, u8_wfG h1 h2]
theorem litsU32G {t : TypeId} (hu : P.underlying t = some (.int .u32)) (d : Nat) (a : Int) (h1 : 0 ≤ a) (h2 : a ≤ 4294967295) : P.keyLits (d + 1) t [.int .u32 a] = some [.int .u32 a] := by
 unfold Program.keyLits; simp [hu, u32_wfG h1 h2]
end
def Flat (P : Program) (d : Nat) (t : TypeId) (cs : List Value) : Prop := ∃ L, P.keyLits d t cs = some L
theorem mapM_some {α β : Type} (f : α → Option β) : ∀ l : List α, (∀ x ∈ l, ∃ y, f x = some y) → ∃ ys, l.mapM f = some ys
 | [], _ => ⟨[], by simp⟩
 | x :: l, h => by
  obtain ⟨y, hy⟩ := h x (by simp)
  obtain ⟨ys, hys⟩ := mapM_some f l (fun z hz => h z (by simp [hz]))
  exact ⟨y :: ys, by simp [List.mapM_cons, hy, hys]⟩
section
variable {P : Program} {d : Nat} {t : TypeId}
theorem flat_u8 (hu : P.underlying t = some (.int .u8)) (a : Int) (h1 : 0 ≤ a) (h2 : a ≤ 255) : Flat P (d + 1) t [.int .u8 a] := ⟨_, litsU8G hu d a h1 h2⟩
theorem flat_u32 (hu : P.underlying t = some (.int .u32)) (a : Int) (h1 : 0 ≤ a) (h2 : a ≤ 4294967295) : Flat P (d + 1) t [.int .u32 a] := ⟨_, litsU32G hu d a h1 h2⟩
theorem flat_bool (hu : P.underlying t = some .bool) (b : Bool) : Flat P (d + 1) t [.bool b] := ⟨[.bool b], by unfold Program.keyLits; simp [hu]⟩
theorem flat_arr {n c : Nat} {e : TypeId} {cs : List Value} (hu : P.underlying t = some (.array n e)) (hc : P.cellsOf e = c) (hl : cs.length = P.cellsOf t) (h : ∀ i, i < n → Flat P d e ((cs.drop (i * c)).take c)) : Flat P (d + 1) t cs := by
 obtain ⟨ys, hys⟩ := mapM_some (fun i => P.keyLits d e ((cs.drop (i * P.cellsOf e)).take (P.cellsOf e))) (List.range n) (fun i hi => by
  rw [hc]; exact h i (List.mem_range.1 hi))
 refine ⟨ys.flatten, ?_⟩
 unfold Program.keyLits
 simp only [hu, hl, if_true, hys, Option.map_some]
theorem flat_row32 {n : Nat} {e : TypeId} {l : List Int} (hu : P.underlying t = some (.array n e)) (hue : P.underlying e = some (.int .u32)) (hc : P.cellsOf e = 1) (ht : P.cellsOf t = n) (hl : l.length = n) (hb : ∀ v ∈ l, 0 ≤ v ∧ v ≤ 4294967295) : Flat P (d + 1 + 1) t (l.map (Value.int .u32)) :=
 flat_arr hu hc (by rw [List.length_map, hl, ht]) fun i hi => by
  have h1 : i < l.length := by omega
  have := hb _ (List.getElem_mem h1)
  rw [Nat.mul_one, ← List.map_drop, ← List.map_take, List.drop_eq_getElem_cons h1]
  exact flat_u32 hue _ this.1 this.2
theorem flat_struct {fs : Array Field} {cs : List Value} {tl : List (TypeId × Nat × Nat)} (hu : P.underlying t = some (.struct fs)) (hn : fs.all (·.name != "_") = true) (hl : cs.length = P.cellsOf t)
    (hm : fs.toList.map (fun f => (f.type, f.offset, P.cellsOf f.type)) = tl) (h : ∀ p ∈ tl, Flat P d p.1 ((cs.drop p.2.1).take p.2.2)) : Flat P (d + 1) t cs := by
 obtain ⟨ys, hys⟩ := mapM_some (fun f : Field => P.keyLits d f.type ((cs.drop f.offset).take (P.cellsOf f.type))) fs.toList (fun f hf => h (f.type, f.offset, P.cellsOf f.type) (by rw [← hm]; exact List.mem_map_of_mem hf))
 refine ⟨ys.flatten, ?_⟩
 unfold Program.keyLits
 simp only [hu, hl, hn, and_self, if_true, hys, Option.map_some]
theorem key_of_flat {cs : List Value} (hwide : (match P.underlying t with | some (.array _ _) | some (.struct _) => true | _ => false) = true) (hk : P.keyType t = true) (hl : cs.length = P.cellsOf t) (h : Flat P (P.types.size + 1) t cs) : ∃ l, keyOf P t (.agg cs.toArray) = some l := by
 obtain ⟨L, hL⟩ := h
 have hf : Value.formed P t (.agg cs.toArray) = true := by
  unfold Value.formed
  cases hu : P.underlying t with
  | none => simp [hu] at hwide
  | some q => cases q <;> simp_all
 refine ⟨.string (keyBytes L), ?_⟩
 unfold keyOf
 cases hu : P.underlying t with
 | none => simp [hu] at hwide
 | some q => cases q <;> simp_all [Value.cells]
end
section
variable {P : Program} {kt : TypeId} {α : Type} [DecidableEq α] {enc : α → Value} {ok : α → Prop}
theorem KeyEnc.equal (K : KeyEnc P kt enc ok) {m : Nat} (hm : m ≤ 10000) (hk : P.keyTypeAt m kt = true) (hwide : (match P.underlying kt with | some (.array _ _) | some (.struct _) => true | _ => false) = true) (x y : α) (hx : ok x) (hy : ok y) (w : World) :
    (Op.equal kt (enc x) (enc y)).run P w = .ok (decide (x = y)) w := by
 obtain ⟨lx, h1⟩ := K.has x hx
 obtain ⟨ly, h2⟩ := K.has y hy
 obtain ⟨r, hr, hi⟩ := run_equal_deep w hm hk hwide h1 h2
 rw [hr]
 have : r = decide (x = y) := by
  rw [Bool.eq_iff_iff, hi, decide_eq_true_iff]
  constructor
  · intro e; subst e; exact K.lit_inj hx hy h1 h2
  · intro e; subst e; rw [h1] at h2; injection h2
 rw [this]
theorem KeyEnc.eql (K : KeyEnc P kt enc ok) {cx cy : Array Value} {m : Nat} (hm : m ≤ 10000) (hk : P.keyTypeAt m kt = true) (hwide : (match P.underlying kt with | some (.array _ _) | some (.struct _) => true | _ => false) = true) (x y : α) (hx : ok x) (hy : ok y) (ex : enc x = .agg cx) (ey : enc y = .agg cy) (w : World) :
    (binOp .eql kt (.agg cx) (.agg cy)).run P w = .ok (.bool (decide (x = y))) w := by
 have h := K.equal hm hk hwide x y hx hy w
 rw [ex, ey] at h
 rw [run_eql_struct, show Op.equalIn 10000 kt (.agg cx) (.agg cy) = Op.equal kt (.agg cx) (.agg cy) from rfl, h]; rfl
theorem KeyEnc.neq (K : KeyEnc P kt enc ok) {cx cy : Array Value} {m : Nat} (hm : m ≤ 10000) (hk : P.keyTypeAt m kt = true) (hwide : (match P.underlying kt with | some (.array _ _) | some (.struct _) => true | _ => false) = true) (x y : α) (hx : ok x) (hy : ok y) (ex : enc x = .agg cx) (ey : enc y = .agg cy) (w : World) :
    (binOp .neq kt (.agg cx) (.agg cy)).run P w = .ok (.bool (!decide (x = y))) w := by
 have h := K.equal hm hk hwide x y hx hy w
 rw [ex, ey] at h
 rw [run_neq_struct, show Op.equalIn 10000 kt (.agg cx) (.agg cy) = Op.equal kt (.agg cx) (.agg cy) from rfl, h]; rfl
end
theorem manyTypes : ∃ m, Tryz.prog.types.size + 1 = m + 1 + 1 + 1 + 1 + 1 + 1 := by
 have h : Nat.ble 6 Tryz.prog.types.size = true := by kernel_rfl
 exact ⟨Tryz.prog.types.size - 5, by have := Nat.le_of_ble_eq_true h; omega⟩
theorem mapI_inj {k : IntKind} {l m : List Int} (h : l.map (Value.int k) = m.map (Value.int k)) : l = m := (List.map_inj_right (fun x y e => by injection e)).1 h
open Go.RowKit Go.Shelf
def okDF (x : Int × Int) : Prop := (0 ≤ x.1 ∧ x.1 ≤ 255) ∧ (0 ≤ x.2 ∧ x.2 ≤ 4294967295)
theorem encF_inj {x y : Int × Int} (e : encF x = encF y) : x = y := by
 obtain ⟨a, b⟩ := x
 obtain ⟨c, d⟩ := y
 simp only [encF, dotC] at e
 injection e with e1 e2
 injection e2 with e2 _
 injection e1 with _ e1
 injection e2 with _ e2
 rw [e1, e2]
theorem flatDotF (d : Nat) (x : Int × Int) (h : okDF x) : Flat Tryz.prog (d + 1 + 1) 40 (encF x) :=
 flat_struct Tryz.underlying40 (by kernel_rfl) (by show (2 : Nat) = _; kernel_rfl) (tl := [(5, 0, 1), (35, 1, 1)]) (by kernel_rfl) fun p hp => by
  simp only [List.mem_cons, List.not_mem_nil, or_false] at hp
  rcases hp with rfl | rfl
  · exact flat_u8 Tryz.underlying5 _ h.1.1 h.1.2
  · exact flat_u32 Tryz.underlying35 _ h.2.1 h.2.2
def encDF (x : Int × Int) : Value := .agg (encF x).toArray
theorem keyEncDF : KeyEnc Tryz.prog 40 encDF okDF where
 keyed := Go.Maps.Keyed.of_law (deep_law (m := 4) (by omega) (by kernel_rfl) (by kernel_rfl) (by kernel_rfl))
 has := fun k h => by
  obtain ⟨m, hm⟩ := manyTypes
  exact key_of_flat (by kernel_rfl) (by kernel_rfl) (by show (2 : Nat) = _; kernel_rfl) (by rw [hm]; exact flatDotF _ k h)
 inj := fun x y _ _ e => encF_inj (by unfold encDF at e; injection e with e; simpa using e)
def sideC (s : (Int × Int) × Bool) : List Value := encF s.1 ++ [.bool s.2]
def encS (s : (Int × Int) × Bool) : Value := .agg (sideC s).toArray
def okS (s : (Int × Int) × Bool) : Prop := okDF s.1
theorem sideC_len (s : (Int × Int) × Bool) : (sideC s).length = 3 := rfl
theorem sideC_inj {s t : (Int × Int) × Bool} (e : sideC s = sideC t) : s = t := by
 obtain ⟨x, a⟩ := s
 obtain ⟨y, b⟩ := t
 unfold sideC at e
 obtain ⟨e1, e2⟩ := List.append_inj e rfl
 injection e2 with e2 _
 injection e2 with e2
 simp only at e1 e2
 rw [encF_inj e1, e2]
theorem flatSide (d : Nat) (s : (Int × Int) × Bool) (h : okS s) : Flat Tryz.prog (d + 1 + 1 + 1) 117 (sideC s) :=
 flat_struct Tryz.underlying117 (by kernel_rfl) (by rw [sideC_len]; kernel_rfl) (tl := [(40, 0, 2), (4, 2, 1)]) (by kernel_rfl) fun p hp => by
  simp only [List.mem_cons, List.not_mem_nil, or_false] at hp
  rcases hp with rfl | rfl
  · exact flatDotF d _ h
  · exact flat_bool Tryz.underlying4 _
theorem keyEncS : KeyEnc Tryz.prog 117 encS okS where
 keyed := Go.Maps.Keyed.of_law (deep_law (m := 5) (by omega) (by kernel_rfl) (by kernel_rfl) (by kernel_rfl))
 has := fun k h => by
  obtain ⟨m, hm⟩ := manyTypes
  exact key_of_flat (by kernel_rfl) (by kernel_rfl) (by rw [sideC_len]; kernel_rfl) (by rw [hm]; exact flatSide _ k h)
 inj := fun x y _ _ e => sideC_inj (by unfold encS at e; injection e with e; simpa using e)
def aheadD (x y : Int × Int) : Prop := x.1 < y.1 ∨ x.1 = y.1 ∧ x.2 < y.2
theorem cmpD_neg (x y : Int × Int) : cmpD x y < 0 ↔ aheadD x y := by
 unfold cmpD aheadD cmpI
 repeat' split
 all_goals omega
theorem aheadD.trans {x y z : Int × Int} (h : aheadD x y) (h' : aheadD y z) : aheadD x z := by unfold aheadD at *; omega
theorem aheadD.irrefl (x : Int × Int) : ¬ aheadD x x := by unfold aheadD; omega
theorem aheadD_or {x y : Int × Int} (h : x ≠ y) : aheadD x y ∨ aheadD y x := by
 obtain ⟨a, b⟩ := x
 obtain ⟨c, d⟩ := y
 have : ¬ (a = c ∧ b = d) := fun e => h (by rw [e.1, e.2])
 unfold aheadD
 simp only
 omega
abbrev inOrderD (ds : List (Int × Int)) : Prop := ds.Pairwise aheadD
theorem inOrderD.mono {ds : List (Int × Int)} (h : inOrderD ds) (t : Int × Int) (i j : Nat) (hj : j < ds.length) (hij : i ≤ j) (hc : cmpD ds[j] t < 0) : cmpD (ds[i]'(by omega)) t < 0 := by
 rcases Nat.lt_or_eq_of_le hij with h1 | rfl
 · exact (cmpD_neg _ _).2 ((List.pairwise_iff_getElem.1 h i j (by omega) hj h1).trans ((cmpD_neg _ _).1 hc))
 · exact hc
def insD (ds : List (Int × Int)) (t : Int × Int) : List (Int × Int) := ds.take (posD ds t) ++ [t] ++ ds.drop (posD ds t)
theorem insD_nil (t : Int × Int) : insD [] t = [t] := rfl
theorem insD_cons (a t : Int × Int) (ds : List (Int × Int)) : insD (a :: ds) t = if cmpD a t < 0 then a :: insD ds t else t :: a :: ds := by
 unfold insD posD
 by_cases h : cmpD a t < 0
 · rw [List.takeWhile_cons_of_pos (by simpa using h), if_pos h]; simp
 · rw [List.takeWhile_cons_of_neg (by simpa using h), if_neg h]; simp
theorem mem_insD {ds : List (Int × Int)} {t x : Int × Int} : x ∈ insD ds t ↔ x = t ∨ x ∈ ds := by
 induction ds with
 | nil => simp [insD_nil]
 | cons a ds ih =>
  rw [insD_cons]
  split
  · rw [List.mem_cons, ih, List.mem_cons]
    constructor
    · rintro (h | h | h)
      · exact .inr (.inl h)
      · exact .inl h
      · exact .inr (.inr h)
    · rintro (h | h | h)
      · exact .inr (.inl h)
      · exact .inl h
      · exact .inr (.inr h)
  · exact List.mem_cons
theorem length_insD (ds : List (Int × Int)) (t : Int × Int) : (insD ds t).length = ds.length + 1 := by
 induction ds with
 | nil => rfl
 | cons a ds ih => rw [insD_cons]; split <;> simp [ih]
theorem sorted_insD {ds : List (Int × Int)} (h : inOrderD ds) (t : Int × Int) (hn : t ∉ ds) : inOrderD (insD ds t) := by
 induction ds with
 | nil => rw [insD_nil]; exact List.pairwise_singleton _ _
 | cons a ds ih =>
  obtain ⟨h1, h2⟩ := List.pairwise_cons.1 h
  rw [insD_cons]
  split
  · next hc =>
    refine List.pairwise_cons.2 ⟨fun x hx => ?_, ih h2 (fun e => hn (List.mem_cons_of_mem _ e))⟩
    rcases mem_insD.1 hx with rfl | hx
    · exact (cmpD_neg _ _).1 hc
    · exact h1 x hx
  · next hc =>
    have hlt : aheadD t a := by
     rcases aheadD_or (x := t) (y := a) (fun e => hn (by rw [e]; exact List.mem_cons_self)) with h | h
     · exact h
     · exact absurd ((cmpD_neg _ _).2 h) hc
    refine List.pairwise_cons.2 ⟨fun x hx => ?_, h⟩
    rcases List.mem_cons.1 hx with rfl | hx
    · exact hlt
    · exact hlt.trans (h1 x hx)
theorem posD_le (ds : List (Int × Int)) (t : Int × Int) : posD ds t ≤ ds.length := (List.takeWhile_prefix _).length_le
theorem map_insD (ds : List (Int × Int)) (t : Int × Int) : (ds.map encF).take (posD ds t) ++ [encF t] ++ (ds.map encF).drop (posD ds t) = (insD ds t).map encF := by
 simp [insD]
structure Nd where
 id : Int × Int
 side : (Int × Int) × Bool
 chr : Int
deriving DecidableEq
def kids (N : List Nd) (s : (Int × Int) × Bool) : List (Int × Int) := N.foldl (fun l n => if n.side = s then insD l n.id else l) []
theorem kids_nil (s : (Int × Int) × Bool) : kids [] s = [] := rfl
theorem kids_snoc (N : List Nd) (n : Nd) (s : (Int × Int) × Bool) : kids (N ++ [n]) s = if n.side = s then insD (kids N s) n.id else kids N s := by
 unfold kids; rw [List.foldl_append]; rfl
theorem snoc_ind {α : Type} {p : List α → Prop} (h0 : p []) (h1 : ∀ l a, p l → p (l ++ [a])) (l : List α) : p l := by
 have : ∀ l : List α, p l.reverse := fun l => by
  induction l with
  | nil => exact h0
  | cons a l ih => rw [List.reverse_cons]; exact h1 _ _ ih
 have h := this l.reverse
 rwa [List.reverse_reverse] at h
theorem mem_kids {N : List Nd} {s : (Int × Int) × Bool} {x : Int × Int} : x ∈ kids N s ↔ ∃ n ∈ N, n.side = s ∧ n.id = x := by
 induction N using snoc_ind with
 | h0 => simp [kids_nil]
 | h1 N n ih =>
  rw [kids_snoc]
  split
  · next h =>
    rw [mem_insD, ih]
    constructor
    · rintro (h' | ⟨m, hm, h'⟩)
      · exact ⟨n, by simp, h, h'.symm⟩
      · exact ⟨m, by simp [hm], h'⟩
    · rintro ⟨m, hm, h1, h2⟩
      rcases List.mem_append.1 hm with hm | hm
      · exact .inr ⟨m, hm, h1, h2⟩
      · rw [List.mem_singleton.1 hm] at h2; exact .inl h2.symm
  · next h =>
    rw [ih]
    constructor
    · rintro ⟨m, hm, h'⟩
      exact ⟨m, by simp [hm], h'⟩
    · rintro ⟨m, hm, h1, h2⟩
      rcases List.mem_append.1 hm with hm | hm
      · exact ⟨m, hm, h1, h2⟩
      · rw [List.mem_singleton.1 hm] at h1; exact absurd h1 h
theorem kids_order {N : List Nd} (hN : (N.map (·.id)).Nodup) (s : (Int × Int) × Bool) : inOrderD (kids N s) := by
 induction N using snoc_ind with
 | h0 => exact List.Pairwise.nil
 | h1 N n ih =>
  rw [List.map_append, List.nodup_append] at hN
  obtain ⟨h1, _, h3⟩ := hN
  rw [kids_snoc]
  split
  · refine sorted_insD (ih h1) _ fun e => ?_
    obtain ⟨m, hm, _, e⟩ := mem_kids.1 e
    exact h3 m.id (List.mem_map_of_mem hm) n.id (by simp) e
  · exact ih h1
theorem kids_few (N : List Nd) (s : (Int × Int) × Bool) : (kids N s).length ≤ N.length := by
 induction N using snoc_ind with
 | h0 => simp [kids_nil]
 | h1 N n ih =>
  rw [kids_snoc, List.length_append, List.length_singleton]
  split
  · rw [length_insD]; omega
  · omega
section
variable {P : Program} {kt : TypeId} {α : Type} [DecidableEq α] {enc : α → Value} {ok : α → Prop}
def MapX (P : Program) (kt : TypeId) (enc : α → Value) (ok : α → Prop) (w : World) (b n : Nat) (M : α → Option Value) : Prop :=
 ∃ D : DataW Value, w.ownsMap P kt rawE b n D ∧ Maps.size D = n ∧ ∀ x, ok x → ∀ l, keyOf P kt (enc x) = some l → ∀ z, D.atKey l z = (match M x with | some v => .held v | none => z)
theorem MapX.g {w : World} {b n : Nat} {M : α → Option Value} (h : MapX P kt enc ok w b n M) : MapG P kt enc ok w b n M := by
 obtain ⟨D, h, _, h'⟩ := h
 exact ⟨D, h, h'⟩
theorem MapX.made (w : World) : MapX P kt enc ok (w.alloc (.map #[] 0)) w.heap.size 0 (fun _ => none) := ⟨_, World.ownsMap_made w _ _ _, rfl, fun _ _ _ _ _ => rfl⟩
theorem MapX.lt {w : World} {b n : Nat} {M : α → Option Value} (h : MapX P kt enc ok w b n M) : b < w.heap.size := h.g.lt
theorem MapX.congr {w w' : World} {b n : Nat} {M : α → Option Value} (h : MapX P kt enc ok w b n M) (he : w'.heap[b]? = w.heap[b]?) : MapX P kt enc ok w' b n M := by
 obtain ⟨D, ⟨es, cl, hb, r⟩, hM⟩ := h
 exact ⟨D, ⟨es, cl, he.trans hb, r⟩, hM⟩
theorem MapX.len {w : World} {b n : Nat} {M : α → Option Value} (h : MapX P kt enc ok w b n M) {t e : TypeId} (ht : P.underlying t = some (.map kt e)) (ty : TypeId) : (Builtin.len_ #[t] ty #[.map (some b)]).run P w = .ok (.int .i64 n) w := by
 obtain ⟨D, hD, hsz, _⟩ := h
 rw [hD.len ht ty, hsz]
theorem MapX.store (K : KeyEnc P kt enc ok) {w : World} {b n : Nat} {M : α → Option Value} (h : MapX P kt enc ok w b n M) {t e : TypeId} (ht : P.underlying t = some (.map kt e)) (hn : n < maxLen) (x : α) (hx : ok x) (v : Value) :
    ∃ w', (Instr.mapUpdate t (.map (some b)) (enc x) v).run P w = .ok () w' ∧ MapX P kt enc ok w' b (if (M x).isSome then n else n + 1) (putG M x v) ∧ w.grownBy w' (some b) := by
 obtain ⟨D, hD, hsz, hM⟩ := h
 obtain ⟨l, hl⟩ := K.has x hx
 have h2 := hM x hx l hl
 have h1 : Maps.has D l = (M x).isSome := by
  cases hv : M x with
  | none => exact Maps.has_false_of_atKey fun z => by rw [h2, hv]
  | some v => exact Maps.has_true_of_atKey (y := .held v) fun z => by rw [h2, hv]
 obtain ⟨w', hrun, hown, ht'⟩ := hD.store K.keyed ht hn hl (d := .held v) (ps := []) rfl
 have hs := Maps.size_put (k := l) (hD.tidy K.keyed) (.held v)
 rw [h1, hsz] at hs
 have hown' := owns_tight hown
 rw [hs] at hown'
 refine ⟨w', hrun, ⟨_, hown', hs, fun y hy ly hly z => ?_⟩, ht'.grown⟩
 unfold putG
 by_cases e : y = x
 · subst e
   obtain rfl : ly = l := by rw [hl] at hly; injection hly with h; exact h.symm
   rw [if_pos rfl, Maps.atKey_put_same hD.isMap (K.keyed.key hl)]
 · rw [if_neg e, Maps.atKey_put_other (fun q : ly = l => e (K.lit_inj hy hx hly (by rw [q]; exact hl))), hM y hy ly hly]
end
def chrN (N : List Nd) (x : Int × Int) : Option Int := (N.find? (fun n => decide (n.id = x))).map (·.chr)
theorem chrN_some {N : List Nd} {x : Int × Int} : (chrN N x).isSome = true ↔ ∃ n ∈ N, n.id = x := by
 unfold chrN
 rw [Option.isSome_map, List.find?_isSome]
 simp
theorem chrN_snoc (N : List Nd) (n : Nd) (hn : ∀ m ∈ N, m.id ≠ n.id) (x : Int × Int) : chrN (N ++ [n]) x = if x = n.id then some n.chr else chrN N x := by
 unfold chrN
 rw [List.find?_append]
 by_cases h : x = n.id
 · rw [if_pos h, List.find?_eq_none.2 (fun m hm => by rw [h]; simpa using hn m hm)]
   simp [h]
 · rw [if_neg h]
   have : ([n].find? (fun m => decide (m.id = x))) = none := by simp [Ne.symm h]
   rw [this, Option.or_none]
def chrM (N : List Nd) (x : Int × Int) : Option Value := (chrN N x).map (Value.int .u8)
structure SidesAt (w : World) (base R bc bn : Nat) (N : List Nd) (V : (Int × Int) × Bool → Value) : Prop where
 own : ∀ s, okS s → OwnI w base 40 2 (V s) ((kids N s).map encF)
 apart : ∀ s t, okS s → okS t → s ≠ t → ∀ k, (V s).ownBlock = some k → (V t).ownBlock ≠ some k
 far : ∀ s, okS s → (V s).ownBlock ≠ some R ∧ (V s).ownBlock ≠ some bc ∧ (V s).ownBlock ≠ some bn
def sideM (N : List Nd) (V : (Int × Int) × Bool → Value) (s : (Int × Int) × Bool) : Option Value := if kids N s = [] then none else some (V s)
structure TreeAt (w : World) (base R bc bn : Nat) (N : List Nd) (V : (Int × Int) × Bool → Value) : Prop where
 box : CellsAt w R 113 [.map (some bc), .map (some bn)]
 chars : MapX Tryz.prog 40 encDF okDF w bc N.length (chrM N)
 nodes : MapG Tryz.prog 117 encS okS w bn N.length (sideM N V)
 sides : SidesAt w base R bc bn N V
 empty : ∀ s, okS s → kids N s = [] → V s = .slice none 0 0
 nodup : (N.map (·.id)).Nodup
 okId : ∀ n ∈ N, okDF n.id ∧ okS n.side
 okChr : ∀ n ∈ N, 0 ≤ n.chr ∧ n.chr ≤ 127
 ne : bc ≠ bn
def treeP (R bc bn : Nat) (V : (Int × Int) × Bool → Value) (k : Nat) : Prop := k = R ∨ k = bc ∨ k = bn ∨ ∃ s, okS s ∧ (V s).ownBlock = some k
theorem TreeAt.congr {w w' : World} {base R bc bn : Nat} {N : List Nd} {V : (Int × Int) × Bool → Value} (h : TreeAt w base R bc bn N V) (hk : ∀ k, treeP R bc bn V k → w'.heap[k]? = w.heap[k]?) : TreeAt w' base R bc bn N V :=
 { box := h.box.congr (hk R (.inl rfl))
   chars := h.chars.congr (hk bc (.inr (.inl rfl)))
   nodes := h.nodes.congr (hk bn (.inr (.inr (.inl rfl))))
   sides := ⟨fun s hs => (h.sides.own s hs).congr fun g hg => hk g (.inr (.inr (.inr ⟨s, hs, hg⟩))), h.sides.apart, h.sides.far⟩
   empty := h.empty, nodup := h.nodup, okId := h.okId, okChr := h.okChr, ne := h.ne }
theorem TreeAt.blockLt {w : World} {base R bc bn : Nat} {N : List Nd} {V : (Int × Int) × Bool → Value} (h : TreeAt w base R bc bn N V) (k : Nat) (hk : treeP R bc bn V k) : k < w.heap.size := by
 rcases hk with rfl | rfl | rfl | ⟨s, hs, hk⟩
 · exact h.box.lt
 · exact h.chars.lt
 · exact h.nodes.lt
 · exact ((h.sides.own s hs).blockLt k hk).1
theorem TreeAt.far {w w' : World} {base R bc bn : Nat} {N : List Nd} {V : (Int × Int) × Bool → Value} (h : TreeAt w base R bc bn N V) (hb : Below w.heap.size w w') : TreeAt w' base R bc bn N V := h.congr fun k hk => hb.block k (h.blockLt k hk)
end Go.Proofs.YtmbdohnmbkpfaaaGreat
