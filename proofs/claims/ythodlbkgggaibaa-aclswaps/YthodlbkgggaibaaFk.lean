/- Flat things (numbers, arrays and structs of them) as keys, and compared: digests, heads, links, proofs, dots. -/
import Derived.Test.YthodlbkgggaibaaMg
import Derived.Laws.StructEq
namespace Go.Proofs.Ythodlbkgggaibaa
open Go.RowKit
set_option maxRecDepth 20000
set_option linter.unusedSimpArgs false
set_option linter.unusedSectionVars false

/-- The cells are those of a flat thing of type t. -/
def Flat (P : Program) (d : Nat) (t : TypeId) (cs : List Value) : Prop := ∃ L, P.keyLits d t cs = some L
theorem mapM_some {α β : Type} (f : α → Option β) : ∀ l : List α, (∀ x ∈ l, ∃ y, f x = some y) → ∃ ys, l.mapM f = some ys
  | [], _ => ⟨[], by simp⟩
  | x :: l, h => by
    obtain ⟨y, hy⟩ := h x (by simp)
    obtain ⟨ys, hys⟩ := mapM_some f l (fun z hz => h z (by simp [hz]))
    exact ⟨y :: ys, by simp [List.mapM_cons, hy, hys]⟩
section
variable {P : Program} {d : Nat} {t : TypeId}
theorem flat_u8 (hu : P.underlying t = some (.int .u8)) (a : Int) (h1 : 0 ≤ a) (h2 : a ≤ 255) : Flat P (d + 1) t [.int .u8 a] := ⟨_, litsU8G hu d a h1 h2⟩
theorem flat_u32 (hu : P.underlying t = some (.int .u32)) (a : Int) (h1 : 0 ≤ a) (h2 : a ≤ 4294967295) : Flat P (d + 1) t [.int .u32 a] := ⟨_, litsU32G hu d a h1 h2⟩
theorem flat_bool (hu : P.underlying t = some .bool) (b : Bool) : Flat P (d + 1) t [.bool b] := ⟨[.bool b], by unfold Program.keyLits; simp [hu]⟩
theorem flat_arr {n c : Nat} {e : TypeId} {cs : List Value} (hu : P.underlying t = some (.array n e)) (hc : P.cellsOf e = c) (hl : cs.length = P.cellsOf t) (h : ∀ i, i < n → Flat P d e ((cs.drop (i * c)).take c)) : Flat P (d + 1) t cs := by
  obtain ⟨ys, hys⟩ := mapM_some (fun i => P.keyLits d e ((cs.drop (i * P.cellsOf e)).take (P.cellsOf e))) (List.range n) (fun i hi => by
    rw [hc]; exact h i (List.mem_range.1 hi))
  refine ⟨ys.flatten, ?_⟩
  unfold Program.keyLits
  simp only [hu, hl, if_true, hys, Option.map_some]
theorem flat_row {n : Nat} {e : TypeId} {l : List Int} (hu : P.underlying t = some (.array n e)) (hue : P.underlying e = some (.int .u8)) (hc : P.cellsOf e = 1) (ht : P.cellsOf t = n) (hl : l.length = n) (hb : isB8 l) : Flat P (d + 1 + 1) t (l.map (Value.int .u8)) :=
  flat_arr hu hc (by rw [List.length_map, hl, ht]) fun i hi => by
    have h1 : i < l.length := by omega
    have := hb _ (List.getElem_mem h1)
    rw [Nat.mul_one, ← List.map_drop, ← List.map_take, List.drop_eq_getElem_cons h1]
    exact flat_u8 hue _ this.1 this.2
theorem flat_row32 {n : Nat} {e : TypeId} {l : List Int} (hu : P.underlying t = some (.array n e)) (hue : P.underlying e = some (.int .u32)) (hc : P.cellsOf e = 1) (ht : P.cellsOf t = n) (hl : l.length = n) (hb : ∀ v ∈ l, 0 ≤ v ∧ v ≤ 4294967295) : Flat P (d + 1 + 1) t (l.map (Value.int .u32)) :=
  flat_arr hu hc (by rw [List.length_map, hl, ht]) fun i hi => by
    have h1 : i < l.length := by omega
    have := hb _ (List.getElem_mem h1)
    rw [Nat.mul_one, ← List.map_drop, ← List.map_take, List.drop_eq_getElem_cons h1]
    exact flat_u32 hue _ this.1 this.2
theorem flat_struct {fs : Array Field} {cs : List Value} {tl : List (TypeId × Nat × Nat)} (hu : P.underlying t = some (.struct fs)) (hn : fs.all (·.name != "_") = true) (hl : cs.length = P.cellsOf t)
    (hm : fs.toList.map (fun f => (f.type, f.offset, P.cellsOf f.type)) = tl) (h : ∀ p ∈ tl, Flat P d p.1 ((cs.drop p.2.1).take p.2.2)) : Flat P (d + 1) t cs := by
  obtain ⟨ys, hys⟩ := mapM_some (fun f : Field => P.keyLits d f.type ((cs.drop f.offset).take (P.cellsOf f.type))) fs.toList (fun f hf => h (f.type, f.offset, P.cellsOf f.type) (by rw [← hm]; exact List.mem_map_of_mem hf))
  refine ⟨ys.flatten, ?_⟩
  unfold Program.keyLits
  simp only [hu, hl, hn, and_self, if_true, hys, Option.map_some]
theorem key_of_flat {cs : List Value} (hwide : (match P.underlying t with | some (.array _ _) | some (.struct _) => true | _ => false) = true) (hk : P.keyType t = true) (hl : cs.length = P.cellsOf t) (h : Flat P (P.types.size + 1) t cs) : ∃ l, keyOf P t (.agg cs.toArray) = some l := by
  obtain ⟨L, hL⟩ := h
  have hf : Value.formed P t (.agg cs.toArray) = true := by
    unfold Value.formed
    cases hu : P.underlying t with
    | none => simp [hu] at hwide
    | some q => cases q <;> simp_all
  refine ⟨.string (keyBytes L), ?_⟩
  unfold keyOf
  cases hu : P.underlying t with
  | none => simp [hu] at hwide
  | some q => cases q <;> simp_all [Value.cells]
end
section
variable {P : Program} {kt : TypeId} {α : Type} [DecidableEq α] {enc : α → Value} {ok : α → Prop}
/-- Two flat things compared. -/
theorem KeyEnc.equal (K : KeyEnc P kt enc ok) {m : Nat} (hm : m ≤ 10000) (hk : P.keyTypeAt m kt = true) (hwide : (match P.underlying kt with | some (.array _ _) | some (.struct _) => true | _ => false) = true) (x y : α) (hx : ok x) (hy : ok y) (w : World) :
    (Op.equal kt (enc x) (enc y)).run P w = .ok (decide (x = y)) w := by
  obtain ⟨lx, h1⟩ := K.has x hx
  obtain ⟨ly, h2⟩ := K.has y hy
  obtain ⟨r, hr, hi⟩ := run_equal_deep w hm hk hwide h1 h2
  rw [hr]
  have : r = decide (x = y) := by
    rw [Bool.eq_iff_iff, hi, decide_eq_true_iff]
    constructor
    · intro e; subst e; exact K.lit_inj hx hy h1 h2
    · intro e; subst e; rw [h1] at h2; injection h2
  rw [this]
theorem KeyEnc.eql (K : KeyEnc P kt enc ok) {cx cy : Array Value} {m : Nat} (hm : m ≤ 10000) (hk : P.keyTypeAt m kt = true) (hwide : (match P.underlying kt with | some (.array _ _) | some (.struct _) => true | _ => false) = true) (x y : α) (hx : ok x) (hy : ok y) (ex : enc x = .agg cx) (ey : enc y = .agg cy) (w : World) :
    (binOp .eql kt (.agg cx) (.agg cy)).run P w = .ok (.bool (decide (x = y))) w := by
  have h := K.equal hm hk hwide x y hx hy w
  rw [ex, ey] at h
  rw [run_eql_struct, show Op.equalIn 10000 kt (.agg cx) (.agg cy) = Op.equal kt (.agg cx) (.agg cy) from rfl, h]; rfl
theorem KeyEnc.neq (K : KeyEnc P kt enc ok) {cx cy : Array Value} {m : Nat} (hm : m ≤ 10000) (hk : P.keyTypeAt m kt = true) (hwide : (match P.underlying kt with | some (.array _ _) | some (.struct _) => true | _ => false) = true) (x y : α) (hx : ok x) (hy : ok y) (ex : enc x = .agg cx) (ey : enc y = .agg cy) (w : World) :
    (binOp .neq kt (.agg cx) (.agg cy)).run P w = .ok (.bool (!decide (x = y))) w := by
  have h := K.equal hm hk hwide x y hx hy w
  rw [ex, ey] at h
  rw [run_neq_struct, show Op.equalIn 10000 kt (.agg cx) (.agg cy) = Op.equal kt (.agg cx) (.agg cy) from rfl, h]; rfl
end
theorem manyTypes : ∃ m, Try.prog.types.size + 1 = m + 1 + 1 + 1 + 1 + 1 + 1 := by
  have h : Nat.ble 6 Try.prog.types.size = true := by kernel_rfl
  exact ⟨Try.prog.types.size - 5, by have := Nat.le_of_ble_eq_true h; omega⟩
theorem row_inj {k : IntKind} {l m : List Int} (h : row k l = row k m) : l = m := by
  have h' : l.map (Value.int k) = m.map (Value.int k) := by simpa [row] using h
  exact (List.map_inj_right (fun x y e => by injection e)).1 h'
theorem mapI_inj {k : IntKind} {l m : List Int} (h : l.map (Value.int k) = m.map (Value.int k)) : l = m := (List.map_inj_right (fun x y e => by injection e)).1 h
end Go.Proofs.Ythodlbkgggaibaa

