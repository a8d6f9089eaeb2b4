/- Bg Bt Oi Bf1 -/
import Derived.Laws.Tables
import Derived.Test.YtmbdohnmbkpfaaaGreatV01
import Derived.Test.YtmbdohnmbkpfaaaGreatV06
import Derived.Maps.AppendAt
import Derived.Laws.AppendOwnNone
import Derived.Great.BuildSlice
namespace Go.Proofs.YtmbdohnmbkpfaaaGreat
open Go.RowKit
set_option maxRecDepth 20000
theorem fold_set (off : Nat) : ∀ (cs : List Value) (k : Nat) (old : List Value), off + k + cs.length ≤ old.length →
    (cs.zipIdx k).foldl (fun (a : Array Value) (p : Value × Nat) => a.setIfInBounds (off + p.2) p.1) old.toArray = (old.take (off + k) ++ cs ++ old.drop (off + k + cs.length)).toArray
 | [], k, old, _ => by simp
 | c :: cs, k, old, h => by
  rw [List.length_cons] at h
  rw [List.zipIdx_cons, List.foldl_cons, sI, fold_set off cs (k + 1) (old.set (off + k) c) (by rw [List.length_set]; omega)]
  congr 1
  have e1 : (old.set (off + k) c).take (off + (k + 1)) = old.take (off + k) ++ [c] := by
   rw [show off + (k + 1) = (off + k) + 1 by omega, List.take_add_one, List.take_set_of_le (Nat.le_refl _), List.getElem?_set_self (by omega)]
   rfl
  have e2 : (old.set (off + k) c).drop (off + (k + 1) + cs.length) = old.drop (off + k + (c :: cs).length) := by
   rw [List.drop_set_of_lt (by omega), List.length_cons]
   congr 1; omega
  rw [e1, e2]
  simp
theorem fill_cons (place : Nat → Option (Nat × Nat)) (old cs : List Value) (i off size : Nat) (v : Value) (rest : List (Nat × Value)) (hp : place i = some (off, size)) (hv : v.cells = cs.toArray) (hs : cs.length = size) (hl : off + size ≤ old.length) :
    Instr.fill place old.toArray ((i, v) :: rest) = Instr.fill place (old.take off ++ cs ++ old.drop (off + size)).toArray rest := by
 rw [Instr.fill, hp]
 simp only [hv, List.size_toArray, hs]
 rw [if_neg (by simp; omega), ← Array.foldl_toList, Array.toList_zipIdx]
 have := fold_set off cs 0 old (by omega)
 simp only [Nat.add_zero] at this
 rw [hs] at this
 rw [← this]
theorem built_of {P : Program} {t : TypeId} {fields : Array Field} {z : List Value} {places : List (Nat × Nat)} (hz : (P.info? t).map (·.zero) = some (some (.agg z.toArray))) (hu : P.underlying t = some (.struct fields)) (hp : fields.toList.mapM (fun f => (P.info? f.type).map fun i => (f.offset, i.size)) = some places) (parts : List (Nat × Value)) :
    P.built t parts = Instr.fill (places.toArray[·]?) z.toArray parts := by
 unfold Program.built
 cases hi : P.info? t with
 | none => simp [hi] at hz
 | some it =>
  have hz' : it.zero = some (.agg z.toArray) := by simpa [hi] using hz
  simp only [hu, hz', hp, Value.cells]
set_option linter.unusedSimpArgs false
def Tiles (place : Nat → Option (Nat × Nat)) : Nat → List (Nat × Value × List Value) → Prop
 | _, [] => True
 | off, x :: L => place x.1 = some (off, x.2.2.length) ∧ x.2.1.cells = x.2.2.toArray ∧ Tiles place (off + x.2.2.length) L
def tileL (L : List (Nat × Value × List Value)) : List Value := (L.map (·.2.2)).flatten
theorem tileL_cons (x : Nat × Value × List Value) (L : List (Nat × Value × List Value)) : tileL (x :: L) = x.2.2 ++ tileL L := by simp [tileL]
theorem fill_tile (place : Nat → Option (Nat × Nat)) : ∀ (L : List (Nat × Value × List Value)) (done tail : List Value), Tiles place done.length L → tail.length = (tileL L).length →
    Instr.fill place (done ++ tail).toArray (L.map fun x => (x.1, x.2.1)) = some (done ++ tileL L).toArray
 | [], done, tail, _, hl => by
  have : tail = [] := List.length_eq_zero_iff.1 (by simpa [tileL] using hl)
  rw [this]; simp [Instr.fill, tileL]
 | x :: L, done, tail, hT, hl => by
  obtain ⟨h1, h2, h3⟩ := hT
  rw [tileL_cons, List.length_append] at hl
  rw [List.map_cons, fill_cons place (done ++ tail) x.2.2 x.1 done.length x.2.2.length x.2.1 _ h1 h2 rfl (by rw [List.length_append]; omega)]
  rw [List.take_left, List.drop_length_add_append, fill_tile place L (done ++ x.2.2) (tail.drop x.2.2.length) (by rw [List.length_append]; exact h3) (by rw [List.length_drop]; omega), tileL_cons, List.append_assoc]
structure OwnI (w : World) (base : Nat) (t : TypeId) (k : Nat) (v : Value) (L : List (List Value)) : Prop where
 own : w.ownsRow base t k v L.length L.flatten
 each : ∀ c ∈ L, c.length = k
theorem flat_len {k : Nat} : ∀ L : List (List Value), (∀ c ∈ L, c.length = k) → L.flatten.length = L.length * k
 | [], _ => by simp
 | c :: L, h => by
  rw [List.flatten_cons, List.length_append, flat_len L (fun x hx => h x (by simp [hx])), h c (by simp), List.length_cons, Nat.add_mul]; omega
theorem flat_get {k : Nat} (L : List (List Value)) (hL : ∀ c ∈ L, c.length = k) (j : Nat) (hj : j < L.length) : (L.flatten.drop (j * k)).take k = L[j] := by
 induction L generalizing j with
 | nil => simp at hj
 | cons e L ih =>
  have he : e.length = k := hL e (by simp)
  rw [List.flatten_cons]
  cases j with
  | zero => rw [Nat.zero_mul, List.drop_zero]; exact List.take_left' he
  | succ j =>
   have := ih (fun x hx => hL x (by simp [hx])) j (by simpa using hj)
   rw [show (j + 1) * k = e.length + j * k by rw [he, Nat.add_mul]; omega, List.drop_length_add_append, this]
   rfl
theorem OwnI.nil (w : World) (base : Nat) (t : TypeId) (k : Nat) : OwnI w base t k (.slice none 0 0) [] := ⟨World.ownsRow_nil w base t k, by simp⟩
theorem OwnI.isSlice {w : World} {base : Nat} {t : TypeId} {k : Nat} {v : Value} {L : List (List Value)} (h : OwnI w base t k v L) : ∃ x c, v = .slice x L.length c := by
 rcases h.own.2 with ⟨rfl, h0⟩ | ⟨g, cap, cur, rfl, _⟩
 · exact ⟨none, 0, by rw [h0]⟩
 · exact ⟨_, _, rfl⟩
theorem OwnI.congr {w w' : World} {base : Nat} {t : TypeId} {k : Nat} {v : Value} {L : List (List Value)} (h : OwnI w base t k v L) (hk : ∀ g, v.ownBlock = some g → w'.heap[g]? = w.heap[g]?) : OwnI w' base t k v L := by
 refine ⟨⟨h.own.1, ?_⟩, h.each⟩
 rcases h.own.2 with h' | ⟨g, cap, cur, h1, h2, h3, h4⟩
 · exact .inl h'
 · exact .inr ⟨g, cap, cur, h1, h2, (hk g (by rw [h1]; rfl)).trans h3, h4⟩
theorem OwnI.blockLt {w : World} {base : Nat} {t : TypeId} {k : Nat} {v : Value} {L : List (List Value)} (h : OwnI w base t k v L) (g : Nat) (hg : v.ownBlock = some g) : g < w.heap.size ∧ base ≤ g ∧ ∃ cur, w.heap[g]? = some (.cells cur t (0, 0)) := by
 rcases h.own.2 with ⟨rfl, _⟩ | ⟨g', cap, cur, rfl, h2, h3, _⟩
 · cases hg
 · obtain rfl : g' = g := by simpa [Value.ownBlock] using hg
   exact ⟨(Array.getElem?_eq_some_iff.1 h3).1, h2, cur, h3⟩
theorem OwnI.far {w w' : World} {base : Nat} {t : TypeId} {k : Nat} {v : Value} {L : List (List Value)} (h : OwnI w base t k v L) (hb : Below w.heap.size w w') : OwnI w' base t k v L := h.congr fun g hg => hb.block g (h.blockLt g hg).1
theorem OwnI.less {w : World} {base base' : Nat} {t : TypeId} {k : Nat} {v : Value} {L : List (List Value)} (h : OwnI w base t k v L) (hb : base' ≤ base) : OwnI w base' t k v L := by
 refine ⟨⟨h.own.1, ?_⟩, h.each⟩
 rcases h.own.2 with h' | ⟨g, cap, cur, h1, h2, h3⟩
 · exact .inl h'
 · exact .inr ⟨g, cap, cur, h1, by omega, h3⟩
theorem OwnI.at_ {w : World} {base : Nat} {t : TypeId} {k : Nat} {x : Option Addr} {n c : Nat} {L : List (List Value)} (h : OwnI w base t k (.slice x n c) L) (j : Nat) (hj : j < L.length) : ∃ g, x = some ⟨g, 0, none⟩ ∧ n = L.length ∧ w.rangeAt g (j * k) L[j] := by
 rcases h.own.2 with ⟨h1, h0⟩ | ⟨g, cap', cur, h1, _, hg, hc, hm, hs, ht⟩
 · omega
 · cases h1
   refine ⟨g, rfl, rfl, fun i v hv => ?_⟩
   have hi : i < k := by have := (List.getElem?_eq_some_iff.1 hv).1; rw [h.each _ (List.getElem_mem hj)] at this; exact this
   rw [cell_of_row w g _ _ _ _ hg, ← Array.getElem?_toList]
   have e := flat_get L h.each j hj
   rw [← ht] at e
   have hlt : j * k + i < L.length * k := by
    have := Nat.mul_le_mul_right k (show j + 1 ≤ L.length from hj)
    rw [Nat.add_mul] at this; omega
   rw [← e, List.getElem?_take_of_lt hi, List.getElem?_drop, List.getElem?_take_of_lt hlt] at hv
   exact hv
theorem OwnI.src {w : World} {base : Nat} {t : TypeId} {k : Nat} {g n c : Nat} {L : List (List Value)} (h : OwnI w base t k (.slice (some ⟨g, 0, none⟩) n c) L) : n = L.length ∧ ∀ j u, L.flatten[j]? = some u → w.cell? ((⟨g, 0, none⟩ : Addr).add j) = some u := by
 rcases h.own.2 with ⟨h1, h0⟩ | ⟨g', cap', cur, h1, _, hg, hc, hm, hs, ht⟩
 · cases h1
 · cases h1
   refine ⟨rfl, fun j u hu => ?_⟩
   rw [show (⟨g, 0, none⟩ : Addr).add j = ⟨g, 0 + j, none⟩ by unfold Addr.add; split <;> simp_all, cell_of_row w g _ _ _ _ hg, ← Array.getElem?_toList, Nat.zero_add]
   rw [← ht, List.getElem?_take] at hu
   split at hu
   · exact hu
   · cases hu
section
variable {P : Program}
theorem OwnI.app {w : World} {base : Nat} {t : TypeId} {k : Nat} {v : Value} {L : List (List Value)} (h : OwnI w base t k v L) (st ty : TypeId) {z : Value} {by_ : Nat} (hst : P.underlying st = some (.slice t)) (hi : (P.info? t).map (fun i => (i.zero, i.size, i.bytes)) = some (some z, k, by_)) (hz : z.cells.size = k) (hk : 0 < k)
    (c : List Value) (hc : c.length = k) (h1 : ∀ u ∈ c, u.oneCell' = true) (g : Nat) (hg : w.rangeAt g 0 c) (hln : L.length ≤ 1000000) (hby : by_ ≤ 1000) (hbase : base ≤ w.heap.size) :
    ∃ v' w', (Builtin.append_ #[st, st] ty #[v, .slice (some ⟨g, 0, none⟩) 1 1]).run P w = .ok v' w' ∧ OwnI w' base t k v' (L ++ [c]) ∧ w.grownBy w' v.ownBlock ∧ (v'.ownBlock = v.ownBlock ∨ v'.ownBlock = some w.heap.size) := by
 obtain ⟨i0, hi, hz0, hz1, hz2⟩ := info_parts hi
 obtain ⟨v', w', hr, h2, h3, _, h5⟩ := run_append_own_at (P := P) w base st ty t i0 _ k by_ hst hi hz0 hz1 hz2 hz hk v L.length L.flatten h.own ⟨g, 0, none⟩ 1 1 c (by omega) (fun j u hu => by rw [show (⟨g, 0, none⟩ : Addr).add j = ⟨g, 0 + j, none⟩ by unfold Addr.add; split <;> simp_all]; exact hg j u hu) h1 (by simp [maxLen]; omega)
  (by have := Nat.mul_le_mul (show L.length + 1 ≤ 1000001 by omega) hby; omega) hbase
 refine ⟨v', w', hr, ⟨?_, fun x hx => ?_⟩, h3, h5⟩
 · rw [List.length_append, show (L ++ [c]).flatten = L.flatten ++ c by simp]
   exact h2
 · rcases List.mem_append.1 hx with h' | h'
   · exact h.each x h'
   · rw [List.mem_singleton.1 h']; exact hc
theorem OwnI.apps {w : World} {base : Nat} {t : TypeId} {k : Nat} {v : Value} {L : List (List Value)} (h : OwnI w base t k v L) (st ty : TypeId) {z : Value} {by_ : Nat} (hst : P.underlying st = some (.slice t)) (hi : (P.info? t).map (fun i => (i.zero, i.size, i.bytes)) = some (some z, k, by_)) (hz : z.cells.size = k) (hk : 0 < k)
    (C : List (List Value)) (hC : ∀ c ∈ C, c.length = k) (h1 : ∀ c ∈ C, ∀ u ∈ c, u.oneCell' = true) (base' : Nat) (u : Value) (hu : OwnI w base' t k u C) (hln : L.length + C.length ≤ 1000000) (hby : by_ ≤ 1000) (hbase : base ≤ w.heap.size) :
    ∃ v' w', (Builtin.append_ #[st, st] ty #[v, u]).run P w = .ok v' w' ∧ OwnI w' base t k v' (L ++ C) ∧ w.grownBy w' v.ownBlock ∧ (v'.ownBlock = v.ownBlock ∨ v'.ownBlock = some w.heap.size) := by
 obtain ⟨i0, hi, hz0, hz1, hz2⟩ := info_parts hi
 rcases hu.own.2 with ⟨hu0, h0⟩ | ⟨g, cap, cur, hu0, hrest⟩
 · have hC0 : C = [] := List.length_eq_zero_iff.1 h0
   subst hC0 hu0
   refine ⟨v, w, run_append_owned_none (P := P) (w := w) base st ty t i0 k hst hi v L.length L.flatten h.own, by rw [List.append_nil]; exact h, ⟨rfl, rfl, rfl, Nat.le_refl _, fun _ _ _ => rfl⟩, .inl rfl⟩
 · subst hu0
   obtain ⟨_, hsrc⟩ := hu.src
   obtain ⟨v', w', hr, h2, h3, _, h5⟩ := run_append_own_at (P := P) w base st ty t i0 _ k by_ hst hi hz0 hz1 hz2 hz hk v L.length L.flatten h.own ⟨g, 0, none⟩ C.length cap C.flatten (flat_len C hC) hsrc (fun x hx => by
       obtain ⟨c, hc, hxc⟩ := List.mem_flatten.1 hx
       exact h1 c hc x hxc) (by simp [maxLen]; omega)
    (by have := Nat.mul_le_mul (show L.length + C.length ≤ 1000000 by omega) hby; omega) hbase
   refine ⟨v', w', hr, ⟨?_, fun x hx => ?_⟩, h3, h5⟩
   · rw [List.length_append, List.flatten_append]
     exact h2
   · rcases List.mem_append.1 hx with h' | h'
     · exact h.each x h'
     · exact hC x h'
theorem wpList_appx {ops : Array Oper} {rest : List Oper} {o : Oper} {a : Act} {w : World} {Q : Exit → Act → World → Prop} (hgd : o.guard = none) (d s : Operand) (dT sT : TypeId) (ho : o.op = .call { callee := .builtin .append, args := #[d, s], argTypes := #[dT, sT] }) (dv sv v : Value) (w' : World) (hd : a.eval d = dv) (hs : a.eval s = sv) (hrun : (Builtin.append_ #[dT, sT] o.type #[dv, sv]).run P w = .ok v w')
    (h : wpList P ops Q rest (a.put o.dst v) w') : wpList P ops Q (o :: rest) a w :=
 wpList_plain hgd fun _ hK => wpx_app d s dT sT ho dv sv v w' hd hs hrun (hK _ _ h)
theorem fill_one {k : Nat} (f : Nat → Value) (cs : List Value) (hc : cs.length = k) : Instr.fill (fun i => some (i * k, k)) ((Array.range (1 * k)).map f) [(0, .agg cs.toArray)] = some cs.toArray := by
 have e : (Array.range (1 * k)).map f = (([] : List Value) ++ (List.range (1 * k)).map f).toArray := by simp [← List.toArray_range]
 rw [e]
 have := fill_tile (fun i => some (i * k, k)) [(0, .agg cs.toArray, cs)] [] ((List.range (1 * k)).map f) ⟨by simp [hc], rfl, trivial⟩ (by simp [tileL, hc])
 simpa [tileL] using this
theorem wp_bs1 {o : Oper} {a : Act} {w : World} {K : Act → World → Prop} {Q : Exit → Act → World → Prop} (t e : TypeId) (x : Operand) (ho : o.op = .buildSlice t 1 #[(0, x)]) (cs : List Value) (hx : a.eval x = .agg cs.toArray) {z : Value} {k by_ : Nat}
    (hu : P.underlying t = some (.slice e)) (hi : (P.info? e).map (fun i => (i.zero, i.size, i.bytes)) = some (some z, k, by_)) (hk : 0 < k) (hk2 : k ≤ 1000) (hc : cs.length = k)
    (h : K (a.put o.dst (.slice (some ⟨w.heap.size, 0, none⟩) 1 1)) (w.alloc (.cells cs.toArray e))) : o.wp P a w K Q := by
 obtain ⟨i0, hi, hz0, hz1, hz2⟩ := info_parts hi
 refine wp_buildSlice t e 1 _ ho cs.toArray i0 z hu hi hz0 (by rw [hz1]; omega) (by rw [hz1]; omega) ?_ h
 rw [hz1]
 simp only [List.map_toArray, List.map_cons, List.map_nil, hx]
 exact fill_one _ cs hc
theorem wpList_bs1 {ops : Array Oper} {rest : List Oper} {o : Oper} {a : Act} {w : World} {Q : Exit → Act → World → Prop} (hgd : o.guard = none) (t e : TypeId) (x : Operand) (ho : o.op = .buildSlice t 1 #[(0, x)]) (cs : List Value) (hx : a.eval x = .agg cs.toArray) {z : Value} {k by_ : Nat}
    (hu : P.underlying t = some (.slice e)) (hi : (P.info? e).map (fun i => (i.zero, i.size, i.bytes)) = some (some z, k, by_)) (hk : 0 < k) (hk2 : k ≤ 1000) (hc : cs.length = k)
    (h : wpList P ops Q rest (a.put o.dst (.slice (some ⟨w.heap.size, 0, none⟩) 1 1)) (w.alloc (.cells cs.toArray e))) : wpList P ops Q (o :: rest) a w :=
 wpList_plain hgd fun _ hK => wp_bs1 t e x ho cs hx hu hi hk hk2 hc (hK _ _ h)
theorem OwnI.one (w : World) (t : TypeId) (k : Nat) (c : List Value) (hc : c.length = k) : OwnI (w.alloc (.cells c.toArray t)) w.heap.size t k (.slice (some ⟨w.heap.size, 0, none⟩) 1 1) [c] := ⟨⟨by simp [hc], .inr ⟨_, _, _, rfl, Nat.le_refl _, heap_alloc_new w _, by simp, by simp [maxLen], by simp [hc], by simp [← hc]⟩⟩, by simpa using hc⟩
theorem OwnI.empty (w : World) (t : TypeId) (k : Nat) : OwnI (w.alloc (.cells #[] t)) w.heap.size t k (.slice (some ⟨w.heap.size, 0, none⟩) 0 0) [] := ⟨⟨by simp, .inr ⟨_, _, _, rfl, Nat.le_refl _, heap_alloc_new w _, by simp, by simp [maxLen], by simp, by simp⟩⟩, by simp⟩
end
def ltD (x y : Int × Int) : Bool := decide (x.1 < y.1) || (decide (x.1 = y.1) && decide (x.2 < y.2))
def Ev.dot (e : Ev) : Int × Int := (e.da, e.ds)
structure Ev.Ok (e : Ev) : Prop where
 dot : okD e.da e.ds
 past : e.past.length = 8
 pastB : ∀ x ∈ e.past, 0 ≤ x ∧ x ≤ 4294967295
 par : okD e.pa e.ps
 kind : 0 ≤ e.kind ∧ e.kind ≤ 255
 char : 0 ≤ e.char ∧ e.char ≤ 255
 who : 0 ≤ e.who ∧ e.who ≤ 255
 role : 0 ≤ e.role ∧ e.role ≤ 255
def sortedE (L : List Ev) : Prop := L.Pairwise (fun x y => ltD x.dot y.dot = true)
def lookE (L : List Ev) (d : Int × Int) : Option Ev := L.find? (fun e => e.dot == d)
def insE (e : Ev) : List Ev → List Ev
 | [] => [e]
 | x :: L => if ltD e.dot x.dot = true then e :: x :: L else x :: insE e L
def delE (d : Int × Int) (L : List Ev) : List Ev := L.filter (fun x => !(x.dot == d))
theorem ltD_irrefl (x : Int × Int) : ltD x x = false := by unfold ltD; simp
theorem ltD_trans {x y z : Int × Int} (h1 : ltD x y = true) (h2 : ltD y z = true) : ltD x z = true := by
 unfold ltD at *; simp only [Bool.or_eq_true, Bool.and_eq_true, decide_eq_true_eq] at *; omega
theorem ltD_total {x y : Int × Int} (h : x ≠ y) : ltD x y = true ∨ ltD y x = true := by
 obtain ⟨x1, x2⟩ := x; obtain ⟨y1, y2⟩ := y
 unfold ltD; simp only [Bool.or_eq_true, Bool.and_eq_true, decide_eq_true_eq]
 have : ¬ (x1 = y1 ∧ x2 = y2) := fun q => h (by rw [q.1, q.2])
 omega
theorem ltD_ne {x y : Int × Int} (h : ltD x y = true) : x ≠ y := fun e => by rw [e, ltD_irrefl] at h; cases h
theorem mem_insE (e x : Ev) : ∀ L, x ∈ insE e L ↔ x = e ∨ x ∈ L
 | [] => by simp [insE]
 | y :: L => by
  unfold insE
  split
  · simp
  · simp [mem_insE e x L]
    constructor
    · rintro (h | h | h) <;> simp [h]
    · rintro (h | h | h) <;> simp [h]
theorem length_insE (e : Ev) : ∀ L, (insE e L).length = L.length + 1
 | [] => rfl
 | y :: L => by
  unfold insE
  split
  · rfl
  · simp [length_insE e L]
theorem lookE_none {L : List Ev} {d : Int × Int} : lookE L d = none ↔ ∀ x ∈ L, x.dot ≠ d := by
 unfold lookE; simp [List.find?_eq_none]
theorem lookE_some {L : List Ev} (hs : sortedE L) {e : Ev} (he : e ∈ L) : lookE L e.dot = some e := by
 induction L with
 | nil => cases he
 | cons y L ih =>
  obtain ⟨h1, h2⟩ := List.pairwise_cons.1 hs
  unfold lookE
  rcases List.mem_cons.1 he with rfl | h
  · simp
  · have := ltD_ne (h1 e h)
    rw [List.find?_cons_of_neg (by simpa using this)]
    exact ih h2 h
theorem lookE_mem {L : List Ev} {d : Int × Int} {e : Ev} (h : lookE L d = some e) : e ∈ L ∧ e.dot = d := ⟨List.mem_of_find?_eq_some h, by simpa using List.find?_some h⟩
theorem sorted_insE {L : List Ev} (hs : sortedE L) (e : Ev) (hn : lookE L e.dot = none) : sortedE (insE e L) := by
 induction L with
 | nil => unfold insE sortedE; simp
 | cons y L ih =>
  obtain ⟨h1, h2⟩ := List.pairwise_cons.1 hs
  have hn' := lookE_none.1 hn
  unfold insE
  split
  · rename_i hlt
    refine List.pairwise_cons.2 ⟨fun x hx => ?_, hs⟩
    rcases List.mem_cons.1 hx with rfl | h
    · exact hlt
    · exact ltD_trans hlt (h1 x h)
  · rename_i hlt
    refine List.pairwise_cons.2 ⟨fun x hx => ?_, ih h2 (lookE_none.2 fun x hx => hn' x (List.mem_cons_of_mem _ hx))⟩
    rcases (mem_insE e x L).1 hx with rfl | h
    · rcases ltD_total (hn' y List.mem_cons_self) with q | q
      · exact q
      · exact absurd q hlt
    · exact h1 x h
theorem lookE_insE {L : List Ev} (e : Ev) (hn : lookE L e.dot = none) (d : Int × Int) : lookE (insE e L) d = if d = e.dot then some e else lookE L d := by
 induction L with
 | nil => unfold insE lookE; by_cases h : d = e.dot
          · simp [h]
          · rw [if_neg h]; simp [Ne.symm h]
 | cons y L ih =>
  have hn' := lookE_none.1 hn
  have hy := hn' y List.mem_cons_self
  have ihh := ih (lookE_none.2 fun x hx => hn' x (List.mem_cons_of_mem _ hx))
  unfold insE
  split
  · by_cases h : d = e.dot
    · rw [if_pos h]; unfold lookE; simp [h]
    · rw [if_neg h]; unfold lookE; rw [List.find?_cons_of_neg (by simpa using Ne.symm h)]
  · by_cases hyd : y.dot = d
    · have : ¬ d = e.dot := fun q => hy (hyd.trans q)
      rw [if_neg this]; unfold lookE; rw [List.find?_cons_of_pos (by simpa using hyd), List.find?_cons_of_pos (by simpa using hyd)]
    · unfold lookE at ihh ⊢
      rw [List.find?_cons_of_neg (by simpa using hyd), ihh, List.find?_cons_of_neg (by simpa using hyd)]
theorem sorted_delE {L : List Ev} (hs : sortedE L) (d : Int × Int) : sortedE (delE d L) := List.Pairwise.filter _ hs
theorem lookE_delE (L : List Ev) (d d' : Int × Int) : lookE (delE d L) d' = if d' = d then none else lookE L d' := by
 induction L with
 | nil => unfold delE lookE; simp
 | cons y L ih =>
  unfold delE lookE at *
  by_cases h : y.dot = d
  · rw [List.filter_cons_of_neg (by simp [h]), ih]
    by_cases h' : d' = d
    · rw [if_pos h', if_pos h']
    · rw [if_neg h', if_neg h', List.find?_cons_of_neg (by simpa using fun q => h' (q.symm.trans h))]
  · rw [List.filter_cons_of_pos (by simpa using h)]
    by_cases h2 : y.dot = d'
    · rw [List.find?_cons_of_pos (by simpa using h2), if_neg (fun q => h (h2.trans q)), List.find?_cons_of_pos (by simpa using h2)]
    · rw [List.find?_cons_of_neg (by simpa using h2), ih, List.find?_cons_of_neg (by simpa using h2)]
theorem length_delE {L : List Ev} (hs : sortedE L) {e : Ev} (he : e ∈ L) : (delE e.dot L).length + 1 = L.length := by
 induction L with
 | nil => cases he
 | cons y L ih =>
  obtain ⟨h1, h2⟩ := List.pairwise_cons.1 hs
  unfold delE at *
  rcases List.mem_cons.1 he with rfl | h
  · rw [List.filter_cons_of_neg (by simp)]
    rw [List.filter_eq_self.2 (fun x hx => by simpa using (ltD_ne (h1 x hx)).symm)]
    rfl
  · have hne := ltD_ne (h1 e h)
    rw [List.filter_cons_of_pos (by simpa using hne), List.length_cons, ih h2 h, List.length_cons]
theorem mem_delE {L : List Ev} {d : Int × Int} {x : Ev} (h : x ∈ delE d L) : x ∈ L := (List.mem_filter.1 h).1
def WaitAt (w : World) (b : Nat) (L : List Ev) : Prop :=
 ∃ D : DataW Value, w.ownsMap Tryz.prog 40 rawElem b L.length D ∧ (∀ a s, okD a s → ∀ z, D.atKey (dotLit a s) z = (match lookE L (a, s) with | some e => .held (.agg e.cells.toArray) | none => z)) ∧ Maps.size D = L.length ∧ sortedE L ∧ ∀ e ∈ L, e.Ok
theorem WaitAt.ok {w : World} {b : Nat} {L : List Ev} (h : WaitAt w b L) : ∀ e ∈ L, e.Ok := by obtain ⟨D, _, _, _, _, h⟩ := h; exact h
theorem WaitAt.lt {w : World} {b : Nat} {L : List Ev} (h : WaitAt w b L) : b < w.heap.size := by obtain ⟨D, h, _⟩ := h; exact h.lt
theorem WaitAt.congr {w w' : World} {b : Nat} {L : List Ev} (h : WaitAt w b L) (he : w'.heap[b]? = w.heap[b]?) : WaitAt w' b L := by
 obtain ⟨D, ⟨es, cl, hb, r⟩, hM⟩ := h
 exact ⟨D, ⟨es, cl, he.trans hb, r⟩, hM⟩
theorem WaitAt.far {w w' : World} {b : Nat} {L : List Ev} (h : WaitAt w b L) (hb : Below w.heap.size w w') : WaitAt w' b L := h.congr (hb.block b h.lt)
theorem WaitAt.made (w : World) : WaitAt (w.alloc (.map #[] 0)) w.heap.size [] := ⟨_, World.ownsMap_made w _ _ _, fun _ _ _ _ => rfl, rfl, List.Pairwise.nil, by simp⟩
theorem WaitAt.cellsNe {w : World} {b g : Nat} {L : List Ev} (h : WaitAt w b L) {t : TypeId} {cs : List Value} (hg : CellsAt w g t cs) : b ≠ g := by
 intro e
 subst e
 obtain ⟨D, ⟨es, cl, hb, _⟩, _⟩ := h
 unfold CellsAt at hg
 rw [hb] at hg
 cases hg
theorem WaitAt.mapAt {w : World} {b : Nat} {L : List Ev} (h : WaitAt w b L) : MapAt w b L.length (fun a s => (lookE L (a, s)).map fun e => .agg e.cells.toArray) := by
 obtain ⟨D, hD, hM, _⟩ := h
 refine ⟨D, hD, fun a s ho z => ?_⟩
 rw [hM a s ho z]
 show _ = match Option.map (fun e => Value.agg e.cells.toArray) (lookE L (a, s)) with | some v => DataW.held v | none => z
 cases lookE L (a, s) <;> rfl
theorem wait_has {L : List Ev} {D : DataW Value} (hM : ∀ a s, okD a s → ∀ z, D.atKey (dotLit a s) z = (match lookE L (a, s) with | some e => .held (.agg e.cells.toArray) | none => z)) (a s : Int) (ho : okD a s) : Maps.has D (dotLit a s) = (lookE L (a, s)).isSome := by
 cases hv : lookE L (a, s) with
 | none => exact Maps.has_false_of_atKey fun z => by rw [hM a s ho, hv]
 | some v => exact Maps.has_true_of_atKey (y := .held (.agg v.cells.toArray)) fun z => by rw [hM a s ho, hv]
theorem owns_tight {w : World} {P : Program} {k : TypeId} {R : Value → Option (DataW Value × List MemPlace)} {b n : Nat} {D : DataW Value} (h : w.ownsMap P k R b n D) : w.ownsMap P k R b (Maps.size D) D := by
 obtain ⟨es, cl, hb, F, hs, hD⟩ := h
 refine ⟨es, cl, hb, F, ?_, hD⟩
 rw [hD, Maps.size_eq, length_read]
 exact Nat.le_refl _
theorem WaitAt.store {w : World} {b : Nat} {L : List Ev} (h : WaitAt w b L) {t et : TypeId} (ht : Tryz.prog.underlying t = some (.map 40 et)) (hn : L.length < 100000) (e : Ev) (he : e.Ok) (hl : lookE L e.dot = none) :
    ∃ w', (Instr.mapUpdate t (.map (some b)) (.agg (dotC e.da e.ds).toArray) (.agg e.cells.toArray)).run Tryz.prog w = .ok () w' ∧ WaitAt w' b (insE e L) ∧ w.grownBy w' (some b) := by
 obtain ⟨D, hD, hM, hsz, hso, hok⟩ := h
 obtain ⟨w', hrun, hown, ht'⟩ := hD.store dotKeyed ht (by simp [maxLen]; omega) (dotKey e.da e.ds he.dot) (d := .held (.agg e.cells.toArray)) (ps := []) rfl
 refine ⟨w', hrun, ⟨_, by rw [length_insE]; exact hown, fun a' s' ho' z => ?_, ?_, sorted_insE hso e hl, fun x hx => ?_⟩, ht'.grown⟩
 · rw [lookE_insE e hl]
   by_cases q : (a', s') = e.dot
   · rw [if_pos q]
     injection q with q1 q2
     subst q1 q2
     rw [Maps.atKey_put_same hD.isMap (dotKeyLit _ _)]
   · rw [if_neg q, Maps.atKey_put_other (fun q' => q (by have := dotLit_inj ho' he.dot q'; unfold Ev.dot; rw [this.1, this.2])), hM a' s' ho']
 · have hh : Maps.has D (dotLit e.da e.ds) = false := by rw [wait_has hM e.da e.ds he.dot]; rw [show (e.da, e.ds) = e.dot from rfl, hl]; rfl
   rw [Maps.size_put (hD.tidy dotKeyed), hh, length_insE, hsz]; rfl
 · rcases (mem_insE e x L).1 hx with rfl | q
   · exact he
   · exact hok x q
theorem WaitAt.drop {w : World} {b : Nat} {L : List Ev} (h : WaitAt w b L) {t et : TypeId} (ht : Tryz.prog.underlying t = some (.map 40 et)) (ty : TypeId) (e : Ev) (he : e ∈ L) :
    ∃ w', (Builtin.delete_ #[t, 40] ty #[.map (some b), .agg (dotC e.da e.ds).toArray]).run Tryz.prog w = .ok (.tuple #[]) w' ∧ WaitAt w' b (delE e.dot L) ∧ w.grownBy w' (some b) := by
 obtain ⟨D, hD, hM, hsz, hso, hok⟩ := h
 have ho := (hok e he).dot
 obtain ⟨w', hrun, hown, ht'⟩ := hD.drop dotKeyed ht (dotKey e.da e.ds ho) ty
 have hh : Maps.has D (dotLit e.da e.ds) = true := by rw [wait_has hM e.da e.ds ho]; rw [show (e.da, e.ds) = e.dot from rfl, lookE_some hso he]; rfl
 have hsd := Maps.size_del (k := dotLit e.da e.ds) (hD.tidy dotKeyed)
 rw [hh] at hsd
 have hld := length_delE hso he
 have hs2 : Maps.size (D.del (dotLit e.da e.ds)) = (delE e.dot L).length := by simp at hsd; omega
 refine ⟨w', hrun, ⟨_, by have := owns_tight hown; rw [hs2] at this; exact this, fun a' s' ho' z => ?_, hs2, sorted_delE hso _, fun x hx => hok x (mem_delE hx)⟩, ht'.grown⟩
 rw [lookE_delE]
 by_cases q : (a', s') = e.dot
 · rw [if_pos q]
   injection q with q1 q2
   subst q1 q2
   rw [Maps.atKey_del_same]
 · rw [if_neg q, Maps.atKey_del_other (fun q' => q (by have := dotLit_inj ho' ho q'; unfold Ev.dot; rw [this.1, this.2])), hM a' s' ho']
theorem WaitAt.len {w : World} {b : Nat} {L : List Ev} (h : WaitAt w b L) {t et : TypeId} (ht : Tryz.prog.underlying t = some (.map 40 et)) (ty : TypeId) : (Builtin.len_ #[t] ty #[.map (some b)]).run Tryz.prog w = .ok (.int .i64 L.length) w := by
 obtain ⟨D, hD, _, hsz, _⟩ := h
 rw [hD.len ht ty, hsz]
theorem lits_int_inv {t : TypeId} {q : IntKind} (hu : Tryz.prog.underlying t = some (.int q)) {d : Nat} {c : List Value} {L : List Lit} (h : Tryz.prog.keyLits d t c = some L) : ∃ n, c = [.int q n] ∧ (Lit.int q n).wf = true := by
 cases d with
 | zero => cases h
 | succ d =>
  unfold Program.keyLits at h
  rw [hu] at h
  match c, h with
  | [.int q' n], h =>
   simp only at h
   split at h
   · rename_i hq
     obtain ⟨rfl, hw⟩ := hq
     exact ⟨n, rfl, hw⟩
   · cases h
theorem dotKey_inv {key : Value} {kl : Lit} (h : keyOf Tryz.prog 40 key = some kl) : ∃ x : { d : Int × Int // okD d.1 d.2 }, key = .agg (dotC x.1.1 x.1.2).toArray := by
 obtain ⟨m, hm⟩ := typesBig
 unfold keyOf at h
 rw [Tryz.underlying40, hm] at h
 simp only at h
 split at h
 · rename_i hf
   obtain ⟨_, hf⟩ := Bool.and_eq_true_iff.1 hf
   cases key with
   | agg cs =>
    simp only [Value.formed, Tryz.underlying40, cellsDot.1] at hf
    obtain ⟨l⟩ := cs
    match l, hf with
    | [c1, c2], _ =>
     simp only [Value.cells] at h
     unfold Program.keyLits at h
     simp only [Tryz.underlying40, cellsDot.1, cellsDot.2.1, cellsDot.2.2] at h
     simp only [List.length_cons, List.length_nil, Nat.reduceAdd, true_and] at h
     split at h
     · simp only [List.mapM_cons, List.mapM_nil, List.drop_zero, List.take_succ_cons, List.take_zero, List.drop_succ_cons, cellsDot.2.1, cellsDot.2.2] at h
       cases h1 : Tryz.prog.keyLits (m + 1) 5 [c1] with
       | none => rw [h1] at h; simp at h
       | some L1 =>
        cases h2 : Tryz.prog.keyLits (m + 1) 35 [c2] with
        | none => rw [h1, h2] at h; simp at h
        | some L2 =>
         obtain ⟨a, ea, wa⟩ := lits_int_inv Tryz.underlying5 h1
         obtain ⟨s, es, ws⟩ := lits_int_inv Tryz.underlying35 h2
         injection ea with ea _
         injection es with es _
         subst ea es
         have w1 : (decide ((0 : Int) ≤ a) && decide (a ≤ 255)) = true := wa
         have w2 : (decide ((0 : Int) ≤ s) && decide (s ≤ 4294967295)) = true := ws
         simp only [Bool.and_eq_true, decide_eq_true_eq] at w1 w2
         exact ⟨⟨(a, s), w1, w2⟩, rfl⟩
     · simp at h
   | _ => simp [Value.formed, Tryz.underlying40] at hf
 · cases h
end Go.Proofs.YtmbdohnmbkpfaaaGreat
