/- Cv7 Bg Bt Oi -/
import Derived.Test.YtnmjplngbleopaaF03
import Derived.Laws.Tables
import Derived.Test.YtnmjplngbleopaaF01
import Derived.Maps.AppendAt
import Derived.Laws.AppendOwnNone
import Derived.Great.BuildSlice
namespace Go.Proofs.Ytnmjplngbleopaa
open Go.RowKit
set_option maxRecDepth 20000
set_option linter.unusedSimpArgs false
theorem fold_set (off : Nat) : ∀ (cs : List Value) (k : Nat) (old : List Value), off + k + cs.length ≤ old.length →
    (cs.zipIdx k).foldl (fun (a : Array Value) (p : Value × Nat) => a.setIfInBounds (off + p.2) p.1) old.toArray = (old.take (off + k) ++ cs ++ old.drop (off + k + cs.length)).toArray
  | [], k, old, _ => by simp
  | c :: cs, k, old, h => by
    rw [List.length_cons] at h
    rw [List.zipIdx_cons, List.foldl_cons, List.setIfInBounds_toArray, fold_set off cs (k + 1) (old.set (off + k) c) (by rw [List.length_set]; omega)]
    congr 1
    have e1 : (old.set (off + k) c).take (off + (k + 1)) = old.take (off + k) ++ [c] := by
      rw [show off + (k + 1) = (off + k) + 1 by omega, List.take_add_one, List.take_set_of_le (Nat.le_refl _), List.getElem?_set_self (by omega)]
      rfl
    have e2 : (old.set (off + k) c).drop (off + (k + 1) + cs.length) = old.drop (off + k + (c :: cs).length) := by
      rw [List.drop_set_of_lt (by omega), List.length_cons]
      congr 1; omega
    rw [e1, e2]
    simp
theorem fill_cons (place : Nat → Option (Nat × Nat)) (old cs : List Value) (i off size : Nat) (v : Value) (rest : List (Nat × Value)) (hp : place i = some (off, size)) (hv : v.cells = cs.toArray) (hs : cs.length = size) (hl : off + size ≤ old.length) :
    Instr.fill place old.toArray ((i, v) :: rest) = Instr.fill place (old.take off ++ cs ++ old.drop (off + size)).toArray rest := by
  rw [Instr.fill, hp]
  simp only [hv, List.size_toArray, hs]
  rw [if_neg (by simp; omega), ← Array.foldl_toList, Array.toList_zipIdx]
  have := fold_set off cs 0 old (by omega)
  simp only [Nat.add_zero] at this
  rw [hs] at this
  rw [← this]
def Tiles (place : Nat → Option (Nat × Nat)) : Nat → List (Nat × Value × List Value) → Prop
  | _, [] => True
  | off, x :: L => place x.1 = some (off, x.2.2.length) ∧ x.2.1.cells = x.2.2.toArray ∧ Tiles place (off + x.2.2.length) L
def tileL (L : List (Nat × Value × List Value)) : List Value := (L.map (·.2.2)).flatten
theorem tileL_cons (x : Nat × Value × List Value) (L : List (Nat × Value × List Value)) : tileL (x :: L) = x.2.2 ++ tileL L := by simp [tileL]
theorem fill_tile (place : Nat → Option (Nat × Nat)) : ∀ (L : List (Nat × Value × List Value)) (done tail : List Value), Tiles place done.length L → tail.length = (tileL L).length →
    Instr.fill place (done ++ tail).toArray (L.map fun x => (x.1, x.2.1)) = some (done ++ tileL L).toArray
  | [], done, tail, _, hl => by
    have : tail = [] := List.length_eq_zero_iff.1 (by simpa [tileL] using hl)
    rw [this]; simp [Instr.fill, tileL]
  | x :: L, done, tail, hT, hl => by
    obtain ⟨h1, h2, h3⟩ := hT
    rw [tileL_cons, List.length_append] at hl
    rw [List.map_cons, fill_cons place (done ++ tail) x.2.2 x.1 done.length x.2.2.length x.2.1 _ h1 h2 rfl (by rw [List.length_append]; omega)]
    rw [List.take_left, List.drop_length_add_append, fill_tile place L (done ++ x.2.2) (tail.drop x.2.2.length) (by rw [List.length_append]; exact h3) (by rw [List.length_drop]; omega), tileL_cons, List.append_assoc]
structure OwnI (w : World) (base : Nat) (t : TypeId) (k : Nat) (v : Value) (L : List (List Value)) : Prop where
  own : w.ownsRow base t k v L.length L.flatten
  each : ∀ c ∈ L, c.length = k
theorem flat_len {k : Nat} : ∀ L : List (List Value), (∀ c ∈ L, c.length = k) → L.flatten.length = L.length * k
  | [], _ => by simp
  | c :: L, h => by
    rw [List.flatten_cons, List.length_append, flat_len L (fun x hx => h x (by simp [hx])), h c (by simp), List.length_cons, Nat.add_mul]; omega
theorem flat_get {k : Nat} (L : List (List Value)) (hL : ∀ c ∈ L, c.length = k) (j : Nat) (hj : j < L.length) : (L.flatten.drop (j * k)).take k = L[j] := by
  induction L generalizing j with
  | nil => simp at hj
  | cons e L ih =>
    have he : e.length = k := hL e (by simp)
    rw [List.flatten_cons]
    cases j with
    | zero => rw [Nat.zero_mul, List.drop_zero]; exact List.take_left' he
    | succ j =>
      have := ih (fun x hx => hL x (by simp [hx])) j (by simpa using hj)
      rw [show (j + 1) * k = e.length + j * k by rw [he, Nat.add_mul]; omega, List.drop_length_add_append, this]
      rfl
theorem OwnI.nil (w : World) (base : Nat) (t : TypeId) (k : Nat) : OwnI w base t k (.slice none 0 0) [] := ⟨World.ownsRow_nil w base t k, by simp⟩
theorem OwnI.isSlice {w : World} {base : Nat} {t : TypeId} {k : Nat} {v : Value} {L : List (List Value)} (h : OwnI w base t k v L) : ∃ x c, v = .slice x L.length c := by
  rcases h.own.2 with ⟨rfl, h0⟩ | ⟨g, cap, cur, rfl, _⟩
  · exact ⟨none, 0, by rw [h0]⟩
  · exact ⟨_, _, rfl⟩
theorem OwnI.congr {w w' : World} {base : Nat} {t : TypeId} {k : Nat} {v : Value} {L : List (List Value)} (h : OwnI w base t k v L) (hk : ∀ g, v.ownBlock = some g → w'.heap[g]? = w.heap[g]?) : OwnI w' base t k v L := by
  refine ⟨⟨h.own.1, ?_⟩, h.each⟩
  rcases h.own.2 with h' | ⟨g, cap, cur, h1, h2, h3, h4⟩
  · exact .inl h'
  · exact .inr ⟨g, cap, cur, h1, h2, (hk g (by rw [h1]; rfl)).trans h3, h4⟩
theorem OwnI.blockLt {w : World} {base : Nat} {t : TypeId} {k : Nat} {v : Value} {L : List (List Value)} (h : OwnI w base t k v L) (g : Nat) (hg : v.ownBlock = some g) : g < w.heap.size ∧ base ≤ g ∧ ∃ cur, w.heap[g]? = some (.cells cur t (0, 0)) := by
  rcases h.own.2 with ⟨rfl, _⟩ | ⟨g', cap, cur, rfl, h2, h3, _⟩
  · cases hg
  · obtain rfl : g' = g := by simpa [Value.ownBlock] using hg
    exact ⟨(Array.getElem?_eq_some_iff.1 h3).1, h2, cur, h3⟩
theorem OwnI.far {w w' : World} {base : Nat} {t : TypeId} {k : Nat} {v : Value} {L : List (List Value)} (h : OwnI w base t k v L) (hb : Below w.heap.size w w') : OwnI w' base t k v L := h.congr fun g hg => hb.block g (h.blockLt g hg).1
theorem OwnI.less {w : World} {base base' : Nat} {t : TypeId} {k : Nat} {v : Value} {L : List (List Value)} (h : OwnI w base t k v L) (hb : base' ≤ base) : OwnI w base' t k v L := by
  refine ⟨⟨h.own.1, ?_⟩, h.each⟩
  rcases h.own.2 with h' | ⟨g, cap, cur, h1, h2, h3⟩
  · exact .inl h'
  · exact .inr ⟨g, cap, cur, h1, by omega, h3⟩
theorem OwnI.at_ {w : World} {base : Nat} {t : TypeId} {k : Nat} {x : Option Addr} {n c : Nat} {L : List (List Value)} (h : OwnI w base t k (.slice x n c) L) (j : Nat) (hj : j < L.length) : ∃ g, x = some ⟨g, 0, none⟩ ∧ n = L.length ∧ w.rangeAt g (j * k) L[j] := by
  rcases h.own.2 with ⟨h1, h0⟩ | ⟨g, cap', cur, h1, _, hg, hc, hm, hs, ht⟩
  · omega
  · cases h1
    refine ⟨g, rfl, rfl, fun i v hv => ?_⟩
    have hi : i < k := by have := (List.getElem?_eq_some_iff.1 hv).1; rw [h.each _ (List.getElem_mem hj)] at this; exact this
    rw [cell_of_row w g _ _ _ _ hg, ← Array.getElem?_toList]
    have e := flat_get L h.each j hj
    rw [← ht] at e
    have hlt : j * k + i < L.length * k := by
      have := Nat.mul_le_mul_right k (show j + 1 ≤ L.length from hj)
      rw [Nat.add_mul] at this; omega
    rw [← e, List.getElem?_take_of_lt hi, List.getElem?_drop, List.getElem?_take_of_lt hlt] at hv
    exact hv
theorem OwnI.src {w : World} {base : Nat} {t : TypeId} {k : Nat} {g n c : Nat} {L : List (List Value)} (h : OwnI w base t k (.slice (some ⟨g, 0, none⟩) n c) L) : n = L.length ∧ ∀ j u, L.flatten[j]? = some u → w.cell? ((⟨g, 0, none⟩ : Addr).add j) = some u := by
  rcases h.own.2 with ⟨h1, h0⟩ | ⟨g', cap', cur, h1, _, hg, hc, hm, hs, ht⟩
  · cases h1
  · cases h1
    refine ⟨rfl, fun j u hu => ?_⟩
    rw [show (⟨g, 0, none⟩ : Addr).add j = ⟨g, 0 + j, none⟩ by unfold Addr.add; split <;> simp_all, cell_of_row w g _ _ _ _ hg, ← Array.getElem?_toList, Nat.zero_add]
    rw [← ht, List.getElem?_take] at hu
    split at hu
    · exact hu
    · cases hu
section
variable {P : Program}
theorem OwnI.app {w : World} {base : Nat} {t : TypeId} {k : Nat} {v : Value} {L : List (List Value)} (h : OwnI w base t k v L) (st ty : TypeId) {z : Value} {by_ : Nat} (hst : P.underlying st = some (.slice t)) (hi : (P.info? t).map (fun i => (i.zero, i.size, i.bytes)) = some (some z, k, by_)) (hz : z.cells.size = k) (hk : 0 < k)
    (c : List Value) (hc : c.length = k) (h1 : ∀ u ∈ c, u.oneCell' = true) (g : Nat) (hg : w.rangeAt g 0 c) (hln : L.length ≤ 1000000) (hby : by_ ≤ 1000) (hbase : base ≤ w.heap.size) :
    ∃ v' w', (Builtin.append_ #[st, st] ty #[v, .slice (some ⟨g, 0, none⟩) 1 1]).run P w = .ok v' w' ∧ OwnI w' base t k v' (L ++ [c]) ∧ w.grownBy w' v.ownBlock ∧ (v'.ownBlock = v.ownBlock ∨ v'.ownBlock = some w.heap.size) := by
  obtain ⟨i0, hi, hz0, hz1, hz2⟩ := info_parts hi
  obtain ⟨v', w', hr, h2, h3, _, h5⟩ := run_append_own_at (P := P) w base st ty t i0 _ k by_ hst hi hz0 hz1 hz2 hz hk v L.length L.flatten h.own ⟨g, 0, none⟩ 1 1 c (by omega) (fun j u hu => by rw [show (⟨g, 0, none⟩ : Addr).add j = ⟨g, 0 + j, none⟩ by unfold Addr.add; split <;> simp_all]; exact hg j u hu) h1 (by simp [maxLen]; omega)
    (by have := Nat.mul_le_mul (show L.length + 1 ≤ 1000001 by omega) hby; omega) hbase
  refine ⟨v', w', hr, ⟨?_, fun x hx => ?_⟩, h3, h5⟩
  · rw [List.length_append, show (L ++ [c]).flatten = L.flatten ++ c by simp]
    exact h2
  · rcases List.mem_append.1 hx with h' | h'
    · exact h.each x h'
    · rw [List.mem_singleton.1 h']; exact hc
theorem OwnI.apps {w : World} {base : Nat} {t : TypeId} {k : Nat} {v : Value} {L : List (List Value)} (h : OwnI w base t k v L) (st ty : TypeId) {z : Value} {by_ : Nat} (hst : P.underlying st = some (.slice t)) (hi : (P.info? t).map (fun i => (i.zero, i.size, i.bytes)) = some (some z, k, by_)) (hz : z.cells.size = k) (hk : 0 < k)
    (C : List (List Value)) (hC : ∀ c ∈ C, c.length = k) (h1 : ∀ c ∈ C, ∀ u ∈ c, u.oneCell' = true) (base' : Nat) (u : Value) (hu : OwnI w base' t k u C) (hln : L.length + C.length ≤ 1000000) (hby : by_ ≤ 1000) (hbase : base ≤ w.heap.size) :
    ∃ v' w', (Builtin.append_ #[st, st] ty #[v, u]).run P w = .ok v' w' ∧ OwnI w' base t k v' (L ++ C) ∧ w.grownBy w' v.ownBlock ∧ (v'.ownBlock = v.ownBlock ∨ v'.ownBlock = some w.heap.size) := by
  obtain ⟨i0, hi, hz0, hz1, hz2⟩ := info_parts hi
  rcases hu.own.2 with ⟨hu0, h0⟩ | ⟨g, cap, cur, hu0, hrest⟩
  · have hC0 : C = [] := List.length_eq_zero_iff.1 h0
    subst hC0 hu0
    refine ⟨v, w, run_append_owned_none (P := P) (w := w) base st ty t i0 k hst hi v L.length L.flatten h.own, by rw [List.append_nil]; exact h, ⟨rfl, rfl, rfl, Nat.le_refl _, fun _ _ _ => rfl⟩, .inl rfl⟩
  · subst hu0
    obtain ⟨_, hsrc⟩ := hu.src
    obtain ⟨v', w', hr, h2, h3, _, h5⟩ := run_append_own_at (P := P) w base st ty t i0 _ k by_ hst hi hz0 hz1 hz2 hz hk v L.length L.flatten h.own ⟨g, 0, none⟩ C.length cap C.flatten (flat_len C hC) hsrc (fun x hx => by
        obtain ⟨c, hc, hxc⟩ := List.mem_flatten.1 hx
        exact h1 c hc x hxc) (by simp [maxLen]; omega)
      (by have := Nat.mul_le_mul (show L.length + C.length ≤ 1000000 by omega) hby; omega) hbase
    refine ⟨v', w', hr, ⟨?_, fun x hx => ?_⟩, h3, h5⟩
    · rw [List.length_append, List.flatten_append]
      exact h2
    · rcases List.mem_append.1 hx with h' | h'
      · exact h.each x h'
      · exact hC x h'
theorem wpList_appx {ops : Array Oper} {rest : List Oper} {o : Oper} {a : Act} {w : World} {Q : Exit → Act → World → Prop} (hgd : o.guard = none) (d s : Operand) (dT sT : TypeId) (ho : o.op = .call { callee := .builtin .append, args := #[d, s], argTypes := #[dT, sT] }) (dv sv v : Value) (w' : World) (hd : a.eval d = dv) (hs : a.eval s = sv) (hrun : (Builtin.append_ #[dT, sT] o.type #[dv, sv]).run P w = .ok v w')
    (h : wpList P ops Q rest (a.put o.dst v) w') : wpList P ops Q (o :: rest) a w :=
  wpList_plain hgd fun _ hK => wpx_app d s dT sT ho dv sv v w' hd hs hrun (hK _ _ h)
theorem fill_one {k : Nat} (f : Nat → Value) (cs : List Value) (hc : cs.length = k) : Instr.fill (fun i => some (i * k, k)) ((Array.range (1 * k)).map f) [(0, .agg cs.toArray)] = some cs.toArray := by
  have e : (Array.range (1 * k)).map f = (([] : List Value) ++ (List.range (1 * k)).map f).toArray := by simp [← List.toArray_range]
  rw [e]
  have := fill_tile (fun i => some (i * k, k)) [(0, .agg cs.toArray, cs)] [] ((List.range (1 * k)).map f) ⟨by simp [hc], rfl, trivial⟩ (by simp [tileL, hc])
  simpa [tileL] using this
theorem wp_bs1 {o : Oper} {a : Act} {w : World} {K : Act → World → Prop} {Q : Exit → Act → World → Prop} (t e : TypeId) (x : Operand) (ho : o.op = .buildSlice t 1 #[(0, x)]) (cs : List Value) (hx : a.eval x = .agg cs.toArray) {z : Value} {k by_ : Nat}
    (hu : P.underlying t = some (.slice e)) (hi : (P.info? e).map (fun i => (i.zero, i.size, i.bytes)) = some (some z, k, by_)) (hk : 0 < k) (hk2 : k ≤ 1000) (hc : cs.length = k)
    (h : K (a.put o.dst (.slice (some ⟨w.heap.size, 0, none⟩) 1 1)) (w.alloc (.cells cs.toArray e))) : o.wp P a w K Q := by
  obtain ⟨i0, hi, hz0, hz1, hz2⟩ := info_parts hi
  refine wp_buildSlice t e 1 _ ho cs.toArray i0 z hu hi hz0 (by rw [hz1]; omega) (by rw [hz1]; omega) ?_ h
  rw [hz1]
  simp only [List.map_toArray, List.map_cons, List.map_nil, hx]
  exact fill_one _ cs hc
theorem OwnI.one (w : World) (t : TypeId) (k : Nat) (c : List Value) (hc : c.length = k) : OwnI (w.alloc (.cells c.toArray t)) w.heap.size t k (.slice (some ⟨w.heap.size, 0, none⟩) 1 1) [c] := ⟨⟨by simp [hc], .inr ⟨_, _, _, rfl, Nat.le_refl _, heap_alloc_new w _, by simp, by simp [maxLen], by simp [hc], by simp [← hc]⟩⟩, by simpa using hc⟩
theorem OwnI.empty (w : World) (t : TypeId) (k : Nat) : OwnI (w.alloc (.cells #[] t)) w.heap.size t k (.slice (some ⟨w.heap.size, 0, none⟩) 0 0) [] := ⟨⟨by simp, .inr ⟨_, _, _, rfl, Nat.le_refl _, heap_alloc_new w _, by simp, by simp [maxLen], by simp, by simp⟩⟩, by simp⟩
end
end Go.Proofs.Ytnmjplngbleopaa
