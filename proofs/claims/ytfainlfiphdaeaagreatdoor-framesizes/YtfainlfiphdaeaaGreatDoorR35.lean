/- Bt Oi Gate3 Gate4 Eqd -/
import Derived.Test.YtfainlfiphdaeaaGreatDoorR31
import Derived.Test.YtfainlfiphdaeaaGreatDoorR30
import Derived.Test.YtfainlfiphdaeaaGreatDoorR01
import Derived.Maps.AppendAt
import Derived.Laws.AppendOwnNone
import Derived.Great.BuildSlice
import Derived.OrdersHeld
import Derived.Deep.RegionHeld
import Derived.StillTail
import Derived.Deep.MidRow
import Derived.Test.YtfainlfiphdaeaaGreatDoorR02
import Derived.Laws.StructEq
namespace Go.Proofs.YtfainlfiphdaeaaGreatDoor
open Go.RowKit
set_option maxRecDepth 20000
set_option linter.unusedSimpArgs false
def Tiles (place : Nat → Option (Nat × Nat)) : Nat → List (Nat × Value × List Value) → Prop
  | _, [] => True
  | off, x :: L => place x.1 = some (off, x.2.2.length) ∧ x.2.1.cells = x.2.2.toArray ∧ Tiles place (off + x.2.2.length) L
def tileL (L : List (Nat × Value × List Value)) : List Value := (L.map (·.2.2)).flatten
theorem tileL_cons (x : Nat × Value × List Value) (L : List (Nat × Value × List Value)) : tileL (x :: L) = x.2.2 ++ tileL L := by simp [tileL]
theorem fill_tile (place : Nat → Option (Nat × Nat)) : ∀ (L : List (Nat × Value × List Value)) (done tail : List Value), Tiles place done.length L → tail.length = (tileL L).length →
    Instr.fill place (done ++ tail).toArray (L.map fun x => (x.1, x.2.1)) = some (done ++ tileL L).toArray
  | [], done, tail, _, hl => by
    have : tail = [] := List.length_eq_zero_iff.1 (by simpa [tileL] using hl)
    rw [this]; simp [Instr.fill, tileL]
  | x :: L, done, tail, hT, hl => by
    obtain ⟨h1, h2, h3⟩ := hT
    rw [tileL_cons, List.length_append] at hl
    rw [List.map_cons, fill_cons place (done ++ tail) x.2.2 x.1 done.length x.2.2.length x.2.1 _ h1 h2 rfl (by rw [List.length_append]; omega)]
    rw [List.take_left, List.drop_length_add_append, fill_tile place L (done ++ x.2.2) (tail.drop x.2.2.length) (by rw [List.length_append]; exact h3) (by rw [List.length_drop]; omega), tileL_cons, List.append_assoc]
theorem execBuildT {P : Program} {o : Oper} {ev : Operand → Value} {w : World} {v : Value} (t : TypeId) (parts : Array (Nat × Operand)) (ho : o.op = .build t parts) (vs : Array (Nat × Value)) (hv : (parts.map fun (i, x) => (i, ev x)) = vs) (h : (Instr.build t vs).run P w = .ok v w) :
    (execOp ev o).run P w = .ok (.value v) w := by
  unfold execOp
  simp only [ho, hv, Sem.run_bind, Sem.run_pure, Result.andThen_ok, h]
theorem wpList_bldgT {P : Program} {ops : Array Oper} {rest : List Oper} {o : Oper} {a : Act} {w : World} {Q : Exit → Act → World → Prop} (hw : Region.wanted o (yielded ops a.tmps) = true) (t : TypeId) (parts : Array (Nat × Operand)) (ho : o.op = .build t parts) (vals : Array (Nat × Value)) (hv : (parts.map fun (i, x) => (i, a.eval x)) = vals) (v : Value) (hrun : (Instr.build t vals).run P w = .ok v w)
    (h : wpList P ops Q rest (a.put o.dst v) w) : wpList P ops Q (o :: rest) a w :=
  wpList_step fun K hK => by
    rw [if_pos hw]
    exact wpx_bld t parts ho vals hv v hrun (hK _ _ h)
end Go.Proofs.YtfainlfiphdaeaaGreatDoor
namespace Go.Proofs.YtfainlfiphdaeaaGreatDoor
open Go.RowKit
set_option maxRecDepth 20000
set_option linter.unusedSimpArgs false
structure OwnI (w : World) (base : Nat) (t : TypeId) (k : Nat) (v : Value) (L : List (List Value)) : Prop where
  own : w.ownsRow base t k v L.length L.flatten
  each : ∀ c ∈ L, c.length = k
theorem flat_len {k : Nat} : ∀ L : List (List Value), (∀ c ∈ L, c.length = k) → L.flatten.length = L.length * k
  | [], _ => by simp
  | c :: L, h => by
    rw [List.flatten_cons, List.length_append, flat_len L (fun x hx => h x (by simp [hx])), h c (by simp), List.length_cons, Nat.add_mul]; omega
theorem flat_get {k : Nat} (L : List (List Value)) (hL : ∀ c ∈ L, c.length = k) (j : Nat) (hj : j < L.length) : (L.flatten.drop (j * k)).take k = L[j] := by
  induction L generalizing j with
  | nil => simp at hj
  | cons e L ih =>
    have he : e.length = k := hL e (by simp)
    rw [List.flatten_cons]
    cases j with
    | zero => rw [Nat.zero_mul, List.drop_zero]; exact List.take_left' he
    | succ j =>
      have := ih (fun x hx => hL x (by simp [hx])) j (by simpa using hj)
      rw [show (j + 1) * k = e.length + j * k by rw [he, Nat.add_mul]; omega, List.drop_length_add_append, this]
      rfl
theorem OwnI.nil (w : World) (base : Nat) (t : TypeId) (k : Nat) : OwnI w base t k (.slice none 0 0) [] := ⟨World.ownsRow_nil w base t k, by simp⟩
theorem OwnI.isSlice {w : World} {base : Nat} {t : TypeId} {k : Nat} {v : Value} {L : List (List Value)} (h : OwnI w base t k v L) : ∃ x c, v = .slice x L.length c := by
  rcases h.own.2 with ⟨rfl, h0⟩ | ⟨g, cap, cur, rfl, _⟩
  · exact ⟨none, 0, by rw [h0]⟩
  · exact ⟨_, _, rfl⟩
theorem OwnI.congr {w w' : World} {base : Nat} {t : TypeId} {k : Nat} {v : Value} {L : List (List Value)} (h : OwnI w base t k v L) (hk : ∀ g, v.ownBlock = some g → w'.heap[g]? = w.heap[g]?) : OwnI w' base t k v L := by
  refine ⟨⟨h.own.1, ?_⟩, h.each⟩
  rcases h.own.2 with h' | ⟨g, cap, cur, h1, h2, h3, h4⟩
  · exact .inl h'
  · exact .inr ⟨g, cap, cur, h1, h2, (hk g (by rw [h1]; rfl)).trans h3, h4⟩
theorem OwnI.blockLt {w : World} {base : Nat} {t : TypeId} {k : Nat} {v : Value} {L : List (List Value)} (h : OwnI w base t k v L) (g : Nat) (hg : v.ownBlock = some g) : g < w.heap.size ∧ base ≤ g ∧ ∃ cur, w.heap[g]? = some (.cells cur t (0, 0)) := by
  rcases h.own.2 with ⟨rfl, _⟩ | ⟨g', cap, cur, rfl, h2, h3, _⟩
  · cases hg
  · obtain rfl : g' = g := by simpa [Value.ownBlock] using hg
    exact ⟨(Array.getElem?_eq_some_iff.1 h3).1, h2, cur, h3⟩
theorem OwnI.far {w w' : World} {base : Nat} {t : TypeId} {k : Nat} {v : Value} {L : List (List Value)} (h : OwnI w base t k v L) (hb : Below w.heap.size w w') : OwnI w' base t k v L := h.congr fun g hg => hb.block g (h.blockLt g hg).1
theorem OwnI.less {w : World} {base base' : Nat} {t : TypeId} {k : Nat} {v : Value} {L : List (List Value)} (h : OwnI w base t k v L) (hb : base' ≤ base) : OwnI w base' t k v L := by
  refine ⟨⟨h.own.1, ?_⟩, h.each⟩
  rcases h.own.2 with h' | ⟨g, cap, cur, h1, h2, h3⟩
  · exact .inl h'
  · exact .inr ⟨g, cap, cur, h1, by omega, h3⟩
theorem OwnI.at_ {w : World} {base : Nat} {t : TypeId} {k : Nat} {x : Option Addr} {n c : Nat} {L : List (List Value)} (h : OwnI w base t k (.slice x n c) L) (j : Nat) (hj : j < L.length) : ∃ g, x = some ⟨g, 0, none⟩ ∧ n = L.length ∧ w.rangeAt g (j * k) L[j] := by
  rcases h.own.2 with ⟨h1, h0⟩ | ⟨g, cap', cur, h1, _, hg, hc, hm, hs, ht⟩
  · omega
  · cases h1
    refine ⟨g, rfl, rfl, fun i v hv => ?_⟩
    have hi : i < k := by have := (List.getElem?_eq_some_iff.1 hv).1; rw [h.each _ (List.getElem_mem hj)] at this; exact this
    rw [cell_of_row w g _ _ _ _ hg, ← Array.getElem?_toList]
    have e := flat_get L h.each j hj
    rw [← ht] at e
    have hlt : j * k + i < L.length * k := by
      have := Nat.mul_le_mul_right k (show j + 1 ≤ L.length from hj)
      rw [Nat.add_mul] at this; omega
    rw [← e, List.getElem?_take_of_lt hi, List.getElem?_drop, List.getElem?_take_of_lt hlt] at hv
    exact hv
theorem OwnI.src {w : World} {base : Nat} {t : TypeId} {k : Nat} {g n c : Nat} {L : List (List Value)} (h : OwnI w base t k (.slice (some ⟨g, 0, none⟩) n c) L) : n = L.length ∧ ∀ j u, L.flatten[j]? = some u → w.cell? ((⟨g, 0, none⟩ : Addr).add j) = some u := by
  rcases h.own.2 with ⟨h1, h0⟩ | ⟨g', cap', cur, h1, _, hg, hc, hm, hs, ht⟩
  · cases h1
  · cases h1
    refine ⟨rfl, fun j u hu => ?_⟩
    rw [show (⟨g, 0, none⟩ : Addr).add j = ⟨g, 0 + j, none⟩ by unfold Addr.add; split <;> simp_all, cell_of_row w g _ _ _ _ hg, ← Array.getElem?_toList, Nat.zero_add]
    rw [← ht, List.getElem?_take] at hu
    split at hu
    · exact hu
    · cases hu
section
variable {P : Program}
theorem OwnI.app {w : World} {base : Nat} {t : TypeId} {k : Nat} {v : Value} {L : List (List Value)} (h : OwnI w base t k v L) (st ty : TypeId) {z : Value} {by_ : Nat} (hst : P.underlying st = some (.slice t)) (hi : (P.info? t).map (fun i => (i.zero, i.size, i.bytes)) = some (some z, k, by_)) (hz : z.cells.size = k) (hk : 0 < k)
    (c : List Value) (hc : c.length = k) (h1 : ∀ u ∈ c, u.oneCell' = true) (g : Nat) (hg : w.rangeAt g 0 c) (hln : L.length ≤ 1000000) (hby : by_ ≤ 1000) (hbase : base ≤ w.heap.size) :
    ∃ v' w', (Builtin.append_ #[st, st] ty #[v, .slice (some ⟨g, 0, none⟩) 1 1]).run P w = .ok v' w' ∧ OwnI w' base t k v' (L ++ [c]) ∧ w.grownBy w' v.ownBlock ∧ (v'.ownBlock = v.ownBlock ∨ v'.ownBlock = some w.heap.size) := by
  obtain ⟨i0, hi, hz0, hz1, hz2⟩ := info_parts hi
  obtain ⟨v', w', hr, h2, h3, _, h5⟩ := run_append_own_at (P := P) w base st ty t i0 _ k by_ hst hi hz0 hz1 hz2 hz hk v L.length L.flatten h.own ⟨g, 0, none⟩ 1 1 c (by omega) (fun j u hu => by rw [show (⟨g, 0, none⟩ : Addr).add j = ⟨g, 0 + j, none⟩ by unfold Addr.add; split <;> simp_all]; exact hg j u hu) h1 (by simp [maxLen]; omega)
    (by have := Nat.mul_le_mul (show L.length + 1 ≤ 1000001 by omega) hby; omega) hbase
  refine ⟨v', w', hr, ⟨?_, fun x hx => ?_⟩, h3, h5⟩
  · rw [List.length_append, show (L ++ [c]).flatten = L.flatten ++ c by simp]
    exact h2
  · rcases List.mem_append.1 hx with h' | h'
    · exact h.each x h'
    · rw [List.mem_singleton.1 h']; exact hc
theorem wpList_appx {ops : Array Oper} {rest : List Oper} {o : Oper} {a : Act} {w : World} {Q : Exit → Act → World → Prop} (hgd : o.guard = none) (d s : Operand) (dT sT : TypeId) (ho : o.op = .call { callee := .builtin .append, args := #[d, s], argTypes := #[dT, sT] }) (dv sv v : Value) (w' : World) (hd : a.eval d = dv) (hs : a.eval s = sv) (hrun : (Builtin.append_ #[dT, sT] o.type #[dv, sv]).run P w = .ok v w')
    (h : wpList P ops Q rest (a.put o.dst v) w') : wpList P ops Q (o :: rest) a w :=
  wpList_plain hgd fun _ hK => wpx_app d s dT sT ho dv sv v w' hd hs hrun (hK _ _ h)
theorem fill_one {k : Nat} (f : Nat → Value) (cs : List Value) (hc : cs.length = k) : Instr.fill (fun i => some (i * k, k)) ((Array.range (1 * k)).map f) [(0, .agg cs.toArray)] = some cs.toArray := by
  have e : (Array.range (1 * k)).map f = (([] : List Value) ++ (List.range (1 * k)).map f).toArray := by simp [← List.toArray_range]
  rw [e]
  have := fill_tile (fun i => some (i * k, k)) [(0, .agg cs.toArray, cs)] [] ((List.range (1 * k)).map f) ⟨by simp [hc], rfl, trivial⟩ (by simp [tileL, hc])
  simpa [tileL] using this
theorem wp_bs1 {o : Oper} {a : Act} {w : World} {K : Act → World → Prop} {Q : Exit → Act → World → Prop} (t e : TypeId) (x : Operand) (ho : o.op = .buildSlice t 1 #[(0, x)]) (cs : List Value) (hx : a.eval x = .agg cs.toArray) {z : Value} {k by_ : Nat}
    (hu : P.underlying t = some (.slice e)) (hi : (P.info? e).map (fun i => (i.zero, i.size, i.bytes)) = some (some z, k, by_)) (hk : 0 < k) (hk2 : k ≤ 1000) (hc : cs.length = k)
    (h : K (a.put o.dst (.slice (some ⟨w.heap.size, 0, none⟩) 1 1)) (w.alloc (.cells cs.toArray e))) : o.wp P a w K Q := by
  obtain ⟨i0, hi, hz0, hz1, hz2⟩ := info_parts hi
  refine wp_buildSlice t e 1 _ ho cs.toArray i0 z hu hi hz0 (by rw [hz1]; omega) (by rw [hz1]; omega) ?_ h
  rw [hz1]
  simp only [List.map_toArray, List.map_cons, List.map_nil, hx]
  exact fill_one _ cs hc
theorem OwnI.one (w : World) (t : TypeId) (k : Nat) (c : List Value) (hc : c.length = k) : OwnI (w.alloc (.cells c.toArray t)) w.heap.size t k (.slice (some ⟨w.heap.size, 0, none⟩) 1 1) [c] := ⟨⟨by simp [hc], .inr ⟨_, _, _, rfl, Nat.le_refl _, heap_alloc_new w _, by simp, by simp [maxLen], by simp [hc], by simp [← hc]⟩⟩, by simpa using hc⟩
theorem OwnI.empty (w : World) (t : TypeId) (k : Nat) : OwnI (w.alloc (.cells #[] t)) w.heap.size t k (.slice (some ⟨w.heap.size, 0, none⟩) 0 0) [] := ⟨⟨by simp, .inr ⟨_, _, _, rfl, Nat.le_refl _, heap_alloc_new w _, by simp, by simp [maxLen], by simp, by simp⟩⟩, by simp⟩
end
end Go.Proofs.YtfainlfiphdaeaaGreatDoor
namespace Go.Proofs.YtfainlfiphdaeaaGreatDoor
open Go Go.RowKit
section
variable {P : Program} {ops : Array Oper} {Q : Exit → Act → World → Prop} {md : Region.Mode} {T S : World → Prop} {D : Nat}
def wpAnyT (P : Program) (md : Region.Mode) (ops : Array Oper) (Q : Exit → Act → World → Prop) (T S : World → Prop) (D : Nat) : Nat → Array Bool → Act → World → Prop
  | 0, listed, a, w => Region.ready md ops listed = [] ∧ Q .normal a w
  | fuel + 1, listed, a, w =>
    (Region.ready md ops listed = [] → Q .normal a w) ∧
    ∀ i ∈ Region.ready md ops listed, wpOp P ops Q i (fun a' w' => (T w' ∧ ((listed.setIfInBounds i true).getD D true = false → S w')) ∧ wpAnyT P md ops Q T S D fuel (listed.setIfInBounds i true) a' w') a w
theorem wpAny_of_gateT : ∀ (fuel : Nat) (listed : Array Bool) (a : Act) (w : World), wpAnyT P md ops Q T S D fuel listed a w → wpAny P md ops Q fuel listed a w
  | 0, _, _, _, h => h
  | fuel + 1, _, _, _, h => ⟨h.1, fun i hi => wpOp_mono (fun a' w' h' => wpAny_of_gateT fuel _ a' w' h'.2) (h.2 i hi)⟩
theorem wpAnyT_first {i : Nat} {oi : Oper} {v : Value} {U : World → Prop} (hi : ops[i]? = some oi) (hsel : ∀ (j : Nat) (o : Oper) cs b, ops[j]? = some o → o.op ≠ .select cs b)
    (hQ : ∀ c a w, Q (.panic c) (a.put oi.dst v) w → Q (.panic c) a w) (hD : i ≠ D)
    (hU : (∀ w, T w → U w) ∨ ((∀ w, S w → U w) ∧ ∃ oD, ops[D]? = some oD ∧ ∃ e ∈ oD.after, Region.binds md e = true ∧ e.on = i)) :
    ∀ (fuel : Nat) (listed : Array Bool) (a : Act) (w : World),
      (∀ j oj, ops[j]? = some oj → j ≠ i → listed.getD j true = false → (∀ e ∈ oj.after, Region.binds md e = true → e.on ≠ i) → oi.apart ops oj = true) →
      i ∈ Region.ready md ops listed → ((∀ w, T w → U w) ∨ listed.getD D true = false) → YieldsIf P ops U oi v a → T w → (listed.getD D true = false → S w) →
      wpAnyT P md ops Q T S D fuel (listed.setIfInBounds i true) (a.put oi.dst v) w → wpAnyT P md ops Q T S D (fuel + 1) listed a w := by
  have hUw : ∀ (listed : Array Bool) w, ((∀ w, T w → U w) ∨ listed.getD D true = false) → T w → (listed.getD D true = false → S w) → U w := fun listed w h1 h0 h2 => by
    rcases h1 with h | h
    · exact h w h0
    · rcases hU with h' | ⟨h', _⟩
      · exact h' w h0
      · exact h' w (h2 h)
  intro fuel
  induction fuel with
  | zero =>
    intro listed a w _ hr hg hy hT hS H
    refine ⟨fun h => (by rw [h] at hr; cases hr), fun j hj => ?_⟩
    by_cases hji : j = i
    · subst hji; exact hy.wpOp hi (hUw listed w hg hT hS) ⟨⟨hT, fun h => hS (by rwa [getD_set_ne true hD] at h)⟩, H⟩
    · have := ready_mono hj hji
      rw [H.1] at this
      cases this
  | succ fuel ih =>
    intro listed a w hfree hr hg hy hT hS H
    refine ⟨fun h => (by rw [h] at hr; cases hr), fun j hj => ?_⟩
    by_cases hji : j = i
    · subst hji; exact hy.wpOp hi (hUw listed w hg hT hS) ⟨⟨hT, fun h => hS (by rwa [getD_set_ne true hD] at h)⟩, H⟩
    · have h1 := H.2 j (ready_mono hj hji)
      obtain ⟨hjun, oj, hoj, hall⟩ := mem_ready.1 hj
      have hnot : ∀ e ∈ oj.after, Region.binds md e = true → e.on ≠ i := fun e he hb heq => by
        have h1 := hall e he hb
        have h0 := (mem_ready.1 hr).1
        rw [heq] at h1
        rcases Nat.lt_or_ge i listed.size with h' | h'
        · simp [h'] at h0 h1; rw [h0] at h1; cases h1
        · simp [Array.getElem?_eq_none h'] at h1
      have h2 := wpOp_putIf hoj (hfree j oj hoj hji hjun hnot) (fun cs b => hsel i oi cs b hi) (fun cs b => hsel j oj cs b hoj) hQ hy h1
      have hfree' : ∀ k ok, ops[k]? = some ok → k ≠ i → (listed.setIfInBounds j true).getD k true = false →
          (∀ e ∈ ok.after, Region.binds md e = true → e.on ≠ i) → oi.apart ops ok = true := fun k ok hk hki hun hno => by
        refine hfree k ok hk hki ?_ hno
        by_cases hjk : j = k
        · subst hjk; exact hjun
        · rw [getD_set_ne true hjk] at hun; exact hun
      have hg' : (∀ w, T w → U w) ∨ (listed.setIfInBounds j true).getD D true = false := by
        rcases hU with h | ⟨_, oD, hoD, e, he, hb, hon⟩
        · exact .inl h
        · rcases hg with h | h
          · exact .inl h
          · refine .inr ?_
            have hjD : j ≠ D := fun e' => by
              subst e'
              obtain rfl : oj = oD := Option.some.inj (hoj.symm.trans hoD)
              exact hnot e he hb hon
            rw [getD_set_ne true hjD]; exact h
      refine wpOp_mono (fun a' w' h3 => ?_) h2
      have hS' : (listed.setIfInBounds j true).getD D true = false → S w' := fun h => h3.2.1.2 (by rw [Array.setIfInBounds_comm _ _ (Ne.symm hji), getD_set_ne true hD]; exact h)
      refine ⟨⟨h3.2.1.1, hS'⟩, ih (listed.setIfInBounds j true) a' w' hfree' (ready_mono hr (Ne.symm hji)) hg' h3.1 h3.2.1.1 hS' ?_⟩
      rw [Array.setIfInBounds_comm _ _ hji]
      exact h3.2.2
theorem wpAnyT_held {i : Nat} {oi : Oper} {v : Value} {fuel : Nat} {listed : Array Bool} {a : Act} {w : World} (hi : ops[i]? = some oi)
    (hs : Region.noSelect ops = true) (hf : Region.free md ops listed i = true) (hr : (Region.ready md ops listed).contains i = true)
    (hQ : ∀ c a w, Q (.panic c) (a.put oi.dst v) w → Q (.panic c) a w) (hD : (i == D) = false) (hT : T w) (hS : listed.getD D true = false → S w) (hw : Region.wanted oi (yielded ops a.tmps) = true)
    (hy : ∀ w, T w → (execOp a.eval oi).run P w = .ok (.value v) w)
    (h : wpAnyT P md ops Q T S D fuel (listed.setIfInBounds i true) (a.put oi.dst v) w) : wpAnyT P md ops Q T S D (fuel + 1) listed a w :=
  wpAnyT_first (U := T) hi (Region.noSelect_spec hs) hQ (by simpa using hD) (.inl fun _ h => h) fuel listed a w (Region.free_spec hi hf) (by simpa using hr) (.inl fun _ h => h) (.inl ⟨hw, hy⟩) hT hS h
theorem wpAnyT_one {i : Nat} {o : Oper} {fuel : Nat} {listed : Array Bool} {a : Act} {w : World} (hi : ops[i]? = some o) (hr : Region.ready md ops listed = [i]) (hw : Region.wanted o (yielded ops a.tmps) = true)
    (h : ∀ K' : Act → World → Prop, Shut (∀ a w, T w → ((listed.setIfInBounds i true).getD D true = false → S w) → wpAnyT P md ops Q T S D fuel (listed.setIfInBounds i true) a w → K' a w) → Oper.wp P o a w K' Q) : wpAnyT P md ops Q T S D (fuel + 1) listed a w :=
  ⟨fun h0 => (by rw [hr] at h0; cases h0), fun j hj => by
    rw [hr] at hj
    obtain rfl : j = i := by simpa using hj
    refine wpOp_step hi (fun K' hK => ?_)
    rw [if_pos hw]
    exact h K' (fun a w h0 h1 h2 => hK a w ⟨⟨h0, h1⟩, h2⟩)⟩
theorem wpAnyT_done {listed : Array Bool} {a : Act} {w : World} (hr : Region.ready md ops listed = []) (h : Q .normal a w) :
    ∀ fuel, wpAnyT P md ops Q T S D fuel listed a w
  | 0 => ⟨hr, h⟩
  | _ + 1 => ⟨fun _ => h, by rw [hr]; simp⟩
theorem wp_region_gateT {id : Nat} {a : Act} {w : World} (T S : World → Prop) (D : Nat) (hm : P.follows .mixedOrders = true)
    (h : wpAnyT P .any ops Q T S D ops.size (Array.replicate ops.size false) a w.drew) : (Code.region id ops true).wp P Q a w :=
  wp_region_any hm (wpAny_of_gateT _ _ _ _ h)
end
end Go.Proofs.YtfainlfiphdaeaaGreatDoor
namespace Go.Proofs.YtfainlfiphdaeaaGreatDoor
open Go Go.RowKit
section
variable {P : Program} {ops : Array Oper} {Q : Exit → Act → World → Prop} {md : Region.Mode} {T S : World → Prop} {D : Nat}
theorem wpAnyT_load {i : Nat} {dst : Option Tmp} {ty : TypeId} {x : Operand} {b o : Nat} {cs : List Value} {d : TypeDesc} {fuel : Nat} {listed : Array Bool} {a : Act} {w : World}
    (hop : (ops[i]?).map (fun o => (o.dst, o.op)) = some (dst, .load ty x)) (hw : (ops[i]?).map (fun o => Region.wanted o (yielded ops a.tmps)) = some true)
    (hs : Region.noSelect ops = true) (hf : Region.free md ops listed i = true) (hr : (Region.ready md ops listed).contains i = true)
    (hQ : ∀ c a w, Q (.panic c) (a.put dst (.agg cs.toArray)) w → Q (.panic c) a w) (hD : (i == D) = false) (hT : T w) (hS : listed.getD D true = false → S w)
    (hx : a.eval x = .pointer (some ⟨b, o, none⟩)) (hc : ∀ w, T w → w.rangeAt b o cs) (hu : P.underlying ty = some d) (hd : d.isRow = true) (hi : (P.info? ty).map (·.size) = some cs.length)
    (h : wpAnyT P md ops Q T S D fuel (listed.setIfInBounds i true) (a.put dst (.agg cs.toArray)) w) : wpAnyT P md ops Q T S D (fuel + 1) listed a w := by
  cases ho : ops[i]? with
  | none => rw [ho] at hop; cases hop
  | some oi =>
    rw [ho] at hop hw
    simp only [Option.map_some, Option.some.injEq, Prod.mk.injEq] at hop hw
    obtain ⟨rfl, hop⟩ := hop
    exact wpAnyT_first (U := T) ho (Region.noSelect_spec hs) hQ (by simpa using hD) (.inl fun _ h => h) fuel listed a w (Region.free_spec ho hf) (by simpa using hr) (.inl fun _ h => h) (yieldsIf_load_mid hw ty x hop b o hx cs d hc hu hd hi) hT hS h
theorem wpAnyT_skip {i : Nat} {oi : Oper} {fuel : Nat} {listed : Array Bool} {a : Act} {w : World} (hi : ops[i]? = some oi)
    (hs : Region.noSelect ops = true) (hf : Region.free md ops listed i = true) (hr : (Region.ready md ops listed).contains i = true)
    (hQ : ∀ c a w, Q (.panic c) (a.put oi.dst undef) w → Q (.panic c) a w) (hD : (i == D) = false) (hT : T w) (hS : listed.getD D true = false → S w) (hw : Region.wanted oi (yielded ops a.tmps) = false)
    (h : wpAnyT P md ops Q T S D fuel (listed.setIfInBounds i true) (a.put oi.dst undef) w) : wpAnyT P md ops Q T S D (fuel + 1) listed a w :=
  wpAnyT_first (U := T) hi (Region.noSelect_spec hs) hQ (by simpa using hD) (.inl fun _ h => h) fuel listed a w (Region.free_spec hi hf) (by simpa using hr) (.inl fun _ h => h) (.inr ⟨hw, rfl⟩) hT hS h
end
end Go.Proofs.YtfainlfiphdaeaaGreatDoor
namespace Go.Proofs.YtfainlfiphdaeaaGreatDoor
open Go.RowKit
set_option maxRecDepth 20000
set_option linter.unusedSimpArgs false
theorem part_midE {P : Program} (w : World) (t : TypeId) (n : Nat) (d : TypeDesc) (cs : List Value) (off : Nat) (hu : P.underlying t = some d) (hd : (match d with | .struct _ | .array _ _ => true | _ => false) = true) (hi : (P.info? t).map (·.size) = some n) :
    (part t cs.toArray off).run P w = .ok (.agg ((cs.drop off).take n).toArray) w := by
  cases hq : P.info? t with
  | none => simp [hq] at hi
  | some i =>
    have hs : i.size = n := by simpa [hq] using hi
    cases d <;> simp_all [part, isAgg, run_underlying hu, sizeOf, typeInfo, List.extract]
theorem part_one {P : Program} (w : World) (t : TypeId) (k : IntKind) (cs : List Value) (off : Nat) (v : Value) (hu : P.underlying t = some (.int k)) (hv : cs[off]? = some v) : (part t cs.toArray off).run P w = .ok v w := by
  simp [part, isAgg, run_underlying hu, hv]
theorem eqFields_2 {P : Program} (w : World) (d : Nat) (xs ys : Array Value) (t1 t2 : TypeId) (o1 o2 : Nat) (a1 b1 a2 b2 : Value) (r1 r2 : Bool) (h1 : (part t1 xs o1).run P w = .ok a1 w) (k1 : (part t1 ys o1).run P w = .ok b1 w) (h2 : (part t2 xs o2).run P w = .ok a2 w) (k2 : (part t2 ys o2).run P w = .ok b2 w)
    (e1 : (Op.equalIn d t1 a1 b1).run P w = .ok r1 w) (e2 : (Op.equalIn d t2 a2 b2).run P w = .ok r2 w) : ∀ L : List Field, L.map (fun f => (f.name != "_", f.type, f.offset)) = [(true, t1, o1), (true, t2, o2)] → (Op.eqFields d xs ys L).run P w = .ok (r1 && r2) w
  | [], hf => by simp at hf
  | [_], hf => by simp at hf
  | _ :: _ :: _ :: _, hf => by simp at hf
  | [f, g], hf => by
    simp only [List.map_cons, List.map_nil, List.cons.injEq, Prod.mk.injEq, and_true, bne_iff_ne, ne_eq] at hf
    obtain ⟨⟨q1, q2, q3⟩, p1, p2, p3⟩ := hf
    cases r1 <;> cases r2 <;> simp only [Op.eqFields, q1, q2, q3, p1, p2, p3, ne_eq, not_false_eq_true, if_true, Sem.run_bind, h1, h2, k1, k2, e1, e2, Result.andThen_ok, Bool.not_true, Bool.not_false, Bool.false_eq_true, if_false, Sem.run_pure, Bool.and_true, Bool.and_false]
theorem eqFields_3 {P : Program} (w : World) (d : Nat) (xs ys : Array Value) (t1 t2 t3 : TypeId) (o1 o2 o3 : Nat) (a1 b1 a2 b2 a3 b3 : Value) (r1 r2 r3 : Bool) (h1 : (part t1 xs o1).run P w = .ok a1 w) (k1 : (part t1 ys o1).run P w = .ok b1 w) (h2 : (part t2 xs o2).run P w = .ok a2 w) (k2 : (part t2 ys o2).run P w = .ok b2 w) (h3 : (part t3 xs o3).run P w = .ok a3 w) (k3 : (part t3 ys o3).run P w = .ok b3 w)
    (e1 : (Op.equalIn d t1 a1 b1).run P w = .ok r1 w) (e2 : (Op.equalIn d t2 a2 b2).run P w = .ok r2 w) (e3 : (Op.equalIn d t3 a3 b3).run P w = .ok r3 w) : ∀ L : List Field, L.map (fun f => (f.name != "_", f.type, f.offset)) = [(true, t1, o1), (true, t2, o2), (true, t3, o3)] → (Op.eqFields d xs ys L).run P w = .ok (r1 && r2 && r3) w
  | [], hf => by simp at hf
  | [_], hf => by simp at hf
  | [_, _], hf => by simp at hf
  | _ :: _ :: _ :: _ :: _, hf => by simp at hf
  | [f, g, i], hf => by
    simp only [List.map_cons, List.map_nil, List.cons.injEq, Prod.mk.injEq, and_true, bne_iff_ne, ne_eq] at hf
    obtain ⟨⟨q1, q2, q3⟩, ⟨p1, p2, p3⟩, s1, s2, s3⟩ := hf
    cases r1 <;> cases r2 <;> cases r3 <;> simp only [Op.eqFields, q1, q2, q3, p1, p2, p3, s1, s2, s3, ne_eq, not_false_eq_true, if_true, Sem.run_bind, h1, h2, h3, k1, k2, k3, e1, e2, e3, Result.andThen_ok, Bool.not_true, Bool.not_false, Bool.false_eq_true, if_false, Sem.run_pure, Bool.and_true, Bool.and_false]
theorem dot_fields : (Tryz.prog.fieldsOf 26).toList.map (fun f => (f.name != "_", f.type, f.offset)) = [(true, 5, 0), (true, 24, 1)] := by kernel_rfl
theorem dot_under : Tryz.prog.underlying 26 = some (.struct (Tryz.prog.fieldsOf 26)) := by kernel_rfl
theorem dot_held : Tryz.prog.stoodInHeld 26 = false := by kernel_rfl
theorem dot_eqIn (d : Nat) (a s a' s' : Int) (wx : World) : (Op.equalIn (d + 1 + 1) 26 (.agg (dotC a s).toArray) (.agg (dotC a' s').toArray)).run Tryz.prog wx = .ok ((a == a') && (s == s')) wx := by
  rw [run_equalIn_struct wx _ 26 _ _ dot_under dot_held]
  exact eqFields_2 wx _ _ _ _ _ _ _ (.int .u8 a) (.int .u8 a') (.int .u32 s) (.int .u32 s') _ _ (part_one wx _ _ (dotC a s) 0 _ Tryz.underlying5 rfl) (part_one wx _ _ (dotC a' s') 0 _ Tryz.underlying5 rfl) (part_one wx _ _ (dotC a s) 1 _ Tryz.underlying24 rfl) (part_one wx _ _ (dotC a' s') 1 _ Tryz.underlying24 rfl)
    (run_equalIn_int wx d 5 .u8 .u8 a a' Tryz.underlying5) (run_equalIn_int wx d 24 .u32 .u32 s s' Tryz.underlying24) _ dot_fields
theorem dot_eql (a s a' s' : Int) (wx : World) : (binOp BinOp.eql 26 (.agg (dotC a s).toArray) (.agg (dotC a' s').toArray)).run Tryz.prog wx = .ok (.bool ((a == a') && (s == s'))) wx := by
  rw [run_eql_struct, dot_eqIn 9998]; rfl
theorem dot_neq (a s a' s' : Int) (wx : World) : (binOp BinOp.neq 26 (.agg (dotC a s).toArray) (.agg (dotC a' s').toArray)).run Tryz.prog wx = .ok (.bool (!((a == a') && (s == s')))) wx := by
  rw [run_neq_struct, dot_eqIn 9998]; rfl
theorem cells8 : Tryz.prog.cellsOf 5 = 1 := by kernel_rfl
theorem info8 : (Tryz.prog.info? 5).isSome = true := by kernel_rfl
theorem key_eqIn (d : Nat) (l m : List Int) (hl : l.length = 32) (hm : m.length = 32) (wx : World) : (Op.equalIn (d + 1 + 1) 23 (.agg (l.map (Value.int .u8)).toArray) (.agg (m.map (Value.int .u8)).toArray)).run Tryz.prog wx = .ok (l == m) wx :=
  run_equalIn_rows wx d .u8 l m Tryz.underlying23 Tryz.underlying5 cells8 info8 hl hm
theorem key_neq (l m : List Int) (hl : l.length = 32) (hm : m.length = 32) (wx : World) : (binOp BinOp.neq 23 (.agg (l.map (Value.int .u8)).toArray) (.agg (m.map (Value.int .u8)).toArray)).run Tryz.prog wx = .ok (.bool (!(l == m))) wx := by
  rw [run_neq_struct, key_eqIn 9998 l m hl hm]; rfl
theorem wrap_fields : (Tryz.prog.fieldsOf 73).toList.map (fun f => (f.name != "_", f.type, f.offset)) = [(true, 5, 0), (true, 26, 1), (true, 71, 3)] := by kernel_rfl
theorem wrap_under : Tryz.prog.underlying 73 = some (.struct (Tryz.prog.fieldsOf 73)) := by kernel_rfl
theorem wrap_held : Tryz.prog.stoodInHeld 73 = false := by kernel_rfl
theorem sizeData : (Tryz.prog.info? 71).map (·.size) = some 48 := by kernel_rfl
def wpEq (e f : Wp) : Bool := (e.too == f.too) && ((e.ea == f.ea) && (e.es == f.es)) && (e.data == f.data)
theorem wpEq_iff (e f : Wp) : wpEq e f = true ↔ e = f := by
  obtain ⟨a, b, c, d⟩ := e
  obtain ⟨a', b', c', d'⟩ := f
  unfold wpEq
  simp only [Bool.and_eq_true, beq_iff_eq, Wp.mk.injEq, and_assoc]
theorem wrap_eqIn (e f : Wp) (he : e.data.length = 48) (hf : f.data.length = 48) (wx : World) : (Op.equalIn 10000 73 (.agg e.cells.toArray) (.agg f.cells.toArray)).run Tryz.prog wx = .ok (wpEq e f) wx := by
  obtain ⟨_, q1, q2, q3, _⟩ := wp_parts e he
  obtain ⟨_, p1, p2, p3, _⟩ := wp_parts f hf
  have s1 := part_midE wx 26 2 _ e.cells 1 Tryz.underlying26 rfl sizeDot
  have s2 := part_midE wx 26 2 _ f.cells 1 Tryz.underlying26 rfl sizeDot
  have s3 := part_midE wx 71 48 _ e.cells 3 Tryz.underlying71 rfl sizeData
  have s4 := part_midE wx 71 48 _ f.cells 3 Tryz.underlying71 rfl sizeData
  rw [q2] at s1
  rw [p2] at s2
  rw [q3] at s3
  rw [p3] at s4
  rw [run_equalIn_struct wx 9999 73 _ _ wrap_under wrap_held]
  exact eqFields_3 wx _ _ _ _ _ _ _ _ _ (.int .u8 e.too) (.int .u8 f.too) _ _ _ _ _ _ _ (part_one wx _ _ e.cells 0 _ Tryz.underlying5 q1) (part_one wx _ _ f.cells 0 _ Tryz.underlying5 p1) s1 s2 s3 s4
    (run_equalIn_int wx 9998 5 .u8 .u8 e.too f.too Tryz.underlying5) (dot_eqIn 9997 _ _ _ _ wx) (run_equalIn_rows wx 9997 .u8 e.data f.data Tryz.underlying71 Tryz.underlying5 cells8 info8 he hf) _ wrap_fields
theorem wrap_neq (e f : Wp) (he : e.data.length = 48) (hf : f.data.length = 48) (wx : World) : (binOp BinOp.neq 73 (.agg e.cells.toArray) (.agg f.cells.toArray)).run Tryz.prog wx = .ok (.bool (!(wpEq e f))) wx := by
  rw [run_neq_struct, wrap_eqIn e f he hf]; rfl
end Go.Proofs.YtfainlfiphdaeaaGreatDoor
