/- Oi Fm5 Gate6 -/
import Derived.Test.YtfainlfiphdaeaaGreatDoorT01
import Derived.Maps.AppendAt
import Derived.Laws.AppendOwnNone
import Derived.Test.YtfainlfiphdaeaaGreatDoorT36
import Derived.Great.BuildSlice
import Derived.Test.YtfainlfiphdaeaaGreatDoorT37
import Derived.Test.YtfainlfiphdaeaaGreatDoorT33
namespace Go.Proofs.YtfainlfiphdaeaaGreatDoor
open Go.RowKit
set_option maxRecDepth 20000
set_option linter.unusedSimpArgs false
structure OwnI (w : World) (base : Nat) (t : TypeId) (k : Nat) (v : Value) (L : List (List Value)) : Prop where
  own : w.ownsRow base t k v L.length L.flatten
  each : ∀ c ∈ L, c.length = k
theorem flat_len {k : Nat} : ∀ L : List (List Value), (∀ c ∈ L, c.length = k) → L.flatten.length = L.length * k
  | [], _ => by simp
  | c :: L, h => by
    rw [List.flatten_cons, List.length_append, flat_len L (fun x hx => h x (by simp [hx])), h c (by simp), List.length_cons, Nat.add_mul]; omega
theorem flat_get {k : Nat} (L : List (List Value)) (hL : ∀ c ∈ L, c.length = k) (j : Nat) (hj : j < L.length) : (L.flatten.drop (j * k)).take k = L[j] := by
  induction L generalizing j with
  | nil => simp at hj
  | cons e L ih =>
    have he : e.length = k := hL e (by simp)
    rw [List.flatten_cons]
    cases j with
    | zero => rw [Nat.zero_mul, List.drop_zero]; exact List.take_left' he
    | succ j =>
      have := ih (fun x hx => hL x (by simp [hx])) j (by simpa using hj)
      rw [show (j + 1) * k = e.length + j * k by rw [he, Nat.add_mul]; omega, List.drop_length_add_append, this]
      rfl
theorem OwnI.nil (w : World) (base : Nat) (t : TypeId) (k : Nat) : OwnI w base t k (.slice none 0 0) [] := ⟨World.ownsRow_nil w base t k, by simp⟩
theorem OwnI.isSlice {w : World} {base : Nat} {t : TypeId} {k : Nat} {v : Value} {L : List (List Value)} (h : OwnI w base t k v L) : ∃ x c, v = .slice x L.length c := by
  rcases h.own.2 with ⟨rfl, h0⟩ | ⟨g, cap, cur, rfl, _⟩
  · exact ⟨none, 0, by rw [h0]⟩
  · exact ⟨_, _, rfl⟩
theorem OwnI.congr {w w' : World} {base : Nat} {t : TypeId} {k : Nat} {v : Value} {L : List (List Value)} (h : OwnI w base t k v L) (hk : ∀ g, v.ownBlock = some g → w'.heap[g]? = w.heap[g]?) : OwnI w' base t k v L := by
  refine ⟨⟨h.own.1, ?_⟩, h.each⟩
  rcases h.own.2 with h' | ⟨g, cap, cur, h1, h2, h3, h4⟩
  · exact .inl h'
  · exact .inr ⟨g, cap, cur, h1, h2, (hk g (by rw [h1]; rfl)).trans h3, h4⟩
theorem OwnI.blockLt {w : World} {base : Nat} {t : TypeId} {k : Nat} {v : Value} {L : List (List Value)} (h : OwnI w base t k v L) (g : Nat) (hg : v.ownBlock = some g) : g < w.heap.size ∧ base ≤ g ∧ ∃ cur, w.heap[g]? = some (.cells cur t (0, 0)) := by
  rcases h.own.2 with ⟨rfl, _⟩ | ⟨g', cap, cur, rfl, h2, h3, _⟩
  · cases hg
  · obtain rfl : g' = g := by simpa [Value.ownBlock] using hg
    exact ⟨(Array.getElem?_eq_some_iff.1 h3).1, h2, cur, h3⟩
theorem OwnI.far {w w' : World} {base : Nat} {t : TypeId} {k : Nat} {v : Value} {L : List (List Value)} (h : OwnI w base t k v L) (hb : Below w.heap.size w w') : OwnI w' base t k v L := h.congr fun g hg => hb.block g (h.blockLt g hg).1
theorem OwnI.less {w : World} {base base' : Nat} {t : TypeId} {k : Nat} {v : Value} {L : List (List Value)} (h : OwnI w base t k v L) (hb : base' ≤ base) : OwnI w base' t k v L := by
  refine ⟨⟨h.own.1, ?_⟩, h.each⟩
  rcases h.own.2 with h' | ⟨g, cap, cur, h1, h2, h3⟩
  · exact .inl h'
  · exact .inr ⟨g, cap, cur, h1, by omega, h3⟩
theorem OwnI.at_ {w : World} {base : Nat} {t : TypeId} {k : Nat} {x : Option Addr} {n c : Nat} {L : List (List Value)} (h : OwnI w base t k (.slice x n c) L) (j : Nat) (hj : j < L.length) : ∃ g, x = some ⟨g, 0, none⟩ ∧ n = L.length ∧ w.rangeAt g (j * k) L[j] := by
  rcases h.own.2 with ⟨h1, h0⟩ | ⟨g, cap', cur, h1, _, hg, hc, hm, hs, ht⟩
  · omega
  · cases h1
    refine ⟨g, rfl, rfl, fun i v hv => ?_⟩
    have hi : i < k := by have := (List.getElem?_eq_some_iff.1 hv).1; rw [h.each _ (List.getElem_mem hj)] at this; exact this
    rw [cell_of_row w g _ _ _ _ hg, ← Array.getElem?_toList]
    have e := flat_get L h.each j hj
    rw [← ht] at e
    have hlt : j * k + i < L.length * k := by
      have := Nat.mul_le_mul_right k (show j + 1 ≤ L.length from hj)
      rw [Nat.add_mul] at this; omega
    rw [← e, List.getElem?_take_of_lt hi, List.getElem?_drop, List.getElem?_take_of_lt hlt] at hv
    exact hv
theorem OwnI.src {w : World} {base : Nat} {t : TypeId} {k : Nat} {g n c : Nat} {L : List (List Value)} (h : OwnI w base t k (.slice (some ⟨g, 0, none⟩) n c) L) : n = L.length ∧ ∀ j u, L.flatten[j]? = some u → w.cell? ((⟨g, 0, none⟩ : Addr).add j) = some u := by
  rcases h.own.2 with ⟨h1, h0⟩ | ⟨g', cap', cur, h1, _, hg, hc, hm, hs, ht⟩
  · cases h1
  · cases h1
    refine ⟨rfl, fun j u hu => ?_⟩
    rw [show (⟨g, 0, none⟩ : Addr).add j = ⟨g, 0 + j, none⟩ by unfold Addr.add; split <;> simp_all, cell_of_row w g _ _ _ _ hg, ← Array.getElem?_toList, Nat.zero_add]
    rw [← ht, List.getElem?_take] at hu
    split at hu
    · exact hu
    · cases hu
section
variable {P : Program}
theorem OwnI.app {w : World} {base : Nat} {t : TypeId} {k : Nat} {v : Value} {L : List (List Value)} (h : OwnI w base t k v L) (st ty : TypeId) {z : Value} {by_ : Nat} (hst : P.underlying st = some (.slice t)) (hi : (P.info? t).map (fun i => (i.zero, i.size, i.bytes)) = some (some z, k, by_)) (hz : z.cells.size = k) (hk : 0 < k)
    (c : List Value) (hc : c.length = k) (h1 : ∀ u ∈ c, u.oneCell' = true) (g : Nat) (hg : w.rangeAt g 0 c) (hln : L.length ≤ 1000000) (hby : by_ ≤ 1000) (hbase : base ≤ w.heap.size) :
    ∃ v' w', (Builtin.append_ #[st, st] ty #[v, .slice (some ⟨g, 0, none⟩) 1 1]).run P w = .ok v' w' ∧ OwnI w' base t k v' (L ++ [c]) ∧ w.grownBy w' v.ownBlock ∧ (v'.ownBlock = v.ownBlock ∨ v'.ownBlock = some w.heap.size) := by
  obtain ⟨i0, hi, hz0, hz1, hz2⟩ := info_parts hi
  obtain ⟨v', w', hr, h2, h3, _, h5⟩ := run_append_own_at (P := P) w base st ty t i0 _ k by_ hst hi hz0 hz1 hz2 hz hk v L.length L.flatten h.own ⟨g, 0, none⟩ 1 1 c (by omega) (fun j u hu => by rw [show (⟨g, 0, none⟩ : Addr).add j = ⟨g, 0 + j, none⟩ by unfold Addr.add; split <;> simp_all]; exact hg j u hu) h1 (by simp [maxLen]; omega)
    (by have := Nat.mul_le_mul (show L.length + 1 ≤ 1000001 by omega) hby; omega) hbase
  refine ⟨v', w', hr, ⟨?_, fun x hx => ?_⟩, h3, h5⟩
  · rw [List.length_append, show (L ++ [c]).flatten = L.flatten ++ c by simp]
    exact h2
  · rcases List.mem_append.1 hx with h' | h'
    · exact h.each x h'
    · rw [List.mem_singleton.1 h']; exact hc
theorem wpList_appx {ops : Array Oper} {rest : List Oper} {o : Oper} {a : Act} {w : World} {Q : Exit → Act → World → Prop} (hgd : o.guard = none) (d s : Operand) (dT sT : TypeId) (ho : o.op = .call { callee := .builtin .append, args := #[d, s], argTypes := #[dT, sT] }) (dv sv v : Value) (w' : World) (hd : a.eval d = dv) (hs : a.eval s = sv) (hrun : (Builtin.append_ #[dT, sT] o.type #[dv, sv]).run P w = .ok v w')
    (h : wpList P ops Q rest (a.put o.dst v) w') : wpList P ops Q (o :: rest) a w :=
  wpList_plain hgd fun _ hK => wpx_app d s dT sT ho dv sv v w' hd hs hrun (hK _ _ h)
theorem fill_one {k : Nat} (f : Nat → Value) (cs : List Value) (hc : cs.length = k) : Instr.fill (fun i => some (i * k, k)) ((Array.range (1 * k)).map f) [(0, .agg cs.toArray)] = some cs.toArray := by
  have e : (Array.range (1 * k)).map f = (([] : List Value) ++ (List.range (1 * k)).map f).toArray := by simp [← List.toArray_range]
  rw [e]
  have := fill_tile (fun i => some (i * k, k)) [(0, .agg cs.toArray, cs)] [] ((List.range (1 * k)).map f) ⟨by simp [hc], rfl, trivial⟩ (by simp [tileL, hc])
  simpa [tileL] using this
theorem wp_bs1 {o : Oper} {a : Act} {w : World} {K : Act → World → Prop} {Q : Exit → Act → World → Prop} (t e : TypeId) (x : Operand) (ho : o.op = .buildSlice t 1 #[(0, x)]) (cs : List Value) (hx : a.eval x = .agg cs.toArray) {z : Value} {k by_ : Nat}
    (hu : P.underlying t = some (.slice e)) (hi : (P.info? e).map (fun i => (i.zero, i.size, i.bytes)) = some (some z, k, by_)) (hk : 0 < k) (hk2 : k ≤ 1000) (hc : cs.length = k)
    (h : K (a.put o.dst (.slice (some ⟨w.heap.size, 0, none⟩) 1 1)) (w.alloc (.cells cs.toArray e))) : o.wp P a w K Q := by
  obtain ⟨i0, hi, hz0, hz1, hz2⟩ := info_parts hi
  refine wp_buildSlice t e 1 _ ho cs.toArray i0 z hu hi hz0 (by rw [hz1]; omega) (by rw [hz1]; omega) ?_ h
  rw [hz1]
  simp only [List.map_toArray, List.map_cons, List.map_nil, hx]
  exact fill_one _ cs hc
theorem OwnI.one (w : World) (t : TypeId) (k : Nat) (c : List Value) (hc : c.length = k) : OwnI (w.alloc (.cells c.toArray t)) w.heap.size t k (.slice (some ⟨w.heap.size, 0, none⟩) 1 1) [c] := ⟨⟨by simp [hc], .inr ⟨_, _, _, rfl, Nat.le_refl _, heap_alloc_new w _, by simp, by simp [maxLen], by simp [hc], by simp [← hc]⟩⟩, by simpa using hc⟩
theorem OwnI.empty (w : World) (t : TypeId) (k : Nat) : OwnI (w.alloc (.cells #[] t)) w.heap.size t k (.slice (some ⟨w.heap.size, 0, none⟩) 0 0) [] := ⟨⟨by simp, .inr ⟨_, _, _, rfl, Nat.le_refl _, heap_alloc_new w _, by simp, by simp [maxLen], by simp, by simp⟩⟩, by simp⟩
end
end Go.Proofs.YtfainlfiphdaeaaGreatDoor
namespace Go.Proofs.YtfainlfiphdaeaaGreatDoor
open Go.RowKit
set_option maxRecDepth 20000
set_option linter.unusedSimpArgs false
theorem infoWrapF : (Tryz.prog.info? 73).map (fun i => (i.zero, i.size, i.bytes)) = some (some (.agg (Wp.cells ⟨0, 0, 0, List.replicate 48 0⟩).toArray), 51, 60) := by kernel_rfl
theorem wraps_src {w : World} {b off : Nat} {ws : List Wp} (hok : ∀ e ∈ ws, e.data.length = 48) (h : ∀ j (hj : j < ws.length), w.rangeAt b (off + j * 51) (ws[j]).cells) :
    ∀ j u, (ws.map Wp.cells).flatten[j]? = some u → w.cell? ((⟨b, off, none⟩ : Addr).add j) = some u := by
  intro j u hu
  have hall : ∀ c ∈ ws.map Wp.cells, c.length = 51 := fun c hc => by
    obtain ⟨e, he, rfl⟩ := List.mem_map.1 hc
    exact (wp_parts e (hok e he)).1
  have hlt := (List.getElem?_eq_some_iff.1 hu).1
  rw [flat_len _ hall, List.length_map] at hlt
  have hq : j / 51 < ws.length := by omega
  have hg := flat_get (ws.map Wp.cells) hall (j / 51) (by rw [List.length_map]; exact hq)
  rw [List.getElem_map] at hg
  have hr := h (j / 51) hq (j % 51) u (by
    rw [← hg, List.getElem?_take_of_lt (by omega), List.getElem?_drop, show j / 51 * 51 + j % 51 = j by omega]
    exact hu)
  rw [Addr.add_mid']
  rw [show off + j / 51 * 51 + j % 51 = off + j by omega] at hr
  exact hr
set_option maxHeartbeats 4000000 in
theorem wclone_any (x : Option Addr) (n c : Nat) (ws : List Wp) (w : World) (h : WrapsAt w x n c ws) (hl : n ≤ 1000) :
    Calls Tryz.prog 46 #[.slice x n c] w fun e w' => ∃ x' c', e = .returned (.slice x' n c') ∧ (∀ w2 : World, (∀ k, w.heap.size ≤ k → k < w'.heap.size → w2.heap[k]? = w'.heap[k]?) → WrapsAt w2 x' n c' ws) ∧ Below w.heap.size w w' := by
  have hn := h.len_eq
  cases x with
  | none =>
    have hc := h.nil rfl
    have hle := h.le
    obtain rfl : n = 0 := by omega
    subst hc
    have hnil : ∀ wx : World, (binOp BinOp.eql 27 (.slice none 0 0) (.slice none 0 0)).run Tryz.prog wx = .ok (.bool true) wx := fun _ => by kernel_rfl
    have HW : Veil (∀ w2 : World, WrapsAt w2 none 0 0 ws) := ⟨fun w2 => ⟨hn, by omega, by omega, fun _ => rfl, h.ok, .inl rfl⟩⟩
    clear h hn hle hl
    go_enter Tryz.func46, Tryz.ntmps46
    go_wp2
    go_ret
    exact ⟨none, 0, rfl, fun w2 _ => HW.out w2, Below.refl _ _⟩
  | some ad =>
    obtain ⟨i0, hi, hz0, hz1, hz2⟩ := info_parts infoWrapF
    have hE := OwnI.empty w 73 51
    have hb0 : Below w.heap.size w (w.alloc (.cells #[] 73)) := (Below.refl _ _).alloc (Nat.le_refl _) _
    have hnil : ∀ wx : World, (binOp BinOp.eql 27 (.slice (some ad) n c) (.slice none 0 0)).run Tryz.prog wx = .ok (.bool false) wx := fun _ => by kernel_rfl
    have hall : ∀ c ∈ ws.map Wp.cells, c.length = 51 := fun c hc => by
      obtain ⟨e, he, rfl⟩ := List.mem_map.1 hc
      exact (wp_parts e (h.ok e he)).1
    have hsrc : ∀ j u, (ws.map Wp.cells).flatten[j]? = some u → (w.alloc (.cells #[] 73)).cell? (ad.add j) = some u := by
      rcases (h.below hb0).at_ with h0 | ⟨b, off, hx, hc⟩
      · have : ws = [] := List.length_eq_zero_iff.1 (by omega)
        subst this
        intro j u hu
        simp at hu
      · cases hx
        exact wraps_src h.ok hc
    have hone : ∀ u ∈ (ws.map Wp.cells).flatten, u.oneCell' = true := fun u hu => by
      obtain ⟨l, hl, hu⟩ := List.mem_flatten.1 hu
      obtain ⟨e, he, rfl⟩ := List.mem_map.1 hl
      exact (wp_parts e (h.ok e he)).2.2.2.2 u hu
    obtain ⟨v1, w1, hr1, h2, h3, _, _⟩ := run_append_own_at (P := Tryz.prog) (w.alloc (.cells #[] 73)) w.heap.size 27 27 73 i0 _ 51 60 Tryz.underlying27 hi hz0 hz1 hz2 (by rfl) (by decide) (.slice (some ⟨w.heap.size, 0, none⟩) 0 0) 0 [] hE.own ad n c (ws.map Wp.cells).flatten (by rw [flat_len _ hall, List.length_map, hn]) hsrc hone (by simp [maxLen]; omega) (by omega) (by simp)
    have hb1 : Below w.heap.size w w1 := hb0.grown h3 (by simp) (fun k hk => by cases hk; exact Nat.le_refl _)
    have hown : OwnI w1 w.heap.size 73 51 v1 (ws.map Wp.cells) := ⟨by rw [List.length_map, ← hn]; simpa using h2, hall⟩
    have HW : Veil (∃ x' c', v1 = .slice x' n c' ∧ ∀ w2 : World, (∀ k, w.heap.size ≤ k → k < w1.heap.size → w2.heap[k]? = w1.heap[k]?) → WrapsAt w2 x' n c' ws) := ⟨by
      have hok := h.ok
      rcases hown.own.2 with ⟨rfl, h0⟩ | ⟨g, cap', cur, hv, _, hg, hc, hm, hs, ht⟩
      · rw [List.length_map] at h0
        exact ⟨none, 0, by rw [show n = 0 by omega], fun w2 _ => ⟨by omega, by omega, by omega, fun _ => rfl, hok, .inl (by omega)⟩⟩
      · rw [List.length_map, ← hn] at hv hc
        refine ⟨some ⟨g, 0, none⟩, cap', hv, fun w2 hk2 => ⟨hn, hc, (by unfold maxLen at hm; omega), (fun h => by cases h), hok, ?_⟩⟩
        refine .inr ⟨g, 0, rfl, fun j hj => ?_⟩
        rw [hv] at hown
        obtain ⟨g', hx', _, hr'⟩ := (hown.congr (w' := w2) fun q hq => hk2 q (hown.blockLt q hq).2.1 (hown.blockLt q hq).1).at_ j (by rw [List.length_map]; exact hj)
        cases hx'
        rw [List.getElem_map] at hr'
        rw [Nat.zero_add]
        exact hr'⟩
    have HR := Veil.mk (And.intro hr1 hb1)
    clear h hE hb0 hall hsrc hone hr1 h2 h3 hb1 hown hi hz0 hz1 hz2 hn hl
    go_enter Tryz.func46, Tryz.ntmps46
    go_wp2_with (at_builtin; refine wpList_appx rfl _ _ 27 27 rfl _ _ _ _ rfl rfl HR.out.1 ?_)
    go_ret
    obtain ⟨x', c', hv, hw⟩ := HW.out
    exact ⟨x', c', by rw [← hv]; rfl, hw, HR.out.2⟩
end Go.Proofs.YtfainlfiphdaeaaGreatDoor
namespace Go.Proofs.YtfainlfiphdaeaaGreatDoor
open Go Go.RowKit
section
variable {P : Program} {ops : Array Oper} {Q : Exit → Act → World → Prop} {md : Region.Mode} {T S : World → Prop} {D : Nat}
theorem wpAnyT_two {i j : Nat} {oi oj : Oper} {fuel : Nat} {listed : Array Bool} {a : Act} {w : World} (hi : ops[i]? = some oi) (hj : ops[j]? = some oj) (hr : Region.ready md ops listed = [i, j])
    (hwi : Region.wanted oi (yielded ops a.tmps) = true) (hwj : Region.wanted oj (yielded ops a.tmps) = true)
    (h1 : ∀ K' : Act → World → Prop, Shut (∀ a w, T w → ((listed.setIfInBounds i true).getD D true = false → S w) → wpAnyT P md ops Q T S D fuel (listed.setIfInBounds i true) a w → K' a w) → Oper.wp P oi a w K' Q)
    (h2 : ∀ K' : Act → World → Prop, Shut (∀ a w, T w → ((listed.setIfInBounds j true).getD D true = false → S w) → wpAnyT P md ops Q T S D fuel (listed.setIfInBounds j true) a w → K' a w) → Oper.wp P oj a w K' Q) : wpAnyT P md ops Q T S D (fuel + 1) listed a w :=
  ⟨fun h0 => (by rw [hr] at h0; cases h0), fun q hq => by
    rw [hr] at hq
    rcases List.mem_cons.1 hq with rfl | hq
    · refine wpOp_step hi (fun K' hK => ?_)
      rw [if_pos hwi]
      exact h1 K' (fun a w h0 h1 h2 => hK a w ⟨⟨h0, h1⟩, h2⟩)
    · obtain rfl : q = j := by simpa using hq
      refine wpOp_step hj (fun K' hK => ?_)
      rw [if_pos hwj]
      exact h2 K' (fun a w h0 h1 h2 => hK a w ⟨⟨h0, h1⟩, h2⟩)⟩
end
end Go.Proofs.YtfainlfiphdaeaaGreatDoor
