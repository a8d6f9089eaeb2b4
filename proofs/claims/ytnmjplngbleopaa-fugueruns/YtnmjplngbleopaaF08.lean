/- Bf2 -/
import Derived.Sort.MapsRangeIn
import Derived.Shelf.AbstractIn
import Derived.RegionIn
import Derived.Test.YtnmjplngbleopaaF05
import Derived.Test.YtnmjplngbleopaaF07
namespace Go.Proofs.Ytnmjplngbleopaa
open Go.RowKit Go.Shelf
attribute [local go_sem] Oper.semAt_some
set_option maxRecDepth 20000
set_option linter.unusedSimpArgs false
theorem ranges_congr {H : Type} {P : Program} {k : TypeId} {R : Value → Option (DataW H × List MemPlace)} {w w' : World} {b r n : Nat} {D : DataW H} {left : Lit → Bool} {cnt : Nat}
    (h : w.ranges P k R b r n D left cnt) (hb' : w'.heap[b]? = w.heap[b]?) (hr' : w'.heap[r]? = w.heap[r]?) : w'.ranges P k R b r n D left cnt := by
  obtain ⟨es, clock, since, seen, c0, hb, F, hs, hD, hr, rest⟩ := h
  exact ⟨es, clock, since, seen, c0, hb'.trans hb, F, hs, hD, hr'.trans hr, rest⟩
structure MovesA (T : Nat → Prop) (w : World) (m : Nat) (T' : Nat → Prop) (w' : World) : Prop where
  turn : Turn T w w'
  own : ∀ k, T' k → (T k ∨ m ≤ k) ∧ k < w'.heap.size
structure CollD (L : List Ev) (left : Lit → Bool) (ps : List (Int × Int)) : Prop where
  nodup : ps.Nodup
  iff : ∀ a s, okD a s → ((a, s) ∈ ps ↔ ((lookE L (a, s)).isSome = true ∧ left (dotLit a s) = false))
  ok : ∀ d ∈ ps, okD d.1 d.2
theorem dotLit_same {a s a' s' : Int} (h : okD a s) (h' : okD a' s') : (dotLit a s).sameKey (dotLit a' s') = true ↔ (a, s) = (a', s') := by
  constructor
  · intro q
    have e : dotLit a s = dotLit a' s' := by
      unfold dotLit at q ⊢
      simpa [Lit.sameKey] using q
    obtain ⟨rfl, rfl⟩ := dotLit_inj h h' e
    rfl
  · intro q
    injection q with q1 q2
    subst q1 q2
    unfold dotLit
    simp [Lit.sameKey]
theorem CollD.step {L : List Ev} {left : Lit → Bool} {ps : List (Int × Int)} (h : CollD L left ps) {a s : Int} (ho : okD a s) (hl : left (dotLit a s) = true) (hs : (lookE L (a, s)).isSome = true) : CollD L (fun z => left z && !z.sameKey (dotLit a s)) (ps ++ [(a, s)]) := by
  refine ⟨?_, fun a' s' ho' => ?_, fun d hd => ?_⟩
  · refine List.nodup_append.2 ⟨h.nodup, by simp, fun x hx y hy e => ?_⟩
    rw [List.mem_singleton.1 hy] at e
    rw [e] at hx
    have := ((h.iff a s ho).1 hx).2
    rw [hl] at this; cases this
  · have hk := dotLit_same ho' ho
    rw [List.mem_append, List.mem_singleton, h.iff a' s' ho']
    by_cases q : (a', s') = (a, s)
    · injection q with q1 q2
      subst q1 q2
      have e : (dotLit a' s').sameKey (dotLit a' s') = true := hk.2 rfl
      simp [hs, e]
    · have e : (dotLit a' s').sameKey (dotLit a s) = false := by
        cases e : (dotLit a' s').sameKey (dotLit a s) with
        | false => rfl
        | true => exact absurd (hk.1 e) q
      simp only [e, Bool.not_false, Bool.and_true]
      constructor
      · rintro (r | r)
        · exact r
        · exact absurd r q
      · exact .inl
  · rcases List.mem_append.1 hd with q | q
    · exact h.ok d q
    · rw [List.mem_singleton.1 q]; exact ho
theorem nodup_dots {L : List Ev} (hs : sortedE L) : (L.map Ev.dot).Nodup := by
  unfold List.Nodup
  rw [List.pairwise_map]
  exact hs.imp fun h => ltD_ne h
theorem CollD.perm {L : List Ev} {left : Lit → Bool} {ps : List (Int × Int)} (h : CollD L left ps) (hs : sortedE L) (hok : ∀ e ∈ L, e.Ok) (hl : ∀ k, left k = false) : ps.Perm (L.map Ev.dot) := by
  refine (List.perm_ext_iff_of_nodup h.nodup (nodup_dots hs)).2 fun d => ?_
  constructor
  · intro hd
    have := ((h.iff d.1 d.2 (h.ok d hd)).1 hd).1
    obtain ⟨e, he⟩ := Option.isSome_iff_exists.1 this
    obtain ⟨h1, h2⟩ := lookE_mem he
    exact List.mem_map.2 ⟨e, h1, h2⟩
  · intro hd
    obtain ⟨e, he, rfl⟩ := List.mem_map.1 hd
    exact (h.iff e.da e.ds (hok e he).dot).2 ⟨by rw [show (e.da, e.ds) = e.dot from rfl, lookE_some hs he]; rfl, hl _⟩
end Go.Proofs.Ytnmjplngbleopaa
