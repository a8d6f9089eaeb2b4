/- fugue, the reference: Insert, Delete, New. (Written by mkfr2.py.) fugue, the reference: Delete, Len. fugue: both trees; do. fugue: play: deeds on both. -/
import Derived.Test.YthjkcfpdkhghpaaFr1
import Derived.Test.YthjkcfpdkhghpaaFg24
import Derived.Test.YthjkcfpdkhghpaaGoU
namespace Go.Proofs.Ythjkcfpdkhghpaa
open Go.RowKit Go.Shelf
set_option maxRecDepth 20000
set_option linter.unusedSimpArgs false
/-- What a call of the reference's may write. -/
structure RefTo (R : Nat) (v v' : Value) (w w' : World) : Prop where
  turn : Turn (refP R v) w w'
  own : ∀ k, refP R v' k → refP R v k ∨ w.heap.size ≤ k
theorem RefTo.of_below {R : Nat} {v : Value} {w w' : World} (h : Below w.heap.size w w') : RefTo R v v w w' := ⟨Turn.of_below h, fun _ hk => .inl hk⟩
end Go.Proofs.Ythjkcfpdkhghpaa

namespace Go.Proofs.Ythjkcfpdkhghpaa
open Go.RowKit Go.Shelf
set_option maxRecDepth 20000
set_option linter.unusedSimpArgs false
theorem flat_set {k : Nat} (L : List (List Value)) (hL : ∀ c ∈ L, c.length = k) (j off : Nat) (hj : j < L.length) (ho : off < k) (u : Value) : L.flatten.set (j * k + off) u = (L.set j (L[j].set off u)).flatten := by
  induction L generalizing j with
  | nil => simp at hj
  | cons e L ih =>
    have he : e.length = k := hL e (by simp)
    cases j with
    | zero => simp only [Nat.zero_mul, Nat.zero_add, List.flatten_cons, List.getElem_cons_zero, List.set_cons_zero]; rw [List.set_append_left _ _ (by omega)]
    | succ j =>
      have := ih (fun x hx => hL x (by simp [hx])) j (by simpa using hj)
      simp only [List.flatten_cons, List.getElem_cons_succ, List.set_cons_succ]
      rw [← this, List.set_append_right _ _ (by rw [he, Nat.add_mul]; omega), he, show (j + 1) * k + off - k = j * k + off by rw [Nat.add_mul]; omega]
theorem OwnI.setAt {w : World} {base : Nat} {t : TypeId} {k : Nat} {g n c : Nat} {L : List (List Value)} (h : OwnI w base t k (.slice (some ⟨g, 0, none⟩) n c) L) (j off : Nat) (hj : j < L.length) (ho : off < k) (u : Value) :
    OwnI (w.setCell ⟨g, j * k + off, none⟩ u) base t k (.slice (some ⟨g, 0, none⟩) n c) (L.set j (L[j].set off u)) ∧ (∃ u0, w.cell? ⟨g, j * k + off, none⟩ = some u0) ∧ w.frozen? ⟨g, j * k + off, none⟩ = false := by
  rcases h.own.2 with ⟨h1, h0⟩ | ⟨g', cap', cur, h1, hb, hg, hc, hm, hs, ht⟩
  · cases h1
  · cases h1
    have hfl := flat_len L h.each
    have hlt : j * k + off < L.length * k := by
      have := Nat.mul_le_mul_right k (show j + 1 ≤ L.length from hj)
      rw [Nat.add_mul] at this; omega
    have hcs : CellsAt w g t cur.toList := by unfold CellsAt; rw [Array.toArray_toList]; exact hg
    have hlc : j * k + off < cur.toList.length := by
      have h5 : (cur.toList.take (L.length * k)).length = L.length * k := by rw [ht]; exact hfl
      rw [List.length_take] at h5; omega
    have hset := hcs.set (j * k + off) u
    refine ⟨⟨⟨?_, .inr ⟨g, c, (cur.toList.set (j * k + off) u).toArray, by rw [List.length_set], hb, hset, by rw [List.length_set]; exact hc, hm, by simpa using hs, ?_⟩⟩, fun x hx => ?_⟩, ⟨cur.toList[j * k + off], by rw [hcs.cell, List.getElem?_eq_getElem hlc]⟩, hcs.frozen _⟩
    · rw [← flat_set L h.each j off hj ho u, List.length_set, hfl, List.length_set]
    · rw [List.length_set, ← flat_set L h.each j off hj ho u, ← ht]
      simp only [List.toList_toArray]
      rw [List.take_set]
    · rcases List.mem_or_eq_of_mem_set hx with q | q
      · exact h.each x q
      · rw [q, List.length_set]; exact h.each _ (List.getElem_mem hj)
theorem delN_set {N : List Nd} (hN : (N.map (·.id)).Nodup) {i : Nat} (hi : i < N.length) {x : Int × Int} (hx : N[i].id = x) : (N.map ndC).set i ((N.map ndC)[i]'(by rw [List.length_map]; exact hi) |>.set 5 (.int .u8 0)) = (delN N x).map ndC := by
  apply List.ext_getElem (by simp [delN])
  intro j h1 h2
  have hj : j < N.length := by simpa using h1
  have e2 : ((delN N x).map ndC)[j]'h2 = ndC (gone x N[j]) := by simp only [delN, List.getElem_map]
  rw [e2]
  simp only [List.getElem_set, List.getElem_map]
  split
  · next e =>
    subst e
    unfold gone
    rw [if_pos hx]
    rfl
  · next e =>
    unfold gone
    rw [if_neg (fun q => e ?_)]
    exact (List.getElem_inj (h₀ := by simpa using hi) (h₁ := by simpa using hj) hN (i := i) (j := j)).1 (by simp only [List.getElem_map]; rw [hx, q])
end Go.Proofs.Ythjkcfpdkhghpaa

namespace Go.Proofs.Ythjkcfpdkhghpaa
open Go.RowKit Go.Shelf
set_option maxRecDepth 20000
set_option linter.unusedSimpArgs false
theorem below_turn {p : Nat → Prop} {w w' : World} {base : Nat} (h : Turn p w w') (hp : ∀ k, p k → base ≤ k) (hl : base ≤ w.heap.size) : Below base w w' := ⟨h.os, h.tape, h.output, h.size, fun k hk => h.block k (by omega) (fun q => by have := hp k q; omega)⟩
/-- The node of a deed. -/
def Dd8.nd (d : Dd8) : Nd := ⟨d.id, (d.par, d.right), d.chr⟩
/-- The nodes behind a deed. -/
def doN (N : List Nd) (d : Dd8) : List Nd := if d.kind = 0 then insN N d.nd else if d.kind = 1 then delN N d.id else N
theorem doN_ok {N : List Nd} (h : TreeOk N) (d : Dd8) : TreeOk (doN N d) := by
  unfold doN
  split
  · exact h.ins _
  · split
    · exact h.del _
    · exact h
theorem doN_len (N : List Nd) (d : Dd8) : (doN N d).length ≤ N.length + 1 := by
  unfold doN
  split
  · exact insN_len
  · split
    · rw [delN_len]; omega
    · omega
end Go.Proofs.Ythjkcfpdkhghpaa

namespace Go.Proofs.Ythjkcfpdkhghpaa
open Go.RowKit Go.Shelf
set_option maxRecDepth 20000
set_option linter.unusedSimpArgs false
/-- The nodes behind deeds. -/
def playN (L : List Dd8) : List Nd := L.foldl doN []
theorem playN_ok (L : List Dd8) : TreeOk (playN L) := by
  unfold playN
  suffices h : ∀ (L : List Dd8) (N : List Nd), TreeOk N → TreeOk (L.foldl doN N) from h L [] TreeOk.nil
  intro L
  induction L with
  | nil => intro N h; exact h
  | cons d L ih => intro N h; exact ih _ (doN_ok h d)
theorem playN_snoc (L : List Dd8) (d : Dd8) : playN (L ++ [d]) = doN (playN L) d := by unfold playN; rw [List.foldl_append]; rfl
theorem playN_len (L : List Dd8) : (playN L).length ≤ L.length := by
  induction L using snoc_ind with
  | h0 => simp [playN]
  | h1 L d ih =>
    rw [playN_snoc, List.length_append, List.length_singleton]
    have := doN_len (playN L) d
    omega
end Go.Proofs.Ythjkcfpdkhghpaa
