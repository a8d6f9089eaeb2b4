/- Dots of the call's own, one behind the other; a dot appended to them; what is kept beside what is written. -/
import Derived.Test.YtgmbmdmbnpkbbaaEv0
import Derived.Maps.AppendAt
namespace Go.Proofs.Ytgmbmdmbnpkbbaa
open Go.RowKit
set_option maxRecDepth 20000
set_option linter.unusedSimpArgs false

def dotsC (L : List (Int × Int)) : List Value := (L.map fun d => dotC d.1 d.2).flatten
/-- The slice v of the call's own holds the dots L. -/
def OwnD (w : World) (base : Nat) (v : Value) (L : List (Int × Int)) : Prop := w.ownsRow base 26 2 v L.length (dotsC L)
theorem OwnD.nil (w : World) (base : Nat) : OwnD w base (.slice none 0 0) [] := World.ownsRow_nil w base 26 2
theorem OwnD.isSlice {w : World} {base : Nat} {v : Value} {L : List (Int × Int)} (h : OwnD w base v L) : ∃ x c, v = .slice x L.length c := by
  rcases h.2 with ⟨rfl, h0⟩ | ⟨g, cap, cur, rfl, _⟩
  · exact ⟨none, 0, by rw [h0]⟩
  · exact ⟨_, _, rfl⟩
theorem OwnD.congr {w w' : World} {base : Nat} {v : Value} {L : List (Int × Int)} (h : OwnD w base v L) (hk : ∀ g, v.ownBlock = some g → w'.heap[g]? = w.heap[g]?) : OwnD w' base v L := by
  refine ⟨h.1, ?_⟩
  rcases h.2 with h' | ⟨g, cap, cur, h1, h2, h3, h4⟩
  · exact .inl h'
  · exact .inr ⟨g, cap, cur, h1, h2, (hk g (by rw [h1]; rfl)).trans h3, h4⟩
theorem OwnD.blockLt {w : World} {base : Nat} {v : Value} {L : List (Int × Int)} (h : OwnD w base v L) (g : Nat) (hg : v.ownBlock = some g) : g < w.heap.size ∧ base ≤ g ∧ ∃ cur, w.heap[g]? = some (.cells cur 26 (0, 0)) := by
  rcases h.2 with ⟨rfl, _⟩ | ⟨g', cap, cur, rfl, h2, h3, _⟩
  · cases hg
  · obtain rfl : g' = g := by simpa [Value.ownBlock] using hg
    exact ⟨(Array.getElem?_eq_some_iff.1 h3).1, h2, cur, h3⟩
theorem dotsC_get (L : List (Int × Int)) (j : Nat) (hj : j < L.length) : ((dotsC L).drop (j * 2)).take 2 = dotC (L[j]).1 (L[j]).2 := by
  induction L generalizing j with
  | nil => simp at hj
  | cons e L ih =>
    have hcons : dotsC (e :: L) = dotC e.1 e.2 ++ dotsC L := by simp [dotsC]
    rw [hcons]
    cases j with
    | zero => rfl
    | succ j =>
      have := ih j (by simpa using hj)
      rw [show (j + 1) * 2 = (dotC e.1 e.2).length + j * 2 by simp [dotC]; omega, List.drop_length_add_append, this]
      rfl
/-- The dot at place j. -/
theorem OwnD.at_ {w : World} {base : Nat} {x : Option Addr} {n c : Nat} {L : List (Int × Int)} (h : OwnD w base (.slice x n c) L) (j : Nat) (hj : j < L.length) : ∃ g, x = some ⟨g, 0, none⟩ ∧ n = L.length ∧ w.rangeAt g (j * 2) (dotC (L[j]).1 (L[j]).2) := by
  rcases h.2 with ⟨h1, h0⟩ | ⟨g, cap', cur, h1, _, hg, hc, hm, hs, ht⟩
  · omega
  · cases h1
    refine ⟨g, rfl, rfl, fun i v hv => ?_⟩
    have hi : i < 2 := by have := (List.getElem?_eq_some_iff.1 hv).1; simpa [dotC] using this
    rw [cell_of_row w g _ _ _ _ hg, ← Array.getElem?_toList]
    have e := dotsC_get L j hj
    rw [← ht] at e
    have hlt : j * 2 + i < L.length * 2 := by omega
    rw [← e, List.getElem?_take_of_lt hi, List.getElem?_drop, List.getElem?_take_of_lt hlt] at hv
    exact hv
theorem infoDot : (Try.prog.info? 26).map (fun i => (i.zero, i.size, i.bytes)) = some (some (.agg (dotC 0 0).toArray), 2, 8) := by kernel_rfl
/-- One dot behind dots of the call's own: the new one lies in a block of its own. -/
theorem wp_appD {w : World} {o : Oper} {a : Act} {K : Act → World → Prop} {Q : Exit → Act → World → Prop} (s x : Operand)
    (ho : o.op = .call { callee := .builtin .append, args := #[s, x], argTypes := #[116, 116] }) (base : Nat) (v : Value) (L : List (Int × Int)) (hs : a.eval s = v) (hown : OwnD w base v L) (d1 d2 : Int)
    (g : Nat) (hx : a.eval x = .slice (some ⟨g, 0, none⟩) 1 1) (hg : w.rangeAt g 0 (dotC d1 d2)) (hln : L.length ≤ 1000000) (hbase : base ≤ w.heap.size)
    (h : ∀ v' w', OwnD w' base v' (L ++ [(d1, d2)]) → w.grownBy w' v.ownBlock → (v'.ownBlock = v.ownBlock ∨ v'.ownBlock = some w.heap.size) → K (a.put o.dst v') w') : o.wp Try.prog a w K Q := by
  obtain ⟨i0, hi, hz0, hz1, hz2⟩ := info_parts infoDot
  have h1 : ∀ u ∈ dotC d1 d2, u.oneCell' = true := by
    intro u hu
    simp only [dotC, List.mem_cons, List.not_mem_nil, or_false] at hu
    rcases hu with rfl | rfl <;> rfl
  obtain ⟨v', w', hr, h2, h3, _, h5⟩ := run_append_own_at (P := Try.prog) w base 116 o.type 26 i0 _ 2 8 Try.underlying116 hi hz0 hz1 hz2 rfl (by decide) v L.length (dotsC L) hown ⟨g, 0, none⟩ 1 1 (dotC d1 d2) rfl (fun j u hu => by rw [show (⟨g, 0, none⟩ : Addr).add j = ⟨g, 0 + j, none⟩ by unfold Addr.add; split <;> simp_all]; exact hg j u hu) h1 (by simp [maxLen]; omega) (by omega) hbase
  unfold Oper.wp execOp
  simp only [ho, resolve, invoke, builtin, Sem.run_bind, Sem.run_pure, Result.andThen_ok, List.map_toArray, List.map_cons, List.map_nil, hs, hx, hr]
  refine h v' w' ?_ h3 h5
  unfold OwnD
  rw [List.length_append, show dotsC (L ++ [(d1, d2)]) = dotsC L ++ dotC d1 d2 by simp [dotsC]]
  exact h2
/-- Of the blocks that were there those alone have turned of which p speaks. -/
structure Turn (p : Nat → Prop) (w w' : World) : Prop where
  os : w'.os = w.os
  tape : w'.tape = w.tape
  output : w'.output = w.output
  size : w.heap.size ≤ w'.heap.size
  block : ∀ k, k < w.heap.size → ¬ p k → w'.heap[k]? = w.heap[k]?
theorem Turn.refl (p : Nat → Prop) (w : World) : Turn p w w := ⟨rfl, rfl, rfl, Nat.le_refl _, fun _ _ _ => rfl⟩
theorem Turn.of_below {p : Nat → Prop} {w w' : World} (h : Below w.heap.size w w') : Turn p w w' := ⟨h.os, h.tape, h.output, h.size, fun k hk _ => h.block k hk⟩
theorem Turn.of_grown {p : Nat → Prop} {w w' : World} {r : Option Nat} (h : w.grownBy w' r) (hp : ∀ k, r = some k → p k) : Turn p w w' := ⟨h.os, h.tape, h.output, h.size, fun k hk hn => h.block k hk (fun e => hn (hp k e.symm))⟩
theorem Turn.of_setCell {p : Nat → Prop} (w : World) {a : Addr} (ha : p a.block) (u : Value) : Turn p w (w.setCell a u) := ⟨rfl, rfl, rfl, by simp [World.setCell], fun k _ hn => Below.heap_setCell w a u k (fun e => hn (by rw [e]; exact ha))⟩
theorem Turn.trans {p : Nat → Prop} {a b c : World} (h : Turn p a b) (k : Turn p b c) : Turn p a c :=
  ⟨k.os.trans h.os, k.tape.trans h.tape, k.output.trans h.output, Nat.le_trans h.size k.size, fun i hi hn => (k.block i (Nat.lt_of_lt_of_le hi h.size) hn).trans (h.block i hi hn)⟩
theorem Turn.mono {p q : Nat → Prop} {w w' : World} (h : Turn p w w') (hq : ∀ k, k < w.heap.size → p k → q k) : Turn q w w' := ⟨h.os, h.tape, h.output, h.size, fun k hk hn => h.block k hk (fun e => hn (hq k hk e))⟩
/-- What turned lies from B on. -/
theorem Turn.below {p : Nat → Prop} {w w' : World} {B : Nat} (h : Turn p w w') (hB : B ≤ w.heap.size) (hp : ∀ k, p k → B ≤ k) : Below B w w' := ⟨h.os, h.tape, h.output, h.size, fun k hk => h.block k (by omega) (fun e => by have := hp k e; omega)⟩
end Go.Proofs.Ytgmbmdmbnpkbbaa

