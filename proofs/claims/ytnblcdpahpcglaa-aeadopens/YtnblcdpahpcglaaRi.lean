/- A row of numbers (int) of the call's own: made, appended to, read; what is known of a row of numbers that is read. -/
import Derived.Test.YtnblcdpahpcglaaRp
namespace Go.Proofs.Ytnblcdpahpcglaa
open Go.RowKit
set_option maxRecDepth 20000

theorem infoI : (Try.prog.info? 3).map (fun i => (i.zero, i.size, i.bytes)) = some (some (.int .i64 0), 1, 8) := by kernel_rfl
/-- The slice v of the call's own holds the numbers l. -/
def OwnI (w : World) (base : Nat) (v : Value) (l : List Int) : Prop := w.ownsRow base 3 1 v l.length (l.map (Value.int .i64))
theorem OwnI.cast {w : World} {base n : Nat} {v : Value} {z : List Int} {xs : List Value} (h : w.ownsRow base 3 1 v n xs) (hn : n = z.length) (hx : xs = z.map (Value.int .i64)) : OwnI w base v z := by
  subst hn hx; exact h
theorem OwnI.nil (w : World) (base : Nat) : OwnI w base (.slice none 0 0) [] := World.ownsRow_nil w base 3 1
theorem OwnI.alloc {w : World} {base : Nat} {v : Value} {z : List Int} (h : OwnI w base v z) (o : Obj) : OwnI (w.alloc o) base v z := World.ownsRow.alloc h o
theorem OwnI.drewN {w : World} {base : Nat} {v : Value} {z : List Int} (h : OwnI w base v z) (n : Nat) : OwnI (w.drewN n) base v z := by
  induction n with
  | zero => exact h
  | succ n ih => exact World.ownsRow.drew ih
theorem OwnI.slice {w : World} {base : Nat} {v : Value} {z : List Int} (h : OwnI w base v z) (hz : 0 < z.length) : ∃ g cap, v = .slice (some ⟨g, 0, none⟩) z.length cap ∧ base ≤ g ∧ cap ≤ 9223372036854775807 ∧ z.length ≤ cap ∧ ∀ j, j < z.length → w.cell? ⟨g, j, none⟩ = some (.int .i64 (z[j]?.getD 0)) := by
  rcases h.2 with ⟨_, h0⟩ | ⟨g, cap, cur, rfl, hb, hg, hc, hm, hs, ht⟩
  · omega
  · refine ⟨g, cap, rfl, hb, by simpa [maxLen] using hm, hc, fun j hj => ?_⟩
    rw [cell_of_row w g j _ _ _ hg, ← Array.getElem?_toList]
    have e : (cur.toList.take (z.length * 1))[j]? = (z.map (Value.int .i64))[j]? := by rw [ht]
    rw [Nat.mul_one, List.getElem?_take_of_lt hj, List.getElem?_map, List.getElem?_eq_getElem hj] at e
    rw [e, List.getElem?_eq_getElem hj]; rfl
theorem below_grownI {base : Nat} {w0 w w' : World} {v : Value} {z : List Int} (hb : Below base w0 w) (hown : OwnI w base v z) (hg : w.grownBy w' v.ownBlock) (hbase : base ≤ w.heap.size) : Below base w0 w' :=
  hb.grown hg hbase (fun k hk => by
    rcases hown.2 with ⟨rfl, _⟩ | ⟨g, cap, cur, rfl, hb, _⟩
    · cases hk
    · simp [Value.ownBlock] at hk; omega)

theorem wp_appI {w : World} {o : Oper} {a : Act} {K : Act → World → Prop} {Q : Exit → Act → World → Prop} (s x : Operand)
    (ho : o.op = .call { callee := .builtin .append, args := #[s, x], argTypes := #[58, 58] }) (base : Nat) (v : Value) (zs : List Int) (hs : a.eval s = v) (c : Int) (hown : OwnI w base v zs) (g : Nat)
    (hx : a.eval x = .slice (some ⟨g, 0, none⟩) 1 1) (hc : w.cell? ⟨g, 0, none⟩ = some (.int .i64 c)) (hln : zs.length ≤ 4000000) (hbase : base ≤ w.heap.size)
    (h : ∀ v' w', OwnI w' base v' (zs ++ [c]) → w.grownBy w' v.ownBlock → K (a.put o.dst v') w') : o.wp Try.prog a w K Q := by
  obtain ⟨i0, hi, hz0, hz1, hz2⟩ := info_parts infoI
  refine wp_append_own w s x 58 ho base 3 i0 (.int .i64 0) 1 8 Try.underlying58 hi hz0 hz1 hz2 rfl (by decide) v zs.length (zs.map (Value.int .i64)) hs hown ⟨g, 0, none⟩ 1 1 [.int .i64 c] hx rfl ?_ (by simp [Value.oneCell']) (by simp [maxLen]; omega) (by omega) hbase ?_
  · intro j u hj
    cases j with
    | zero => rw [Addr.add_mid']; simp at hj; rw [← hj]; exact hc
    | succ j => simp at hj
  intro v' w' h1 h2 _
  exact h v' w' (OwnI.cast h1 (by simp) (by simp)) h2
theorem wp_appI1 {w : World} {o : Oper} {a : Act} {K : Act → World → Prop} {Q : Exit → Act → World → Prop} (s x : Operand)
    (ho : o.op = .call { callee := .builtin .append, args := #[s, x], argTypes := #[58, 58] }) (base : Nat) (v : Value) (zs : List Int) (hs : a.eval s = v) (c : Int) (hown : OwnI (w.alloc (.cells #[.int .i64 c] 3)) base v zs)
    (hx : a.eval x = .slice (some ⟨w.heap.size, 0, none⟩) 1 1) (hln : zs.length ≤ 4000000) (hbase : base ≤ w.heap.size)
    (h : ∀ v' w', OwnI w' base v' (zs ++ [c]) → (w.alloc (.cells #[.int .i64 c] 3)).grownBy w' v.ownBlock → K (a.put o.dst v') w') : o.wp Try.prog a (w.alloc (.cells #[.int .i64 c] 3)) K Q :=
  wp_appI s x ho base v zs hs c hown w.heap.size hx ((cell_of_row _ w.heap.size 0 _ 3 (0, 0) (World.alloc_heap_new w _)).trans rfl) hln (by simp; omega) h
theorem wpList_appI1 {w : World} {ops : Array Oper} {rest : List Oper} {o : Oper} {a : Act} {Q : Exit → Act → World → Prop} (hgd : o.guard = none) (s x : Operand)
    (ho : o.op = .call { callee := .builtin .append, args := #[s, x], argTypes := #[58, 58] }) (base : Nat) (v : Value) (zs : List Int) (hs : a.eval s = v) (c : Int) (hown : OwnI (w.alloc (.cells #[.int .i64 c] 3)) base v zs)
    (hx : a.eval x = .slice (some ⟨w.heap.size, 0, none⟩) 1 1) (hln : zs.length ≤ 4000000) (hbase : base ≤ w.heap.size)
    (h : ∀ v' w', OwnI w' base v' (zs ++ [c]) → (w.alloc (.cells #[.int .i64 c] 3)).grownBy w' v.ownBlock → wpList Try.prog ops Q rest (a.put o.dst v') w') : wpList Try.prog ops Q (o :: rest) a (w.alloc (.cells #[.int .i64 c] 3)) :=
  wpList_plain hgd fun _ hK => wp_appI1 s x ho base v zs hs c hown hx hln hbase fun v' w' h1 h2 => hK _ _ (h v' w' h1 h2)
/-- What is known of a row of numbers that is read. -/
structure Ints (w : World) (x : Option Addr) (len cap : Nat) (z : List Int) : Prop where
  len_eq : len = z.length
  le : len ≤ cap
  top : cap ≤ 9223372036854775807
  nil : x = none → cap = 0
  at_ : len = 0 ∨ ∃ b, x = some ⟨b, 0, none⟩ ∧ ∀ j, j < len → w.cell? ⟨b, j, none⟩ = some (.int .i64 (z[j]?.getD 0))
theorem Ints.below {w w' : World} {x : Option Addr} {len cap : Nat} {z : List Int} (h : Ints w x len cap z) (hb : Below w.heap.size w w') : Ints w' x len cap z :=
  ⟨h.len_eq, h.le, h.top, h.nil, by
    rcases h.at_ with h0 | ⟨b, hx, hc⟩
    · exact .inl h0
    · by_cases hl : len = 0
      · exact .inl hl
      · exact .inr ⟨b, hx, fun j hj => (hb.cell (p := ⟨b, j, none⟩) (block_lt_of_cell (hc j hj))).trans (hc j hj)⟩⟩
theorem OwnI.ints {w : World} {base : Nat} {v : Value} {z : List Int} (h : OwnI w base v z) : ∃ x n c, v = .slice x n c ∧ Ints w x n c z := by
  rcases h.2 with ⟨rfl, h0⟩ | ⟨g, cap, cur, rfl, hb, hg, hc, hm, hs, ht⟩
  · exact ⟨none, 0, 0, rfl, ⟨h0.symm, Nat.le_refl _, by omega, fun _ => rfl, .inl rfl⟩⟩
  · refine ⟨_, _, _, rfl, rfl, hc, by simpa [maxLen] using hm, (fun h => by cases h), .inr ⟨g, rfl, fun j hj => ?_⟩⟩
    rw [cell_of_row w g j _ _ _ hg, ← Array.getElem?_toList]
    have e : (cur.toList.take (z.length * 1))[j]? = (z.map (Value.int .i64))[j]? := by rw [ht]
    rw [Nat.mul_one, List.getElem?_take_of_lt hj, List.getElem?_map, List.getElem?_eq_getElem hj] at e
    rw [e, List.getElem?_eq_getElem hj]; rfl
end Go.Proofs.Ytnblcdpahpcglaa
