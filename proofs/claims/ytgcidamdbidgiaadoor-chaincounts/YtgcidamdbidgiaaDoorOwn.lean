/- Bytes of the call's own: a slice that is appended to. -/
import Derived.Test.YtgcidamdbidgiaaDoorMPureBPadSum
import Derived.Maps.AppendAt
import Derived.Laws.AppendOwnNone
import Derived.RangeFuncBox
namespace Go.Proofs.YtgcidamdbidgiaaDoor.S
open Go.RowKit

/-- How long a slice is. -/
def lenOf : Value → Nat | .slice _ n _ => n | _ => 0
/-- The slice v of the call's own holds the bytes z. -/
def OwnB (w : World) (base : Nat) (v : Value) (z : List Int) : Prop := w.ownsRow base 5 1 v z.length (z.map (Value.int .u8))

theorem OwnB.cast {w : World} {base n : Nat} {v : Value} {z : List Int} {xs : List Value} (h : w.ownsRow base 5 1 v n xs) (hn : n = z.length) (hx : xs = z.map (Value.int .u8)) : OwnB w base v z := by
  subst hn hx; exact h

/-- Bytes behind bytes of the call's own. -/
theorem wpList_app {w : World} {ops : Array Oper} {rest : List Oper} {o : Oper} {a : Act} {Q : Exit → Act → World → Prop} (hgd : o.guard = none) (s x : Operand)
    (ho : o.op = .call { callee := .builtin .append, args := #[s, x], argTypes := #[36, 36] }) (base : Nat) (v : Value) (zs : List Int) (hs : a.eval s = v) (hown : OwnB w base v zs)
    (y : Option Addr) (len cap : Nat) (z : List Int) (hx : a.eval x = .slice y len cap) (hb : Bytes w y len cap z) (hln : zs.length + len ≤ 4000000) (hbase : base ≤ w.heap.size)
    (h : ∀ v' w', OwnB w' base v' (zs ++ z) → w.grownBy w' v.ownBlock → wpList Tryd.prog ops Q rest (a.put o.dst v') w') : wpList Tryd.prog ops Q (o :: rest) a w := by
  obtain ⟨i0, hi, hz0, hz1, hz2⟩ := info_parts infoU8
  have hzl := hb.len_eq
  have hcase : ∀ ad : Addr, y = some ad → (∀ j u, (z.map (Value.int .u8))[j]? = some u → w.cell? (ad.add j) = some u) → wpList Tryd.prog ops Q (o :: rest) a w := fun ad hy hsrc => by
    subst hy
    refine wpList_append_own w hgd s x 36 ho base 5 i0 (.int .u8 0) 1 1 Tryd.underlying36 hi hz0 hz1 hz2 rfl (by decide) v zs.length (zs.map (Value.int .u8)) hs hown ad len cap (z.map (Value.int .u8)) hx (by simp [hzl]) hsrc (by simp [Value.oneCell']) (by simp [maxLen]; omega) (by omega) hbase ?_
    intro v' w' h1 h2 _
    exact h v' w' (OwnB.cast h1 (by simp [hzl]) (by simp)) h2
  rcases hb.at_ with h0 | ⟨b, off, hy, hc⟩
  · have hz0' : z = [] := List.length_eq_zero_iff.1 (by omega)
    cases y with
    | none =>
      have hc0 := hb.nil rfl
      subst h0 hc0 hz0'
      refine wpList_append_own_none hgd s x 36 ho base 5 i0 1 Tryd.underlying36 hi v zs.length (zs.map (Value.int .u8)) hs hown hx ?_
      exact h v w (by rw [List.append_nil]; exact hown) ⟨rfl, rfl, rfl, Nat.le_refl _, fun _ _ _ => rfl⟩
    | some ad => exact hcase ad rfl (fun j u hu => by subst hz0'; simp at hu)
  · exact hcase _ hy (fun j u hu => by
      have hj : j < len := by have := (List.getElem?_eq_some_iff.1 hu).1; simpa [hzl] using this
      rw [Addr.add_mid', hc j hj, ← hu, List.getElem?_map, List.getElem?_eq_getElem (by omega)]; rfl)

/-- One byte behind bytes of the call's own: the new byte lies in the block that was made last. -/
theorem wpList_app1 {w : World} {ops : Array Oper} {rest : List Oper} {o : Oper} {a : Act} {Q : Exit → Act → World → Prop} (hgd : o.guard = none) (s x : Operand)
    (ho : o.op = .call { callee := .builtin .append, args := #[s, x], argTypes := #[36, 36] }) (base : Nat) (v : Value) (zs : List Int) (hs : a.eval s = v) (c : Int) (hown : OwnB (w.alloc (.cells #[.int .u8 c] 5)) base v zs)
    (hx : a.eval x = .slice (some ⟨w.heap.size, 0, none⟩) 1 1) (hln : zs.length ≤ 4000000) (hbase : base ≤ w.heap.size)
    (h : ∀ v' w', OwnB w' base v' (zs ++ [c]) → (w.alloc (.cells #[.int .u8 c] 5)).grownBy w' v.ownBlock → wpList Tryd.prog ops Q rest (a.put o.dst v') w') : wpList Tryd.prog ops Q (o :: rest) a (w.alloc (.cells #[.int .u8 c] 5)) := by
  obtain ⟨i0, hi, hz0, hz1, hz2⟩ := info_parts infoU8
  refine wpList_append_own (w.alloc (.cells #[.int .u8 c] 5)) hgd s x 36 ho base 5 i0 (.int .u8 0) 1 1 Tryd.underlying36 hi hz0 hz1 hz2 rfl (by decide) v zs.length (zs.map (Value.int .u8)) hs hown ⟨w.heap.size, 0, none⟩ 1 1 [.int .u8 c] hx rfl (cell_one_new _ _ _) (by simp [Value.oneCell']) (by simp [maxLen]; omega) (by omega) (by simp; omega) ?_
  intro v' w' h1 h2 _
  exact h v' w' (OwnB.cast h1 (by simp) (by simp)) h2

theorem OwnB.nil (w : World) (base : Nat) : OwnB w base (.slice none 0 0) [] := World.ownsRow_nil w base 5 1
theorem OwnB.alloc {w : World} {base : Nat} {v : Value} {z : List Int} (h : OwnB w base v z) (o : Obj) : OwnB (w.alloc o) base v z := World.ownsRow.alloc h o
theorem OwnB.slice {w : World} {base : Nat} {v : Value} {z : List Int} (h : OwnB w base v z) (hz : 0 < z.length) : ∃ g cap, v = .slice (some ⟨g, 0, none⟩) z.length cap ∧ base ≤ g := by
  rcases h.2 with ⟨_, h0⟩ | ⟨g, cap, cur, rfl, hb, _⟩
  · omega
  · exact ⟨g, cap, rfl, hb⟩
theorem below_grown {base : Nat} {w0 w w' : World} {v : Value} {z : List Int} (hb : Below base w0 w) (hown : OwnB w base v z) (hg : w.grownBy w' v.ownBlock) (hbase : base ≤ w.heap.size) : Below base w0 w' :=
  hb.grown hg hbase (fun k hk => by
    rcases hown.2 with ⟨rfl, _⟩ | ⟨g, cap, cur, rfl, hb, _⟩
    · cases hk
    · simp [Value.ownBlock] at hk; omega)

theorem Holds.bytes {w : World} {g : Nat} {t : TypeId} {l : List Int} {n : Nat} (h : Holds w g .u8 t l) (hn : n = l.length) (hl : l.length ≤ 4000000) : Bytes w (some ⟨g, 0, none⟩) n n l := by
  subst hn
  exact ⟨rfl, Nat.le_refl _, by omega, (fun h => by cases h), .inr ⟨g, 0, rfl, fun j hj => by rw [Nat.zero_add]; exact h.cell j hj⟩⟩
theorem OwnB.bytes {w : World} {base : Nat} {x : Option Addr} {n cap : Nat} {z : List Int} (h : OwnB w base (.slice x n cap) z) : n = z.length ∧ Bytes w x n cap z := by
  rcases h.2 with ⟨h1, h0⟩ | ⟨g, cap', cur, h1, _, hg, hc, hm, hs, ht⟩
  · have hz : z = [] := List.length_eq_zero_iff.1 h0
    cases h1
    subst hz
    exact ⟨rfl, bytes_nil w⟩
  · cases h1
    refine ⟨rfl, rfl, hc, by simpa [maxLen] using hm, (fun h => by cases h), .inr ⟨g, 0, rfl, fun j hj => ?_⟩⟩
    rw [Nat.zero_add, cell_of_row w g j _ _ _ hg, ← Array.getElem?_toList]
    have e : (cur.toList.take (z.length * 1))[j]? = (z.map (Value.int .u8))[j]? := by rw [ht]
    rw [Nat.mul_one, List.getElem?_take_of_lt hj, List.getElem?_map, List.getElem?_eq_getElem hj] at e
    rw [e, List.getElem?_eq_getElem hj]; rfl

theorem OwnB.isSlice {w : World} {base : Nat} {v : Value} {z : List Int} (h : OwnB w base v z) : ∃ x n c, v = .slice x n c ∧ n = z.length := by
  rcases h.2 with ⟨rfl, h0⟩ | ⟨g, cap, cur, rfl, _⟩
  · exact ⟨none, 0, 0, rfl, h0.symm⟩
  · exact ⟨_, _, _, rfl, rfl⟩
end Go.Proofs.YtgcidamdbidgiaaDoor.S
