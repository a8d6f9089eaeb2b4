/- Wraps of the call's own: a wrap appended to them. -/
import Derived.Great.BuildSlice
import Derived.Test.YtdfjfafhpjoilaaDoorRx
import Derived.Test.YtdfjfafhpjoilaaDoorBu
namespace Go.Proofs.YtdfjfafhpjoilaaDoor
open Go.RowKit
set_option maxRecDepth 20000

/-- The slice v of the call's own holds the wraps ws. -/
def OwnW (w : World) (base : Nat) (v : Value) (ws : List Wp) : Prop := w.ownsRow base 52 51 v ws.length (wpsC ws)
theorem OwnW.nil (w : World) (base : Nat) : OwnW w base (.slice none 0 0) [] := World.ownsRow_nil w base 52 51
theorem OwnW.alloc {w : World} {base : Nat} {v : Value} {ws : List Wp} (h : OwnW w base v ws) (o : Obj) : OwnW (w.alloc o) base v ws := World.ownsRow.alloc h o
theorem OwnW.isSlice {w : World} {base : Nat} {v : Value} {ws : List Wp} (h : OwnW w base v ws) : ∃ x c, v = .slice x ws.length c := by
  rcases h.2 with ⟨rfl, h0⟩ | ⟨g, cap, cur, rfl, _⟩
  · exact ⟨none, 0, by rw [h0]⟩
  · exact ⟨_, _, rfl⟩
theorem OwnW.keepT {w w' : World} {base g0 : Nat} {v : Value} {ws : List Wp} {t : TypeId} {cs : List Value} (h : OwnW w base v ws) (hc : CellsAt w g0 t cs) (ht : t ≠ 52) (hk : ∀ g, g ≠ g0 → w'.heap[g]? = w.heap[g]?) : OwnW w' base v ws := by
  refine ⟨h.1, ?_⟩
  rcases h.2 with h' | ⟨g, cap, cur, h1, h2, h3, h4⟩
  · exact .inl h'
  · refine .inr ⟨g, cap, cur, h1, h2, ?_, h4⟩
    rw [hk g (fun e => by
      subst e
      unfold CellsAt at hc
      rw [hc] at h3
      have := Option.some.inj h3
      injection this with _ e2 _
      exact ht e2)]
    exact h3
theorem OwnW.afar {w w' : World} {base : Nat} {v : Value} {ws : List Wp} (h : OwnW w base v ws) (hb : Below w.heap.size w w') : OwnW w' base v ws := by
  refine ⟨h.1, ?_⟩
  rcases h.2 with h' | ⟨g, cap, cur, h1, h2, h3, h4⟩
  · exact .inl h'
  · refine .inr ⟨g, cap, cur, h1, h2, ?_, h4⟩
    rw [hb.block _ (Array.getElem?_eq_some_iff.1 h3).1]; exact h3
theorem wpsC_get (ws : List Wp) (hok : ∀ e ∈ ws, e.data.length = 48) (j : Nat) (hj : j < ws.length) : ((wpsC ws).drop (j * 51)).take 51 = (ws[j]).cells := by
  induction ws generalizing j with
  | nil => simp at hj
  | cons e ws ih =>
    have hel : e.cells.length = 51 := by unfold Wp.cells dotC; simp [hok e (by simp)]
    have hcons : wpsC (e :: ws) = e.cells ++ wpsC ws := by simp [wpsC]
    rw [hcons]
    cases j with
    | zero => rw [Nat.zero_mul, List.drop_zero, List.take_left' hel]; rfl
    | succ j =>
      have := ih (fun x hx => hok x (by simp [hx])) j (by simpa using hj)
      rw [show (j + 1) * 51 = e.cells.length + j * 51 by rw [hel]; omega, List.drop_length_add_append, this]
      rfl
theorem OwnW.wraps {w : World} {base : Nat} {x : Option Addr} {n c : Nat} {ws : List Wp} (h : OwnW w base (.slice x n c) ws) (hok : ∀ e ∈ ws, e.data.length = 48) : WrapsAt w x n c ws := by
  rcases h.2 with ⟨h1, h0⟩ | ⟨g, cap', cur, h1, _, hg, hc, hm, hs, ht⟩
  · have hz : ws = [] := List.length_eq_zero_iff.1 h0
    cases h1
    subst hz
    exact ⟨rfl, by omega, by omega, fun _ => rfl, (fun e he => by cases he), .inl rfl⟩
  · cases h1
    refine ⟨rfl, hc, by simpa [maxLen] using hm, (fun h => by cases h), hok, .inr ⟨g, 0, rfl, fun j hj i v hv => ?_⟩⟩
    have hi : i < 51 := by
      have := (List.getElem?_eq_some_iff.1 hv).1
      have hel : (ws[j]).cells.length = 51 := by unfold Wp.cells dotC; simp [hok _ (List.getElem_mem hj)]
      omega
    rw [cell_of_row w g _ _ _ _ hg, ← Array.getElem?_toList]
    have e := wpsC_get ws hok j hj
    rw [← ht] at e
    have hlt : j * 51 + i < ws.length * 51 := by omega
    rw [← e, List.getElem?_take_of_lt hi, List.getElem?_drop, List.getElem?_take_of_lt hlt] at hv
    rw [Nat.zero_add]; exact hv
theorem below_grownW {base : Nat} {w0 w w' : World} {v : Value} {ws : List Wp} (hb : Below base w0 w) (hown : OwnW w base v ws) (hg : w.grownBy w' v.ownBlock) (hbase : base ≤ w.heap.size) : Below base w0 w' :=
  hb.grown hg hbase (fun k hk => by
    rcases hown.2 with ⟨rfl, _⟩ | ⟨g, cap, cur, rfl, hb, _⟩
    · cases hk
    · simp [Value.ownBlock] at hk; omega)
theorem infoWp : (Tryd.prog.info? 52).map (fun i => (i.zero, i.size, i.bytes)) = some (some (.agg wpZ.cells.toArray), 51, 60) := by kernel_rfl
/-- One wrap behind wraps of the call's own: the new one lies in the block that was made last. -/
theorem wpList_appW {w : World} {ops : Array Oper} {rest : List Oper} {o : Oper} {a : Act} {Q : Exit → Act → World → Prop} (hgd : o.guard = none) (s x : Operand)
    (ho : o.op = .call { callee := .builtin .append, args := #[s, x], argTypes := #[28, 28] }) (base : Nat) (v : Value) (ws : List Wp) (hs : a.eval s = v) (hown : OwnW w base v ws) (e : Wp) (he : e.data.length = 48)
    (g : Nat) (hx : a.eval x = .slice (some ⟨g, 0, none⟩) 1 1) (hg : w.rangeAt g 0 e.cells) (hln : ws.length ≤ 1000) (hbase : base ≤ w.heap.size)
    (h : ∀ v' w', OwnW w' base v' (ws ++ [e]) → w.grownBy w' v.ownBlock → wpList Tryd.prog ops Q rest (a.put o.dst v') w') : wpList Tryd.prog ops Q (o :: rest) a w := by
  obtain ⟨i0, hi, hz0, hz1, hz2⟩ := info_parts infoWp
  have hel : e.cells.length = 51 := by unfold Wp.cells dotC; simp [he]
  have h1 : ∀ u ∈ e.cells, u.oneCell' = true := by
    intro u hu
    unfold Wp.cells dotC at hu
    simp only [List.mem_append, List.mem_cons, List.not_mem_nil, or_false, List.mem_map] at hu
    rcases hu with (rfl | rfl | rfl) | ⟨_, _, rfl⟩ <;> rfl
  refine wpList_append_own w hgd s x 28 ho base 52 i0 _ 51 60 Tryd.underlying28 hi hz0 hz1 hz2 rfl (by decide) v ws.length (wpsC ws) hs hown ⟨g, 0, none⟩ 1 1 e.cells hx (by rw [hel]) (fun j u hu => by rw [Addr.add_mid']; exact hg j u hu) h1 (by simp [maxLen]; omega) (by omega) hbase ?_
  intro v' w' h2 h3 _
  refine h v' w' ?_ h3
  unfold OwnW
  rw [List.length_append, show wpsC (ws ++ [e]) = wpsC ws ++ e.cells by simp [wpsC]]
  exact h2
end Go.Proofs.YtdfjfafhpjoilaaDoor
