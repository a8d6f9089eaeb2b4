/- Hmac. What is kept of rows of the call's own. -/
import Derived.Test.YtlalcnmcnkompaaDoorMMac5Mac6
import Derived.Test.YtlalcnmcnkompaaDoorMGateSGateS2
namespace Go.Proofs.YtlalcnmcnkompaaDoor.S
open Go.RowKit
set_option maxRecDepth 20000
set_option linter.unusedSimpArgs false

end Go.Proofs.YtlalcnmcnkompaaDoor.S

namespace Go.Proofs.YtlalcnmcnkompaaDoor.S
open Go.RowKit
set_option maxRecDepth 20000
set_option linter.unusedSimpArgs false

theorem own_first {w : World} {base : Nat} {v : Value} {z : List Int} (h : OwnB w base v z) (hz : 0 < z.length) : ∃ g, v.ownBlock = some g ∧ w.cell? ⟨g, 0, none⟩ = some (.int .u8 (z[0]?.getD 0)) := by
  rcases h.2 with ⟨_, h0⟩ | ⟨g, cap, cur, rfl, hb, hg, hc, hm, hs, ht⟩
  · omega
  · refine ⟨g, rfl, ?_⟩
    rw [cell_of_row w g 0 _ _ _ hg, ← Array.getElem?_toList]
    have e : (cur.toList.take (z.length * 1))[0]? = (z.map (Value.int .u8))[0]? := by rw [ht]
    rw [Nat.mul_one, List.getElem?_take_of_lt hz, List.getElem?_map, List.getElem?_eq_getElem hz] at e
    rw [e, List.getElem?_eq_getElem hz]; rfl
/-- Rows whose first bytes are unlike lie apart. -/
theorem own_apart {w : World} {base base' : Nat} {v u : Value} {z y : List Int} (hv : OwnB w base v z) (hu : OwnB w base' u y) (hz : 0 < z.length) (hy : 0 < y.length) (hne : z[0]?.getD 0 ≠ y[0]?.getD 0) : v.ownBlock ≠ u.ownBlock := by
  obtain ⟨g, h1, h2⟩ := own_first hv hz
  obtain ⟨g', h3, h4⟩ := own_first hu hy
  intro e
  rw [h1, h3] at e
  cases e
  have h5 := Option.some.inj (h2.symm.trans h4)
  injection h5 with _ h6
  exact hne h6
theorem own_kept {w w' : World} {base : Nat} {u v : Value} {y : List Int} (hu : OwnB w base u y) (hg : w.grownBy w' v.ownBlock) (hne : u = .slice none 0 0 ∨ v.ownBlock = none ∨ v.ownBlock ≠ u.ownBlock) : OwnB w' base u y := by
  refine ⟨hu.1, ?_⟩
  rcases hu.2 with h' | ⟨g, cap, cur, h1, h2, h3, h4⟩
  · exact .inl h'
  · refine .inr ⟨g, cap, cur, h1, h2, ?_, h4⟩
    rw [hg.block g (Array.getElem?_eq_some_iff.1 h3).1 (fun e => by
      rcases hne with h | h | h
      · rw [h1] at h; cases h
      · rw [h] at e; cases e
      · exact h (by rw [h1]; exact e.symm))]
    exact h3
theorem OwnB.belowM {w w' : World} {base : Nat} {v : Value} {z : List Int} (h : OwnB w base v z) (hb : Below w.heap.size w w') : OwnB w' base v z := by
  refine ⟨h.1, ?_⟩
  rcases h.2 with h' | ⟨g, cap, cur, h1, h2, h3, h4⟩
  · exact .inl h'
  · refine .inr ⟨g, cap, cur, h1, h2, ?_, h4⟩
    rw [hb.block g (Array.getElem?_eq_some_iff.1 h3).1]; exact h3
theorem xor_ne (c : Int) (h0 : 0 ≤ c) (h1 : c ≤ 255) : bits .xor .u8 c 54 ≠ bits .xor .u8 c 92 := by
  obtain ⟨n, rfl⟩ : ∃ n : Nat, c = n := ⟨c.toNat, by omega⟩
  have hn : n < 256 := by omega
  have key : ∀ m : Fin 256, bits .xor .u8 (m.1 : Int) 54 ≠ bits .xor .u8 (m.1 : Int) 92 := by decide +kernel
  exact key ⟨n, hn⟩

/-- What is kept of a row of the call's own where only blocks of another type turn. -/
theorem OwnB.keepM {w w' : World} {base : Nat} {v : Value} {z : List Int} (h : OwnB w base v z) (hk : ∀ g, base ≤ g → g < w.heap.size → w'.heap[g]? = w.heap[g]? ∨ ∃ cs t fr, w.heap[g]? = some (.cells cs t fr) ∧ t ≠ 5) : OwnB w' base v z := by
  refine ⟨h.1, ?_⟩
  rcases h.2 with h' | ⟨g, cap, cur, h1, h2, h3, h4⟩
  · exact .inl h'
  · refine .inr ⟨g, cap, cur, h1, h2, ?_, h4⟩
    rcases hk g h2 (Array.getElem?_eq_some_iff.1 h3).1 with h | ⟨cs, t, fr, h5, h6⟩
    · rw [h]; exact h3
    · rw [h3] at h5
      simp at h5
      exact absurd h5.2.1.symm h6
theorem holds_grown {w w' : World} {g base : Nat} {t : TypeId} {l z : List Int} {v : Value} (h : Holds w g .u8 t l) (hv : OwnB w base v z) (hg : w.grownBy w' v.ownBlock) (ht : t ≠ 5) : Holds w' g .u8 t l := by
  have hl := h.lt
  unfold Holds at h ⊢
  rw [hg.block g hl (fun e => by
    rcases hv.2 with ⟨rfl, _⟩ | ⟨g', cap, cur, rfl, _, h3, _⟩
    · cases e
    · simp [Value.ownBlock] at e
      subst e
      rw [h] at h3
      simp at h3
      exact ht h3.2)]
  exact h
theorem wp_appM {w : World} {o : Oper} {a : Act} {K : Act → World → Prop} {Q : Exit → Act → World → Prop} (s x : Operand)
    (ho : o.op = .call { callee := .builtin .append, args := #[s, x], argTypes := #[76, 76] }) (base : Nat) (v : Value) (zs : List Int) (hs : a.eval s = v) (hown : OwnB w base v zs)
    (g len cap : Nat) (z : List Int) (hx : a.eval x = .slice (some ⟨g, 0, none⟩) len cap) (hb : Bytes w (some ⟨g, 0, none⟩) len cap z) (hln : zs.length + len ≤ 4000000) (hbase : base ≤ w.heap.size)
    (h : ∀ v' w', OwnB w' base v' (zs ++ z) → w.grownBy w' v.ownBlock → K (a.put o.dst v') w') : o.wp Tryd.prog a w K Q := by
  obtain ⟨i0, hi, hz0, hz1, hz2⟩ := info_parts infoU8
  have hzl := hb.len_eq
  refine wp_append_own w s x 76 ho base 5 i0 (.int .u8 0) 1 1 Tryd.underlying76 hi hz0 hz1 hz2 rfl (by decide) v zs.length (zs.map (Value.int .u8)) hs hown ⟨g, 0, none⟩ len cap (z.map (Value.int .u8)) hx (by simp [hzl]) ?_ (by simp [Value.oneCell']) (by simp [maxLen]; omega) (by omega) hbase ?_
  · intro j u hu
    have hj : j < len := by have := (List.getElem?_eq_some_iff.1 hu).1; simpa [hzl] using this
    rcases hb.at_ with h0 | ⟨b, off, hy, hc⟩
    · omega
    · cases hy
      rw [Addr.add_mid', hc j hj, ← hu, List.getElem?_map, List.getElem?_eq_getElem (by omega)]; rfl
  · intro v' w' h1 h2 _
    exact h v' w' (OwnB.cast h1 (by simp [hzl]) (by simp)) h2

end Go.Proofs.YtlalcnmcnkompaaDoor.S
