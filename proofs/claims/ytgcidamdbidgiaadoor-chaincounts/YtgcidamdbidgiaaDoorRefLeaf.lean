/- The reference's leaves: a number turned right, the words K; a row of words of the call's own. -/
import Derived.Test.YtgcidamdbidgiaaDoorMSpreadMixedStepJoin
import Derived.Test.YtgcidamdbidgiaaDoorRefPad
import Derived.Deep.RegionHeldLaw
namespace Go.Proofs.YtgcidamdbidgiaaDoor.S
open Go.RowKit
set_option maxRecDepth 20000

theorem refRight_any (x n : Int) (w : World) (hn : rotN n) :
    Calls Tryd.prog 56 #[.int .u32 x, .int .i64 n] w fun e w' => e = .returned (.int .u32 (rr n x)) ∧ ∃ q, w' = w.drewN q := by
  rcases hn with rfl | rfl | rfl | rfl | rfl | rfl | rfl | rfl | rfl | rfl
  all_goals
    go_enter Tryd.func56, Tryd.ntmps56
    go_wp2
    go_quiet ((fail))
    go_wp2
    go_ret
    exact ⟨ret_u32 rfl, _, rfl⟩

/-- An array that is written out. -/
theorem wpList_build {P : Program} {ops : Array Oper} {rest : List Oper} {o : Oper} {a : Act} {w : World} {Q : Exit → Act → World → Prop} (hgd : o.guard = none) (t : TypeId) (parts : Array (Nat × Operand)) (ho : o.op = .build t parts) (v : Value)
    (hrun : ∀ wx, (Instr.build t (parts.map fun (i, x) => (i, a.eval x))).run P wx = .ok v wx) (h : wpList P ops Q rest (a.put o.dst v) w) : wpList P ops Q (o :: rest) a w :=
  wpList_plain hgd fun _ hK => by
    unfold Oper.wp execOp
    simp only [ho, Sem.run_bind, Sem.run_pure, Result.andThen_ok, hrun]
    exact hK _ _ h
theorem refK_any (i : Nat) (w : World) (h : i < 64) :
    Calls Tryd.prog 57 #[.int .i64 i] w fun e w' => e = .returned (.int .u32 (kTab[i]?.getD 0)) ∧ w' = w := by
  have hix := fun wx => run_index_row wx 117 30 64 .u32 kTab i Tryd.underlying117 Tryd.underlying30 size1u32 rfl h
  obtain ⟨V, hV⟩ : ∃ V, kTab[i]?.getD 0 = V := ⟨_, rfl⟩
  rw [hV] at hix ⊢
  clear hV
  go_enter Tryd.func57, Tryd.ntmps57
  go_wp2_with (refine wpList_build rfl 117 _ rfl (.agg (row .u32 kTab)) (fun _ => by kernel_rfl) ?_)
  go_ret
  exact ⟨rfl, rfl⟩

theorem infoU32 : (Tryd.prog.info? 30).map (fun i => (i.zero, i.size, i.bytes)) = some (some (.int .u32 0), 1, 4) := by kernel_rfl
/-- The slice v of the call's own holds the words l. -/
def OwnW (w : World) (base : Nat) (v : Value) (l : List Int) : Prop := w.ownsRow base 30 1 v l.length (l.map (Value.int .u32))
theorem OwnW.cast {w : World} {base n : Nat} {v : Value} {z : List Int} {xs : List Value} (h : w.ownsRow base 30 1 v n xs) (hn : n = z.length) (hx : xs = z.map (Value.int .u32)) : OwnW w base v z := by
  subst hn hx; exact h
theorem OwnW.nil (w : World) (base : Nat) : OwnW w base (.slice none 0 0) [] := World.ownsRow_nil w base 30 1
theorem OwnW.alloc {w : World} {base : Nat} {v : Value} {z : List Int} (h : OwnW w base v z) (o : Obj) : OwnW (w.alloc o) base v z := World.ownsRow.alloc h o
theorem OwnW.drewN {w : World} {base : Nat} {v : Value} {z : List Int} (h : OwnW w base v z) (n : Nat) : OwnW (w.drewN n) base v z := by
  induction n with
  | zero => exact h
  | succ n ih => exact World.ownsRow.drew ih
theorem OwnW.slice {w : World} {base : Nat} {v : Value} {z : List Int} (h : OwnW w base v z) (hz : 0 < z.length) : ∃ g cap, v = .slice (some ⟨g, 0, none⟩) z.length cap ∧ base ≤ g ∧ cap ≤ 9223372036854775807 ∧ z.length ≤ cap ∧ ∀ j, j < z.length → w.cell? ⟨g, j, none⟩ = some (.int .u32 (z[j]?.getD 0)) := by
  rcases h.2 with ⟨_, h0⟩ | ⟨g, cap, cur, rfl, hb, hg, hc, hm, hs, ht⟩
  · omega
  · refine ⟨g, cap, rfl, hb, by simpa [maxLen] using hm, hc, fun j hj => ?_⟩
    rw [cell_of_row w g j _ _ _ hg, ← Array.getElem?_toList]
    have e : (cur.toList.take (z.length * 1))[j]? = (z.map (Value.int .u32))[j]? := by rw [ht]
    rw [Nat.mul_one, List.getElem?_take_of_lt hj, List.getElem?_map, List.getElem?_eq_getElem hj] at e
    rw [e, List.getElem?_eq_getElem hj]; rfl
theorem below_grownW {base : Nat} {w0 w w' : World} {v : Value} {z : List Int} (hb : Below base w0 w) (hown : OwnW w base v z) (hg : w.grownBy w' v.ownBlock) (hbase : base ≤ w.heap.size) : Below base w0 w' :=
  hb.grown hg hbase (fun k hk => by
    rcases hown.2 with ⟨rfl, _⟩ | ⟨g, cap, cur, rfl, hb, _⟩
    · cases hk
    · simp [Value.ownBlock] at hk; omega)

theorem wp_appW {w : World} {o : Oper} {a : Act} {K : Act → World → Prop} {Q : Exit → Act → World → Prop} (s x : Operand)
    (ho : o.op = .call { callee := .builtin .append, args := #[s, x], argTypes := #[102, 102] }) (base : Nat) (v : Value) (zs : List Int) (hs : a.eval s = v) (c : Int) (hown : OwnW w base v zs) (g : Nat)
    (hx : a.eval x = .slice (some ⟨g, 0, none⟩) 1 1) (hc : w.cell? ⟨g, 0, none⟩ = some (.int .u32 c)) (hln : zs.length ≤ 4000000) (hbase : base ≤ w.heap.size)
    (h : ∀ v' w', OwnW w' base v' (zs ++ [c]) → w.grownBy w' v.ownBlock → K (a.put o.dst v') w') : o.wp Tryd.prog a w K Q := by
  obtain ⟨i0, hi, hz0, hz1, hz2⟩ := info_parts infoU32
  refine wp_append_own w s x 102 ho base 30 i0 (.int .u32 0) 1 4 Tryd.underlying102 hi hz0 hz1 hz2 rfl (by decide) v zs.length (zs.map (Value.int .u32)) hs hown ⟨g, 0, none⟩ 1 1 [.int .u32 c] hx rfl ?_ (by simp [Value.oneCell']) (by simp [maxLen]; omega) (by omega) hbase ?_
  · intro j u hj
    cases j with
    | zero => rw [Addr.add_mid']; simp at hj; rw [← hj]; exact hc
    | succ j => simp at hj
  intro v' w' h1 h2 _
  exact h v' w' (OwnW.cast h1 (by simp) (by simp)) h2
theorem wp_appW1 {w : World} {o : Oper} {a : Act} {K : Act → World → Prop} {Q : Exit → Act → World → Prop} (s x : Operand)
    (ho : o.op = .call { callee := .builtin .append, args := #[s, x], argTypes := #[102, 102] }) (base : Nat) (v : Value) (zs : List Int) (hs : a.eval s = v) (c : Int) (hown : OwnW (w.alloc (.cells #[.int .u32 c] 30)) base v zs)
    (hx : a.eval x = .slice (some ⟨w.heap.size, 0, none⟩) 1 1) (hln : zs.length ≤ 4000000) (hbase : base ≤ w.heap.size)
    (h : ∀ v' w', OwnW w' base v' (zs ++ [c]) → (w.alloc (.cells #[.int .u32 c] 30)).grownBy w' v.ownBlock → K (a.put o.dst v') w') : o.wp Tryd.prog a (w.alloc (.cells #[.int .u32 c] 30)) K Q :=
  wp_appW s x ho base v zs hs c hown w.heap.size hx ((cell_of_row _ w.heap.size 0 _ 30 (0, 0) (World.alloc_heap_new w _)).trans rfl) hln (by simp; omega) h
theorem wpList_appW1 {w : World} {ops : Array Oper} {rest : List Oper} {o : Oper} {a : Act} {Q : Exit → Act → World → Prop} (hgd : o.guard = none) (s x : Operand)
    (ho : o.op = .call { callee := .builtin .append, args := #[s, x], argTypes := #[102, 102] }) (base : Nat) (v : Value) (zs : List Int) (hs : a.eval s = v) (c : Int) (hown : OwnW (w.alloc (.cells #[.int .u32 c] 30)) base v zs)
    (hx : a.eval x = .slice (some ⟨w.heap.size, 0, none⟩) 1 1) (hln : zs.length ≤ 4000000) (hbase : base ≤ w.heap.size)
    (h : ∀ v' w', OwnW w' base v' (zs ++ [c]) → (w.alloc (.cells #[.int .u32 c] 30)).grownBy w' v.ownBlock → wpList Tryd.prog ops Q rest (a.put o.dst v') w') : wpList Tryd.prog ops Q (o :: rest) a (w.alloc (.cells #[.int .u32 c] 30)) :=
  wpList_plain hgd fun _ hK => wp_appW1 s x ho base v zs hs c hown hx hln hbase fun v' w' h1 h2 => hK _ _ (h v' w' h1 h2)
end Go.Proofs.YtgcidamdbidgiaaDoor.S
