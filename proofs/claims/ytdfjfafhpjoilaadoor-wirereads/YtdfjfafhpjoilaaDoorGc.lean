/- Slices that are cut; bytes of the call's own out of a new block; appended to within a region. -/
import Derived.Test.YtdfjfafhpjoilaaDoorGb
namespace Go.Proofs.YtdfjfafhpjoilaaDoor
open Go.RowKit
set_option maxRecDepth 20000
set_option linter.unusedSimpArgs false

/-- Where a slice goes on that is cut at l. -/
def subA (x : Option Addr) (cap l : Nat) : Option Addr := if cap = l then x else x.map (·.add (l * 1))
theorem Bytes.cut {w : World} {x : Option Addr} {len cap : Nat} {z : List Int} (hb : Bytes w x len cap z) (l h : Nat) (h1 : l ≤ h) (h2 : h ≤ len) : Bytes w (subA x cap l) (h - l) (cap - l) ((z.drop l).take (h - l)) := by
  have hz := hb.len_eq
  have hle := hb.le
  refine ⟨by rw [List.length_take, List.length_drop]; omega, by omega, by have := hb.top; omega, ?_, ?_⟩
  · unfold subA
    split
    · intro _; omega
    · intro hn
      cases x with
      | none => have := hb.nil rfl; omega
      | some a => simp at hn
  · by_cases h0 : h - l = 0
    · exact .inl h0
    · rcases hb.at_ with h00 | ⟨b, off, hx, hc⟩
      · omega
      · refine .inr ⟨b, off + l, ?_, fun j hj => ?_⟩
        · unfold subA
          rw [if_neg (by omega), hx, Option.map_some, Addr.add_mid', Nat.mul_one]
        · rw [Nat.add_assoc, hc (l + j) (by omega), List.getElem?_take_of_lt hj, List.getElem?_drop]
theorem sizeU8 (w : World) : (sizeOf (Tryd.prog.elem 22)).run Tryd.prog w = .ok 1 w := by kernel_rfl
theorem elemB : Tryd.prog.underlying 22 = some (.slice (Tryd.prog.elem 22)) := by kernel_rfl
theorem run_cut_h (w : World) (x : Option Addr) (len cap h : Nat) (hh : h ≤ cap) : (Instr.slice 22 (.slice x len cap) none (some (.int .i64 (h : Int))) none).run Tryd.prog w = .ok (.slice (subA x cap 0) h cap) w := by
  rw [run_slice_h w 22 x len cap elemB .i64 (h : Int) (by omega) (by omega), sizeU8]
  simp [sliced, subA, Result.andThen]
theorem run_cut_l (w : World) (x : Option Addr) (len cap l : Nat) (hl : l ≤ len) : (Instr.slice 22 (.slice x len cap) (some (.int .i64 (l : Int))) none none).run Tryd.prog w = .ok (.slice (subA x cap l) (len - l) (cap - l)) w := by
  rw [run_slice_l w 22 x len cap elemB .i64 (l : Int) (by omega) (by omega), sizeU8]
  simp [sliced, subA, Result.andThen]
theorem OwnB.ofHolds {w : World} {g base : Nat} {l : List Int} (h : Holds w g .u8 5 l) (hb : base ≤ g) (hl : l.length ≤ 4000000) : OwnB w base (.slice (some ⟨g, 0, none⟩) l.length l.length) l :=
  ⟨by simp, .inr ⟨g, l.length, row .u8 l, rfl, hb, h, Nat.le_refl _, by simp [maxLen]; omega, by rw [row_size]; omega, by simp only [row, Nat.mul_one]; exact List.take_of_length_le (by simp)⟩⟩
/-- Bytes behind bytes of the call's own, within a region. -/
theorem wp_app {w : World} {o : Oper} {a : Act} {K : Act → World → Prop} {Q : Exit → Act → World → Prop} (s x : Operand)
    (ho : o.op = .call { callee := .builtin .append, args := #[s, x], argTypes := #[22, 22] }) (base : Nat) (v : Value) (zs : List Int) (hs : a.eval s = v) (hown : OwnB w base v zs)
    (g len cap : Nat) (z : List Int) (hx : a.eval x = .slice (some ⟨g, 0, none⟩) len cap) (hb : Bytes w (some ⟨g, 0, none⟩) len cap z) (hln : zs.length + len ≤ 4000000) (hbase : base ≤ w.heap.size)
    (h : ∀ v' w', OwnB w' base v' (zs ++ z) → w.grownBy w' v.ownBlock → K (a.put o.dst v') w') : o.wp Tryd.prog a w K Q := by
  obtain ⟨i0, hi, hz0, hz1, hz2⟩ := info_parts infoU8
  have hzl := hb.len_eq
  refine wp_append_own w s x 22 ho base 5 i0 (.int .u8 0) 1 1 Tryd.underlying22 hi hz0 hz1 hz2 rfl (by decide) v zs.length (zs.map (Value.int .u8)) hs hown ⟨g, 0, none⟩ len cap (z.map (Value.int .u8)) hx (by simp [hzl]) ?_ (by simp [Value.oneCell']) (by simp [maxLen]; omega) (by omega) hbase ?_
  · intro j u hu
    have hj : j < len := by have := (List.getElem?_eq_some_iff.1 hu).1; simpa [hzl] using this
    rcases hb.at_ with h0 | ⟨b, off, hy, hc⟩
    · omega
    · cases hy
      rw [Addr.add_mid', hc j hj, ← hu, List.getElem?_map, List.getElem?_eq_getElem (by omega)]; rfl
  · intro v' w' h1 h2 _
    exact h v' w' (OwnB.cast h1 (by simp [hzl]) (by simp)) h2

theorem wp_stG {P : Program} {o : Oper} {a : Act} {w : World} {K : Act → World → Prop} {Q : Exit → Act → World → Prop} (ty : TypeId) (x y : Operand) (ho : o.op = .store ty x y)
    (g : Nat) (hx : a.eval x = .pointer (some ⟨g, 0, none⟩)) {k : IntKind} {t : TypeId} {old l : List Int} (hy : a.eval y = .agg (row k l)) (hg : Holds w g k t old)
    (hi : (P.info? ty).map (·.size) = some l.length) (hl : old.length = l.length)
    (h : K (a.put o.dst undef) (w.setRow g (row k l))) : o.wp P a w K Q := by
  unfold Oper.wp execOp
  simp only [ho, hx, hy, Instr.storeAt, Instr.sureAddr, Sem.run_bind, Sem.run_pure, Result.andThen_ok, run_storeVar_row w g ty t k old l hg hl hi]
  exact h
theorem OwnB.lessG {w : World} {base base' : Nat} {v : Value} {z : List Int} (h : OwnB w base v z) (hb : base' ≤ base) : OwnB w base' v z := by
  refine ⟨h.1, ?_⟩
  rcases h.2 with h' | ⟨g, cap, cur, h1, h2, h3⟩
  · exact .inl h'
  · exact .inr ⟨g, cap, cur, h1, by omega, h3⟩
end Go.Proofs.YtdfjfafhpjoilaaDoor
