/- Bytes: a slice that is read, a row of the call's own, copied, appended to, as a string. -/
import Derived.Test.YthjkcfpdkhghpaaGk
import Derived.Deep.OwnRows
import Derived.Maps.AppendAt
import Derived.Laws.AppendOwnNone
import Derived.RangeFuncBox
import Derived.Laws.BytesString
import Derived.Laws.BytesArg
namespace Go.Proofs.Ythjkcfpdkhghpaa
open Go.RowKit

theorem Addr.add_mid' (b o j : Nat) : (⟨b, o, none⟩ : Addr).add j = ⟨b, o + j, none⟩ := by unfold Addr.add; split <;> simp_all
/-- What is known of bytes that are read: a slice of len bytes whose cells hold z. -/
structure Bytes (w : World) (x : Option Addr) (len cap : Nat) (z : List Int) : Prop where
  len_eq : len = z.length
  le : len ≤ cap
  top : cap ≤ 9223372036854775807
  nil : x = none → cap = 0
  at_ : len = 0 ∨ ∃ b off, x = some ⟨b, off, none⟩ ∧ ∀ j, j < len → w.cell? ⟨b, off + j, none⟩ = some (.int .u8 (z[j]?.getD 0))
theorem Bytes.below {w w' : World} {x : Option Addr} {len cap : Nat} {z : List Int} (h : Bytes w x len cap z) (hb : Below w.heap.size w w') : Bytes w' x len cap z :=
  ⟨h.len_eq, h.le, h.top, h.nil, by
    rcases h.at_ with h0 | ⟨b, off, hx, hc⟩
    · exact .inl h0
    · by_cases hl : len = 0
      · exact .inl hl
      · exact .inr ⟨b, off, hx, fun j hj => (hb.cell (p := ⟨b, off + j, none⟩) (block_lt_of_cell (hc j hj))).trans (hc j hj)⟩⟩
theorem bytes_nil (w : World) : Bytes w none 0 0 [] := ⟨rfl, by omega, by omega, fun _ => rfl, .inl rfl⟩
theorem infoU8 : (Try.prog.info? 5).map (fun i => (i.zero, i.size, i.bytes)) = some (some (.int .u8 0), 1, 1) := by kernel_rfl
theorem size1u8 : (Try.prog.info? 5).map (·.size) = some 1 := by kernel_rfl
theorem made_row (n : Nat) : madeCells #[.int .u8 0] n = row .u8 (List.replicate n 0) := by
  apply Array.ext_getElem?
  intro i
  by_cases h : i < n <;> simp [madeCells, row, h, Nat.mod_one]
/-- A copy of bytes into a row of noughts that is at least as long. -/
theorem run_copy_bytes {t : TypeId} (w : World) (g m : Nat) (x : Option Addr) (len cap : Nat) (z : List Int) (hb : Bytes w x len cap z) (hg : Holds w g .u8 t (List.replicate m 0)) (hm : len ≤ m) :
    (Builtin.copy_ #[42, 42] 3 #[.slice (some ⟨g, 0, none⟩) m m, .slice x len cap]).run Try.prog w = .ok (.int .i64 len) (w.setRow g (row .u8 (z ++ List.replicate (m - z.length) 0))) := by
  have hz : z.length = len := hb.len_eq.symm
  have hcopy : ∀ (a : Addr), (∀ j v, (row .u8 z).toList[j]? = some v → w.cell? (a.add j) = some v) →
      (Builtin.copy_ #[42, 42] 3 #[.slice (some ⟨g, 0, none⟩) m m, .slice (some a) len cap]).run Try.prog w = .ok (.int .i64 len) (w.setRow g (row .u8 (z ++ List.replicate (m - z.length) 0))) := fun a hsrc => by
    have hlen : (row .u8 z).toList.length = len := by simp [row, hz]
    have := run_copy_row (P := Try.prog) w 42 42 3 5 g 0 m m a len cap _ t (row .u8 z).toList Try.underlying42 size1u8 hg
      (by rw [hlen]; exact (Nat.min_eq_left hm).symm) hsrc (by rw [hlen, row_size, List.length_replicate]; omega) (fun v hv => (Array.all_eq_true_iff_forall_mem.1 (row_one .u8 z)) v (by simpa using hv))
    rw [this, hlen]
    have e : (List.take 0 (row .u8 (List.replicate m 0)).toList ++ (row .u8 z).toList ++ List.drop (0 + len) (row .u8 (List.replicate m 0)).toList).toArray = row .u8 (z ++ List.replicate (m - z.length) 0) := by
      simp [row, hz]
    rw [e]; rfl
  rcases hb.at_ with h0 | ⟨b, off, hx, hc⟩
  · have hz0 : z = [] := List.length_eq_zero_iff.1 (by omega)
    cases x with
    | none =>
      have hc0 := hb.nil rfl
      subst h0 hc0 hz0
      rw [run_copy_nil Try.prog w 42 42 3 5 ⟨g, 0, none⟩ m m Try.underlying42 (by rw [size1u8]; rfl)]
      simp only [List.nil_append, List.length_nil, Nat.sub_zero]
      rw [setRow_self w g _ t _ hg]; rfl
    | some a => exact hcopy a (fun j v hv => by subst hz0; simp [row] at hv)
  · subst hx
    exact hcopy _ (fun j v hv => by
      have hj : j < len := by
        have := (List.getElem?_eq_some_iff.1 hv).1
        simpa [row, hz] using this
      rw [Addr.add_mid', hc j hj]
      have : (row .u8 z).toList[j]? = some (.int .u8 (z[j]?.getD 0)) := by
        have h := row_get .u8 z j (by omega)
        simpa using h
      rw [← this]; exact hv)
/-- How long a slice is. -/
def lenOf : Value → Nat | .slice _ n _ => n | _ => 0
/-- The slice v of the call's own holds the bytes z. -/
def OwnB (w : World) (base : Nat) (v : Value) (z : List Int) : Prop := w.ownsRow base 5 1 v z.length (z.map (Value.int .u8))
theorem OwnB.cast {w : World} {base n : Nat} {v : Value} {z : List Int} {xs : List Value} (h : w.ownsRow base 5 1 v n xs) (hn : n = z.length) (hx : xs = z.map (Value.int .u8)) : OwnB w base v z := by
  subst hn hx; exact h
/-- Bytes behind bytes of the call's own. -/
theorem wpList_app {w : World} {ops : Array Oper} {rest : List Oper} {o : Oper} {a : Act} {Q : Exit → Act → World → Prop} (hgd : o.guard = none) (s x : Operand)
    (ho : o.op = .call { callee := .builtin .append, args := #[s, x], argTypes := #[42, 42] }) (base : Nat) (v : Value) (zs : List Int) (hs : a.eval s = v) (hown : OwnB w base v zs)
    (y : Option Addr) (len cap : Nat) (z : List Int) (hx : a.eval x = .slice y len cap) (hb : Bytes w y len cap z) (hln : zs.length + len ≤ 4000000) (hbase : base ≤ w.heap.size)
    (h : ∀ v' w', OwnB w' base v' (zs ++ z) → w.grownBy w' v.ownBlock → wpList Try.prog ops Q rest (a.put o.dst v') w') : wpList Try.prog ops Q (o :: rest) a w := by
  obtain ⟨i0, hi, hz0, hz1, hz2⟩ := info_parts infoU8
  have hzl := hb.len_eq
  have hcase : ∀ ad : Addr, y = some ad → (∀ j u, (z.map (Value.int .u8))[j]? = some u → w.cell? (ad.add j) = some u) → wpList Try.prog ops Q (o :: rest) a w := fun ad hy hsrc => by
    subst hy
    refine wpList_append_own w hgd s x 42 ho base 5 i0 (.int .u8 0) 1 1 Try.underlying42 hi hz0 hz1 hz2 rfl (by decide) v zs.length (zs.map (Value.int .u8)) hs hown ad len cap (z.map (Value.int .u8)) hx (by simp [hzl]) hsrc (by simp [Value.oneCell']) (by simp [maxLen]; omega) (by omega) hbase ?_
    intro v' w' h1 h2 _
    exact h v' w' (OwnB.cast h1 (by simp [hzl]) (by simp)) h2
  rcases hb.at_ with h0 | ⟨b, off, hy, hc⟩
  · have hz0' : z = [] := List.length_eq_zero_iff.1 (by omega)
    cases y with
    | none =>
      have hc0 := hb.nil rfl
      subst h0 hc0 hz0'
      refine wpList_append_own_none hgd s x 42 ho base 5 i0 1 Try.underlying42 hi v zs.length (zs.map (Value.int .u8)) hs hown hx ?_
      exact h v w (by rw [List.append_nil]; exact hown) ⟨rfl, rfl, rfl, Nat.le_refl _, fun _ _ _ => rfl⟩
    | some ad => exact hcase ad rfl (fun j u hu => by subst hz0'; simp at hu)
  · exact hcase _ hy (fun j u hu => by
      have hj : j < len := by have := (List.getElem?_eq_some_iff.1 hu).1; simpa [hzl] using this
      rw [Addr.add_mid', hc j hj, ← hu, List.getElem?_map, List.getElem?_eq_getElem (by omega)]; rfl)
/-- One byte behind bytes of the call's own: the new byte lies in the block that was made last. -/
theorem wpList_app1 {w : World} {ops : Array Oper} {rest : List Oper} {o : Oper} {a : Act} {Q : Exit → Act → World → Prop} (hgd : o.guard = none) (s x : Operand)
    (ho : o.op = .call { callee := .builtin .append, args := #[s, x], argTypes := #[42, 42] }) (base : Nat) (v : Value) (zs : List Int) (hs : a.eval s = v) (c : Int) (hown : OwnB (w.alloc (.cells #[.int .u8 c] 5)) base v zs)
    (hx : a.eval x = .slice (some ⟨w.heap.size, 0, none⟩) 1 1) (hln : zs.length ≤ 4000000) (hbase : base ≤ w.heap.size)
    (h : ∀ v' w', OwnB w' base v' (zs ++ [c]) → (w.alloc (.cells #[.int .u8 c] 5)).grownBy w' v.ownBlock → wpList Try.prog ops Q rest (a.put o.dst v') w') : wpList Try.prog ops Q (o :: rest) a (w.alloc (.cells #[.int .u8 c] 5)) := by
  obtain ⟨i0, hi, hz0, hz1, hz2⟩ := info_parts infoU8
  refine wpList_append_own (w.alloc (.cells #[.int .u8 c] 5)) hgd s x 42 ho base 5 i0 (.int .u8 0) 1 1 Try.underlying42 hi hz0 hz1 hz2 rfl (by decide) v zs.length (zs.map (Value.int .u8)) hs hown ⟨w.heap.size, 0, none⟩ 1 1 [.int .u8 c] hx rfl (cell_one_new _ _ _) (by simp [Value.oneCell']) (by simp [maxLen]; omega) (by omega) (by simp; omega) ?_
  intro v' w' h1 h2 _
  exact h v' w' (OwnB.cast h1 (by simp) (by simp)) h2
theorem OwnB.nil (w : World) (base : Nat) : OwnB w base (.slice none 0 0) [] := World.ownsRow_nil w base 5 1
theorem OwnB.alloc {w : World} {base : Nat} {v : Value} {z : List Int} (h : OwnB w base v z) (o : Obj) : OwnB (w.alloc o) base v z := World.ownsRow.alloc h o
theorem OwnB.slice {w : World} {base : Nat} {v : Value} {z : List Int} (h : OwnB w base v z) (hz : 0 < z.length) : ∃ g cap, v = .slice (some ⟨g, 0, none⟩) z.length cap ∧ base ≤ g := by
  rcases h.2 with ⟨_, h0⟩ | ⟨g, cap, cur, rfl, hb, _⟩
  · omega
  · exact ⟨g, cap, rfl, hb⟩
theorem below_grown {base : Nat} {w0 w w' : World} {v : Value} {z : List Int} (hb : Below base w0 w) (hown : OwnB w base v z) (hg : w.grownBy w' v.ownBlock) (hbase : base ≤ w.heap.size) : Below base w0 w' :=
  hb.grown hg hbase (fun k hk => by
    rcases hown.2 with ⟨rfl, _⟩ | ⟨g, cap, cur, rfl, hb, _⟩
    · cases hk
    · simp [Value.ownBlock] at hk; omega)
theorem Holds.bytes {w : World} {g : Nat} {t : TypeId} {l : List Int} {n : Nat} (h : Holds w g .u8 t l) (hn : n = l.length) (hl : l.length ≤ 4000000) : Bytes w (some ⟨g, 0, none⟩) n n l := by
  subst hn
  exact ⟨rfl, Nat.le_refl _, by omega, (fun h => by cases h), .inr ⟨g, 0, rfl, fun j hj => by rw [Nat.zero_add]; exact h.cell j hj⟩⟩
theorem OwnB.bytes {w : World} {base : Nat} {x : Option Addr} {n cap : Nat} {z : List Int} (h : OwnB w base (.slice x n cap) z) : n = z.length ∧ Bytes w x n cap z := by
  rcases h.2 with ⟨h1, h0⟩ | ⟨g, cap', cur, h1, _, hg, hc, hm, hs, ht⟩
  · have hz : z = [] := List.length_eq_zero_iff.1 h0
    cases h1
    subst hz
    exact ⟨rfl, bytes_nil w⟩
  · cases h1
    refine ⟨rfl, rfl, hc, by simpa [maxLen] using hm, (fun h => by cases h), .inr ⟨g, 0, rfl, fun j hj => ?_⟩⟩
    rw [Nat.zero_add, cell_of_row w g j _ _ _ hg, ← Array.getElem?_toList]
    have e : (cur.toList.take (z.length * 1))[j]? = (z.map (Value.int .u8))[j]? := by rw [ht]
    rw [Nat.mul_one, List.getElem?_take_of_lt hj, List.getElem?_map, List.getElem?_eq_getElem hj] at e
    rw [e, List.getElem?_eq_getElem hj]; rfl
theorem OwnB.isSlice {w : World} {base : Nat} {v : Value} {z : List Int} (h : OwnB w base v z) : ∃ x n c, v = .slice x n c ∧ n = z.length := by
  rcases h.2 with ⟨rfl, h0⟩ | ⟨g, cap, cur, rfl, _⟩
  · exact ⟨none, 0, 0, rfl, h0.symm⟩
  · exact ⟨_, _, _, rfl, rfl⟩
theorem conv_bytes {w : World} {x : Option Addr} {len cap : Nat} {z : List Int} (h : Bytes w x len cap z) : (convert 42 9 (.slice x len cap)).run Try.prog w = .ok (.string (strOfNums z)) w := by
  rw [run_convert_bytes_string w 42 9 5 x len cap Try.underlying42 Try.underlying5 Try.underlying9]
  have hz := h.len_eq
  have hcase : ∀ a : Addr, x = some a → (∀ j u, (z.map (Value.int .u8))[j]? = some u → w.cell? (a.add j) = some u) → (Conv.bytesToString (.slice x len cap)).run Try.prog w = .ok (.string (strOfNums z)) w := fun a hx hsrc => by
    subst hx
    have hl := run_loadCells_list (P := Try.prog) w a (z.map (Value.int .u8)) hsrc
    rw [List.length_map, ← hz] at hl
    rw [run_bytesToString w a len cap z hl, foldl_push_bytes]
    simp [strOfNums]
  rcases h.at_ with h0 | ⟨b, off, hx, hc⟩
  · have hz0 : z = [] := List.length_eq_zero_iff.1 (by omega)
    cases x with
    | none =>
      subst hz0 h0
      simp only [Conv.bytesToString, Sem.run_pure]; rfl
    | some a => exact hcase a rfl (fun j u hu => by subst hz0; simp at hu)
  · exact hcase _ hx (fun j u hu => by
      have hj : j < len := by have := (List.getElem?_eq_some_iff.1 hu).1; simpa [hz] using this
      rw [Addr.add_mid', hc j hj, ← hu, List.getElem?_map, List.getElem?_eq_getElem (by omega)]; rfl)
theorem Bytes.few {w : World} {x : Option Addr} {len cap : Nat} {z : List Int} (h : Bytes w x len cap z) (n : Nat) : Bytes w x (min len n) cap (z.take n) := by
  have hz := h.len_eq
  refine ⟨by rw [List.length_take]; omega, by have := h.le; omega, h.top, h.nil, ?_⟩
  rcases h.at_ with h0 | ⟨b, off, hx, hc⟩
  · exact .inl (by omega)
  · exact .inr ⟨b, off, hx, fun j hj => by rw [List.getElem?_take_of_lt (by omega)]; exact hc j (by omega)⟩
theorem Bytes.drewN {w : World} {x : Option Addr} {len cap : Nat} {z : List Int} (h : Bytes w x len cap z) (n : Nat) : Bytes (w.drewN n) x len cap z := h.below (below_drewN (Below.refl _ _) n)
end Go.Proofs.Ythjkcfpdkhghpaa

