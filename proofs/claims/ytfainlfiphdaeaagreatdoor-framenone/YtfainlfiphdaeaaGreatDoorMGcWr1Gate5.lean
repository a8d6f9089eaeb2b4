/- Slices that are cut; bytes of the call's own out of a new block; appended to within a region. The writer of wire: bytes put one behind the other behind a pointer; numbers, truths, noughts, dots. Gate: two operations that may come up, in either order; a place where ways meet again. -/
import Derived.Test.YtfainlfiphdaeaaGreatDoorMGate2EvmGb
import Derived.Test.YtfainlfiphdaeaaGreatDoorMGkEv0Gate
namespace Go.Proofs.YtfainlfiphdaeaaGreatDoor
open Go.RowKit
set_option maxRecDepth 20000
set_option linter.unusedSimpArgs false

/-- Where a slice goes on that is cut at l. -/
def subA (x : Option Addr) (cap l : Nat) : Option Addr := if cap = l then x else x.map (·.add (l * 1))
theorem Bytes.cut {w : World} {x : Option Addr} {len cap : Nat} {z : List Int} (hb : Bytes w x len cap z) (l h : Nat) (h1 : l ≤ h) (h2 : h ≤ len) : Bytes w (subA x cap l) (h - l) (cap - l) ((z.drop l).take (h - l)) := by
  have hz := hb.len_eq
  have hle := hb.le
  refine ⟨by rw [List.length_take, List.length_drop]; omega, by omega, by have := hb.top; omega, ?_, ?_⟩
  · unfold subA
    split
    · intro _; omega
    · intro hn
      cases x with
      | none => have := hb.nil rfl; omega
      | some a => simp at hn
  · by_cases h0 : h - l = 0
    · exact .inl h0
    · rcases hb.at_ with h00 | ⟨b, off, hx, hc⟩
      · omega
      · refine .inr ⟨b, off + l, ?_, fun j hj => ?_⟩
        · unfold subA
          rw [if_neg (by omega), hx, Option.map_some, Addr.add_mid', Nat.mul_one]
        · rw [Nat.add_assoc, hc (l + j) (by omega), List.getElem?_take_of_lt hj, List.getElem?_drop]
theorem sizeU8 (w : World) : (sizeOf (Tryz.prog.elem 41)).run Tryz.prog w = .ok 1 w := by kernel_rfl
theorem elemB : Tryz.prog.underlying 41 = some (.slice (Tryz.prog.elem 41)) := by kernel_rfl
theorem run_cut_h (w : World) (x : Option Addr) (len cap h : Nat) (hh : h ≤ cap) : (Instr.slice 41 (.slice x len cap) none (some (.int .i64 (h : Int))) none).run Tryz.prog w = .ok (.slice (subA x cap 0) h cap) w := by
  rw [run_slice_h w 41 x len cap elemB .i64 (h : Int) (by omega) (by omega), sizeU8]
  simp [sliced, subA, Result.andThen]
theorem run_cut_l (w : World) (x : Option Addr) (len cap l : Nat) (hl : l ≤ len) : (Instr.slice 41 (.slice x len cap) (some (.int .i64 (l : Int))) none none).run Tryz.prog w = .ok (.slice (subA x cap l) (len - l) (cap - l)) w := by
  rw [run_slice_l w 41 x len cap elemB .i64 (l : Int) (by omega) (by omega), sizeU8]
  simp [sliced, subA, Result.andThen]
theorem OwnB.ofHolds {w : World} {g base : Nat} {l : List Int} (h : Holds w g .u8 5 l) (hb : base ≤ g) (hl : l.length ≤ 4000000) : OwnB w base (.slice (some ⟨g, 0, none⟩) l.length l.length) l :=
  ⟨by simp, .inr ⟨g, l.length, row .u8 l, rfl, hb, h, Nat.le_refl _, by simp [maxLen]; omega, by rw [row_size]; omega, by simp only [row, Nat.mul_one]; exact List.take_of_length_le (by simp)⟩⟩
/-- Bytes behind bytes of the call's own, within a region. -/
theorem wp_app {w : World} {o : Oper} {a : Act} {K : Act → World → Prop} {Q : Exit → Act → World → Prop} (s x : Operand)
    (ho : o.op = .call { callee := .builtin .append, args := #[s, x], argTypes := #[41, 41] }) (base : Nat) (v : Value) (zs : List Int) (hs : a.eval s = v) (hown : OwnB w base v zs)
    (g len cap : Nat) (z : List Int) (hx : a.eval x = .slice (some ⟨g, 0, none⟩) len cap) (hb : Bytes w (some ⟨g, 0, none⟩) len cap z) (hln : zs.length + len ≤ 4000000) (hbase : base ≤ w.heap.size)
    (h : ∀ v' w', OwnB w' base v' (zs ++ z) → w.grownBy w' v.ownBlock → K (a.put o.dst v') w') : o.wp Tryz.prog a w K Q := by
  obtain ⟨i0, hi, hz0, hz1, hz2⟩ := info_parts infoU8
  have hzl := hb.len_eq
  refine wp_append_own w s x 41 ho base 5 i0 (.int .u8 0) 1 1 Tryz.underlying41 hi hz0 hz1 hz2 rfl (by decide) v zs.length (zs.map (Value.int .u8)) hs hown ⟨g, 0, none⟩ len cap (z.map (Value.int .u8)) hx (by simp [hzl]) ?_ (by simp [Value.oneCell']) (by simp [maxLen]; omega) (by omega) hbase ?_
  · intro j u hu
    have hj : j < len := by have := (List.getElem?_eq_some_iff.1 hu).1; simpa [hzl] using this
    rcases hb.at_ with h0 | ⟨b, off, hy, hc⟩
    · omega
    · cases hy
      rw [Addr.add_mid', hc j hj, ← hu, List.getElem?_map, List.getElem?_eq_getElem (by omega)]; rfl
  · intro v' w' h1 h2 _
    exact h v' w' (OwnB.cast h1 (by simp [hzl]) (by simp)) h2

theorem wp_stG {P : Program} {o : Oper} {a : Act} {w : World} {K : Act → World → Prop} {Q : Exit → Act → World → Prop} (ty : TypeId) (x y : Operand) (ho : o.op = .store ty x y)
    (g : Nat) (hx : a.eval x = .pointer (some ⟨g, 0, none⟩)) {k : IntKind} {t : TypeId} {old l : List Int} (hy : a.eval y = .agg (row k l)) (hg : Holds w g k t old)
    (hi : (P.info? ty).map (·.size) = some l.length) (hl : old.length = l.length)
    (h : K (a.put o.dst undef) (w.setRow g (row k l))) : o.wp P a w K Q := by
  unfold Oper.wp execOp
  simp only [ho, hx, hy, Instr.storeAt, Instr.sureAddr, Sem.run_bind, Sem.run_pure, Result.andThen_ok, run_storeVar_row w g ty t k old l hg hl hi]
  exact h
theorem OwnB.lessG {w : World} {base base' : Nat} {v : Value} {z : List Int} (h : OwnB w base v z) (hb : base' ≤ base) : OwnB w base' v z := by
  refine ⟨h.1, ?_⟩
  rcases h.2 with h' | ⟨g, cap, cur, h1, h2, h3⟩
  · exact .inl h'
  · exact .inr ⟨g, cap, cur, h1, by omega, h3⟩
end Go.Proofs.YtfainlfiphdaeaaGreatDoor

namespace Go.Proofs.YtfainlfiphdaeaaGreatDoor
open Go.RowKit
set_option maxRecDepth 20000
set_option linter.unusedSimpArgs false

/-- The box H holds the one value v. -/
def Box (w : World) (H : Nat) (t : TypeId) (v : Value) : Prop := w.heap[H]? = some (.cells #[v] t (0, 0))
theorem Box.cell {w : World} {H : Nat} {t : TypeId} {v : Value} (h : Box w H t v) : w.cell? ⟨H, 0, none⟩ = some v := (cell_of_row w H 0 _ t _ h).trans rfl
theorem Box.frozen {w : World} {H : Nat} {t : TypeId} {v : Value} (h : Box w H t v) : w.frozen? ⟨H, 0, none⟩ = false := frozen_of_row w H 0 _ t h
theorem Box.lt {w : World} {H : Nat} {t : TypeId} {v : Value} (h : Box w H t v) : H < w.heap.size := (Array.getElem?_eq_some_iff.1 h).1
theorem Box.set {w : World} {H : Nat} {t : TypeId} {v : Value} (h : Box w H t v) (v' : Value) : Box (w.setCell ⟨H, 0, none⟩ v') H t v' := by
  unfold Box at h ⊢
  rw [heap_setCell_same w H 0 _ t _ h]; rfl
theorem Box.alloc {w : World} {H : Nat} {t : TypeId} {v : Value} (h : Box w H t v) (o : Obj) : Box (w.alloc o) H t v := by
  have hl := h.lt
  unfold Box at h ⊢; rw [Below.heap_alloc w o H hl]; exact h
/-- A block of another type is not the one that bytes grow in. -/
theorem OwnB.apartT {w : World} {base g : Nat} {v : Value} {z : List Int} {cs : Array Value} {t : TypeId} {fr : Nat × Nat} (h : OwnB w base v z) (hb : w.heap[g]? = some (.cells cs t fr)) (ht : t ≠ 5) : v.ownBlock = none ∨ v.ownBlock ≠ some g := by
  rcases h.2 with ⟨rfl, _⟩ | ⟨g', cap, cur, rfl, _, hg, _⟩
  · exact .inl rfl
  · refine .inr fun e => ?_
    simp [Value.ownBlock] at e
    subst e
    rw [hg] at hb
    simp at hb
    exact ht hb.2.1.symm
theorem grownT {w w' : World} {base g : Nat} {v : Value} {z : List Int} {cs : Array Value} {t : TypeId} {fr : Nat × Nat} (h : OwnB w base v z) (hg : w.grownBy w' v.ownBlock) (hb : w.heap[g]? = some (.cells cs t fr)) (ht : t ≠ 5) : w'.heap[g]? = some (.cells cs t fr) := by
  have hl : g < w.heap.size := (Array.getElem?_eq_some_iff.1 hb).1
  have hne := h.apartT hb ht
  rw [hg.block g hl (fun e => by rcases hne with h0 | h0 <;> rw [← e] at h0 <;> simp at h0)]
  exact hb
theorem OwnB.setBox {w : World} {base H : Nat} {t : TypeId} {v u : Value} {z : List Int} (h : OwnB w base v z) (hb : Box w H t u) (ht : t ≠ 5) (u' : Value) : OwnB (w.setCell ⟨H, 0, none⟩ u') base v z := by
  have hne := h.apartT hb ht
  exact World.ownsRow.kept h (row := some H) ⟨rfl, rfl, rfl, by simp [World.setCell], fun k _ hk => heap_setCell_other w _ k _ (fun e => hk (by rw [e]))⟩ hne
/-- The writer behind H has put the bytes L; what it made, and itself, lies from base on. -/
structure Wr (w : World) (H base : Nat) (L : List Int) : Prop where
  ge : base ≤ H
  has : ∃ v, Box w H 143 v ∧ OwnB w base v L
/-- What stays while a writer writes: all below base, and every block of another type but its own. -/
structure Went (w w' : World) (H base : Nat) : Prop where
  below : Below base w w'
  kept : ∀ (g : Nat) (cs : Array Value) (t : TypeId) (fr : Nat × Nat), g ≠ H → t ≠ 5 → w.heap[g]? = some (.cells cs t fr) → w'.heap[g]? = some (.cells cs t fr)
theorem Went.refl (w : World) (H base : Nat) : Went w w H base := ⟨Below.refl _ _, fun _ _ _ _ _ _ h => h⟩
theorem Went.trans {w w' w'' : World} {H base : Nat} (h : Went w w' H base) (h' : Went w' w'' H base) : Went w w'' H base := ⟨h.below.trans h'.below, fun g cs t fr h1 h2 h3 => h'.kept g cs t fr h1 h2 (h.kept g cs t fr h1 h2 h3)⟩
theorem Went.alloc {w : World} {H base : Nat} (hb : base ≤ w.heap.size) (o : Obj) : Went w (w.alloc o) H base := ⟨(Below.refl _ _).alloc hb _, fun g cs t fr _ _ h3 => by rw [Below.heap_alloc w o g (Array.getElem?_eq_some_iff.1 h3).1]; exact h3⟩
theorem Wr.alloc {w : World} {H base : Nat} {L : List Int} (h : Wr w H base L) (o : Obj) : Wr (w.alloc o) H base L := by
  obtain ⟨v, h1, h2⟩ := h.has
  exact ⟨h.ge, v, h1.alloc o, h2.alloc o⟩
theorem Wr.size {w : World} {H base : Nat} {L : List Int} (h : Wr w H base L) : base ≤ w.heap.size := by
  obtain ⟨v, h1, _⟩ := h.has
  have := h1.lt
  have := h.ge
  omega

set_option maxHeartbeats 1000000 in
theorem put_any (H base : Nat) (L : List Int) (x : Option Addr) (len cap : Nat) (z : List Int) (w : World) (hW : Wr w H base L) (hb : Bytes w x len cap z) (hln : L.length + len ≤ 4000000) :
    Calls Tryz.prog 103 #[.pointer (some ⟨H, 0, none⟩), .slice x len cap] w fun e w' => (∃ r, e = .returned r) ∧ Wr w' H base (L ++ z) ∧ Went w w' H base := by
  have hbase := hW.size
  have hH := hW.ge
  obtain ⟨v, hbox, hown⟩ := hW.has
  have hc := hbox.cell
  clear hW
  go_enter Tryz.func103, Tryz.ntmps103
  go_wp2_with (at_builtin; refine wpList_app rfl _ _ rfl base _ L rfl hown x len cap z rfl hb hln hbase ?_; intro v1 w1 ho1 hg1; have hb1 : Box w1 H 143 v := grownT hown hg1 hbox (by decide); have hc1 := hb1.cell; have hf1 := hb1.frozen; obtain ⟨x1, n1, c1, rfl, hn1⟩ := ho1.isSlice; clear hn1)
  go_end0
  refine ⟨⟨_, rfl⟩, ⟨hH, _, hb1.set _, ho1.setBox hb1 (by decide) _⟩, (below_grown (Below.refl _ _) hown hg1 hbase).setCell hH _, fun g cs t fr h1 h2 h3 => ?_⟩
  rw [heap_setCell_other _ _ g _ h1]
  exact grownT hown hg1 h3 h2

/-- Two and four bytes of a number, the highest first. -/
def be2 (n : Int) : List Int := [n / 256 % 256, n % 256]
def be4 (n : Int) : List Int := [n / 16777216 % 256, n / 65536 % 256, n / 256 % 256, n % 256]
theorem new_bytes (w : World) (l : List Int) (hl : l.length ≤ 4000000) : Bytes (w.alloc (.cells (row .u8 l) 5)) (some ⟨w.heap.size, 0, none⟩) l.length l.length l := (Holds.new w .u8 5 l).bytes rfl hl
set_option maxHeartbeats 1000000 in
theorem two_any (H base : Nat) (L : List Int) (n : Nat) (w : World) (hW : Wr w H base L) (hln : L.length ≤ 3000000) :
    Calls Tryz.prog 102 #[.pointer (some ⟨H, 0, none⟩), .int .i64 n] w fun e w' => (∃ r, e = .returned r) ∧ Wr w' H base (L ++ be2 n) ∧ Went w w' H base := by
  have hsz := hW.size
  have hp := put_any H base L (some ⟨w.heap.size, 0, none⟩) 2 2 (be2 n) (w.alloc (.cells (row .u8 (be2 n)) 5)) (hW.alloc _) (new_bytes w (be2 n) (by simp [be2])) (by omega)
  have hgo := Went.alloc (H := H) hsz (.cells (row .u8 (be2 n)) 5)
  have e1 : IntKind.u8.wrap ((n : Int) / 2 ^ 8) = (n : Int) / 256 % 256 := by simp [IntKind.wrap, IntKind.bits, IntKind.signed]
  have e2 : IntKind.u8.wrap (n : Int) = (n : Int) % 256 := by simp [IntKind.wrap, IntKind.bits, IntKind.signed]
  have e3 : IntKind.u8.wrap ((n : Int) / 256) = (n : Int) / 256 % 256 := by simp [IntKind.wrap, IntKind.bits, IntKind.signed]
  clear hW
  go_enter Tryz.func102, Tryz.ntmps102
  go_wp2_with (go_at_call 103; refine hp.mono ?_; rintro e w1 ⟨⟨r, rfl⟩, hW1, hg1⟩)
  go_end0
  exact ⟨⟨_, rfl⟩, hW1, hgo.trans hg1⟩
set_option maxHeartbeats 1000000 in
theorem four_any (H base : Nat) (L : List Int) (n : Int) (w : World) (hW : Wr w H base L) (hln : L.length ≤ 3000000) :
    Calls Tryz.prog 150 #[.pointer (some ⟨H, 0, none⟩), .int .u32 n] w fun e w' => (∃ r, e = .returned r) ∧ Wr w' H base (L ++ be4 n) ∧ Went w w' H base := by
  have hsz := hW.size
  have hp := put_any H base L (some ⟨w.heap.size, 0, none⟩) 4 4 (be4 n) (w.alloc (.cells (row .u8 (be4 n)) 5)) (hW.alloc _) (new_bytes w (be4 n) (by simp [be4])) (by omega)
  have hgo := Went.alloc (H := H) hsz (.cells (row .u8 (be4 n)) 5)
  have e1 : IntKind.u8.wrap (n / 16777216) = n / 16777216 % 256 := by simp [IntKind.wrap, IntKind.bits, IntKind.signed]
  have e2 : IntKind.u8.wrap (n / 65536) = n / 65536 % 256 := by simp [IntKind.wrap, IntKind.bits, IntKind.signed]
  have e3 : IntKind.u8.wrap (n / 256) = n / 256 % 256 := by simp [IntKind.wrap, IntKind.bits, IntKind.signed]
  have e4 : IntKind.u8.wrap n = n % 256 := by simp [IntKind.wrap, IntKind.bits, IntKind.signed]
  clear hW
  go_enter Tryz.func150, Tryz.ntmps150
  go_wp2_with (go_at_call 103; refine hp.mono ?_; rintro e w1 ⟨⟨r, rfl⟩, hW1, hg1⟩)
  go_end0
  exact ⟨⟨_, rfl⟩, hW1, hgo.trans hg1⟩
end Go.Proofs.YtfainlfiphdaeaaGreatDoor

namespace Go.Proofs.YtfainlfiphdaeaaGreatDoor
open Go Go.RowKit

section
variable {P : Program} {ops : Array Oper} {Q : Exit → Act → World → Prop} {md : Region.Mode} {S : World → Prop} {D : Nat}
/-- One of the two that may come up comes up. -/
theorem wpAnyG_two {i j : Nat} {oi oj : Oper} {fuel : Nat} {listed : Array Bool} {a : Act} {w : World} (hi : ops[i]? = some oi) (hj : ops[j]? = some oj) (hr : Region.ready md ops listed = [i, j])
    (hwi : Region.wanted oi (yielded ops a.tmps) = true) (hwj : Region.wanted oj (yielded ops a.tmps) = true)
    (h1 : ∀ K' : Act → World → Prop, Shut (∀ a w, ((listed.setIfInBounds i true).getD D true = false → S w) → wpAnyG P md ops Q S D fuel (listed.setIfInBounds i true) a w → K' a w) → Oper.wp P oi a w K' Q)
    (h2 : ∀ K' : Act → World → Prop, Shut (∀ a w, ((listed.setIfInBounds j true).getD D true = false → S w) → wpAnyG P md ops Q S D fuel (listed.setIfInBounds j true) a w → K' a w) → Oper.wp P oj a w K' Q) : wpAnyG P md ops Q S D (fuel + 1) listed a w :=
  ⟨fun h0 => (by rw [hr] at h0; cases h0), fun q hq => by
    rw [hr] at hq
    rcases List.mem_cons.1 hq with rfl | hq
    · refine wpOp_step hi (fun K' hK => ?_)
      rw [if_pos hwi]
      exact h1 K' (fun a w h1 h2 => hK a w ⟨h1, h2⟩)
    · obtain rfl : q = j := by simpa using hq
      refine wpOp_step hj (fun K' hK => ?_)
      rw [if_pos hwj]
      exact h2 K' (fun a w h1 h2 => hK a w ⟨h1, h2⟩)⟩
end
/-- Ways that end alike: the end is proved once. -/
theorem meet {α : Prop} (R : Nat → Value → World → Prop) (C : Nat → Value → World → Prop) (use : Veil (∀ g v w, R g v w → C g v w) → α) (prove : ∀ g v w, R g v w → C g v w) : α := use ⟨prove⟩
end Go.Proofs.YtfainlfiphdaeaaGreatDoor
