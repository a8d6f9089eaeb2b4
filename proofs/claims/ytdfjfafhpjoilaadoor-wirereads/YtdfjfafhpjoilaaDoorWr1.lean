/- The writer of wire: bytes put one behind the other behind a pointer; numbers, truths, noughts, dots. -/
import Derived.Test.YtdfjfafhpjoilaaDoorGc
namespace Go.Proofs.YtdfjfafhpjoilaaDoor
open Go.RowKit
set_option maxRecDepth 20000
set_option linter.unusedSimpArgs false

/-- The box H holds the one value v. -/
def Box (w : World) (H : Nat) (t : TypeId) (v : Value) : Prop := w.heap[H]? = some (.cells #[v] t (0, 0))
theorem Box.cell {w : World} {H : Nat} {t : TypeId} {v : Value} (h : Box w H t v) : w.cell? ⟨H, 0, none⟩ = some v := (cell_of_row w H 0 _ t _ h).trans rfl
theorem Box.frozen {w : World} {H : Nat} {t : TypeId} {v : Value} (h : Box w H t v) : w.frozen? ⟨H, 0, none⟩ = false := frozen_of_row w H 0 _ t h
theorem Box.lt {w : World} {H : Nat} {t : TypeId} {v : Value} (h : Box w H t v) : H < w.heap.size := (Array.getElem?_eq_some_iff.1 h).1
theorem Box.set {w : World} {H : Nat} {t : TypeId} {v : Value} (h : Box w H t v) (v' : Value) : Box (w.setCell ⟨H, 0, none⟩ v') H t v' := by
  unfold Box at h ⊢
  rw [heap_setCell_same w H 0 _ t _ h]; rfl
theorem Box.alloc {w : World} {H : Nat} {t : TypeId} {v : Value} (h : Box w H t v) (o : Obj) : Box (w.alloc o) H t v := by
  have hl := h.lt
  unfold Box at h ⊢; rw [Below.heap_alloc w o H hl]; exact h
/-- A block of another type is not the one that bytes grow in. -/
theorem OwnB.apartT {w : World} {base g : Nat} {v : Value} {z : List Int} {cs : Array Value} {t : TypeId} {fr : Nat × Nat} (h : OwnB w base v z) (hb : w.heap[g]? = some (.cells cs t fr)) (ht : t ≠ 5) : v.ownBlock = none ∨ v.ownBlock ≠ some g := by
  rcases h.2 with ⟨rfl, _⟩ | ⟨g', cap, cur, rfl, _, hg, _⟩
  · exact .inl rfl
  · refine .inr fun e => ?_
    simp [Value.ownBlock] at e
    subst e
    rw [hg] at hb
    simp at hb
    exact ht hb.2.1.symm
theorem grownT {w w' : World} {base g : Nat} {v : Value} {z : List Int} {cs : Array Value} {t : TypeId} {fr : Nat × Nat} (h : OwnB w base v z) (hg : w.grownBy w' v.ownBlock) (hb : w.heap[g]? = some (.cells cs t fr)) (ht : t ≠ 5) : w'.heap[g]? = some (.cells cs t fr) := by
  have hl : g < w.heap.size := (Array.getElem?_eq_some_iff.1 hb).1
  have hne := h.apartT hb ht
  rw [hg.block g hl (fun e => by rcases hne with h0 | h0 <;> rw [← e] at h0 <;> simp at h0)]
  exact hb
theorem OwnB.setBox {w : World} {base H : Nat} {t : TypeId} {v u : Value} {z : List Int} (h : OwnB w base v z) (hb : Box w H t u) (ht : t ≠ 5) (u' : Value) : OwnB (w.setCell ⟨H, 0, none⟩ u') base v z := by
  have hne := h.apartT hb ht
  exact World.ownsRow.kept h (row := some H) ⟨rfl, rfl, rfl, by simp [World.setCell], fun k _ hk => heap_setCell_other w _ k _ (fun e => hk (by rw [e]))⟩ hne
/-- The writer behind H has put the bytes L; what it made, and itself, lies from base on. -/
structure Wr (w : World) (H base : Nat) (L : List Int) : Prop where
  ge : base ≤ H
  has : ∃ v, Box w H 80 v ∧ OwnB w base v L
/-- What stays while a writer writes: all below base, and every block of another type but its own. -/
structure Went (w w' : World) (H base : Nat) : Prop where
  below : Below base w w'
  kept : ∀ (g : Nat) (cs : Array Value) (t : TypeId) (fr : Nat × Nat), g ≠ H → t ≠ 5 → w.heap[g]? = some (.cells cs t fr) → w'.heap[g]? = some (.cells cs t fr)
theorem Went.refl (w : World) (H base : Nat) : Went w w H base := ⟨Below.refl _ _, fun _ _ _ _ _ _ h => h⟩
theorem Went.trans {w w' w'' : World} {H base : Nat} (h : Went w w' H base) (h' : Went w' w'' H base) : Went w w'' H base := ⟨h.below.trans h'.below, fun g cs t fr h1 h2 h3 => h'.kept g cs t fr h1 h2 (h.kept g cs t fr h1 h2 h3)⟩
theorem Went.alloc {w : World} {H base : Nat} (hb : base ≤ w.heap.size) (o : Obj) : Went w (w.alloc o) H base := ⟨(Below.refl _ _).alloc hb _, fun g cs t fr _ _ h3 => by rw [Below.heap_alloc w o g (Array.getElem?_eq_some_iff.1 h3).1]; exact h3⟩
theorem Wr.alloc {w : World} {H base : Nat} {L : List Int} (h : Wr w H base L) (o : Obj) : Wr (w.alloc o) H base L := by
  obtain ⟨v, h1, h2⟩ := h.has
  exact ⟨h.ge, v, h1.alloc o, h2.alloc o⟩
theorem Wr.size {w : World} {H base : Nat} {L : List Int} (h : Wr w H base L) : base ≤ w.heap.size := by
  obtain ⟨v, h1, _⟩ := h.has
  have := h1.lt
  have := h.ge
  omega

set_option maxHeartbeats 1000000 in
theorem put_any (H base : Nat) (L : List Int) (x : Option Addr) (len cap : Nat) (z : List Int) (w : World) (hW : Wr w H base L) (hb : Bytes w x len cap z) (hln : L.length + len ≤ 4000000) :
    Calls Tryd.prog 31 #[.pointer (some ⟨H, 0, none⟩), .slice x len cap] w fun e w' => (∃ r, e = .returned r) ∧ Wr w' H base (L ++ z) ∧ Went w w' H base := by
  have hbase := hW.size
  have hH := hW.ge
  obtain ⟨v, hbox, hown⟩ := hW.has
  have hc := hbox.cell
  clear hW
  go_enter Tryd.func31, Tryd.ntmps31
  go_wp2_with (at_builtin; refine wpList_app rfl _ _ rfl base _ L rfl hown x len cap z rfl hb hln hbase ?_; intro v1 w1 ho1 hg1; have hb1 : Box w1 H 80 v := grownT hown hg1 hbox (by decide); have hc1 := hb1.cell; have hf1 := hb1.frozen; obtain ⟨x1, n1, c1, rfl, hn1⟩ := ho1.isSlice; clear hn1)
  go_end0
  refine ⟨⟨_, rfl⟩, ⟨hH, _, hb1.set _, ho1.setBox hb1 (by decide) _⟩, (below_grown (Below.refl _ _) hown hg1 hbase).setCell hH _, fun g cs t fr h1 h2 h3 => ?_⟩
  rw [heap_setCell_other _ _ g _ h1]
  exact grownT hown hg1 h3 h2

/-- Two and four bytes of a number, the highest first. -/
def be2 (n : Int) : List Int := [n / 256 % 256, n % 256]
def be4 (n : Int) : List Int := [n / 16777216 % 256, n / 65536 % 256, n / 256 % 256, n % 256]
theorem new_bytes (w : World) (l : List Int) (hl : l.length ≤ 4000000) : Bytes (w.alloc (.cells (row .u8 l) 5)) (some ⟨w.heap.size, 0, none⟩) l.length l.length l := (Holds.new w .u8 5 l).bytes rfl hl
set_option maxHeartbeats 1000000 in
theorem two_any (H base : Nat) (L : List Int) (n : Nat) (w : World) (hW : Wr w H base L) (hln : L.length ≤ 3000000) :
    Calls Tryd.prog 30 #[.pointer (some ⟨H, 0, none⟩), .int .i64 n] w fun e w' => (∃ r, e = .returned r) ∧ Wr w' H base (L ++ be2 n) ∧ Went w w' H base := by
  have hsz := hW.size
  have hp := put_any H base L (some ⟨w.heap.size, 0, none⟩) 2 2 (be2 n) (w.alloc (.cells (row .u8 (be2 n)) 5)) (hW.alloc _) (new_bytes w (be2 n) (by simp [be2])) (by omega)
  have hgo := Went.alloc (H := H) hsz (.cells (row .u8 (be2 n)) 5)
  have e1 : IntKind.u8.wrap ((n : Int) / 2 ^ 8) = (n : Int) / 256 % 256 := by simp [IntKind.wrap, IntKind.bits, IntKind.signed]
  have e2 : IntKind.u8.wrap (n : Int) = (n : Int) % 256 := by simp [IntKind.wrap, IntKind.bits, IntKind.signed]
  have e3 : IntKind.u8.wrap ((n : Int) / 256) = (n : Int) / 256 % 256 := by simp [IntKind.wrap, IntKind.bits, IntKind.signed]
  clear hW
  go_enter Tryd.func30, Tryd.ntmps30
  go_wp2_with (go_at_call 31; refine hp.mono ?_; rintro e w1 ⟨⟨r, rfl⟩, hW1, hg1⟩)
  go_end0
  exact ⟨⟨_, rfl⟩, hW1, hgo.trans hg1⟩
set_option maxHeartbeats 1000000 in
theorem four_any (H base : Nat) (L : List Int) (n : Int) (w : World) (hW : Wr w H base L) (hln : L.length ≤ 3000000) :
    Calls Tryd.prog 37 #[.pointer (some ⟨H, 0, none⟩), .int .u32 n] w fun e w' => (∃ r, e = .returned r) ∧ Wr w' H base (L ++ be4 n) ∧ Went w w' H base := by
  have hsz := hW.size
  have hp := put_any H base L (some ⟨w.heap.size, 0, none⟩) 4 4 (be4 n) (w.alloc (.cells (row .u8 (be4 n)) 5)) (hW.alloc _) (new_bytes w (be4 n) (by simp [be4])) (by omega)
  have hgo := Went.alloc (H := H) hsz (.cells (row .u8 (be4 n)) 5)
  have e1 : IntKind.u8.wrap (n / 16777216) = n / 16777216 % 256 := by simp [IntKind.wrap, IntKind.bits, IntKind.signed]
  have e2 : IntKind.u8.wrap (n / 65536) = n / 65536 % 256 := by simp [IntKind.wrap, IntKind.bits, IntKind.signed]
  have e3 : IntKind.u8.wrap (n / 256) = n / 256 % 256 := by simp [IntKind.wrap, IntKind.bits, IntKind.signed]
  have e4 : IntKind.u8.wrap n = n % 256 := by simp [IntKind.wrap, IntKind.bits, IntKind.signed]
  clear hW
  go_enter Tryd.func37, Tryd.ntmps37
  go_wp2_with (go_at_call 31; refine hp.mono ?_; rintro e w1 ⟨⟨r, rfl⟩, hW1, hg1⟩)
  go_end0
  exact ⟨⟨_, rfl⟩, hW1, hgo.trans hg1⟩
end Go.Proofs.YtdfjfafhpjoilaaDoor
