/- The writer of wire: truths, noughts, dots, events. -/
import Derived.Test.YtgepicbijpfhhaaWr1
import Derived.Deep.MidRow
namespace Go.Proofs.Ytgepicbijpfhhaa
open Go.RowKit
set_option maxRecDepth 20000
set_option linter.unusedSimpArgs false

/-- A part of a block, of whatever cells, as one value. -/
theorem wpList_ldv {P : Program} {ops : Array Oper} {rest : List Oper} {o : Oper} {a : Act} {w : World} {Q : Exit → Act → World → Prop} {d : TypeDesc} (hgd : o.guard = none) (ty : TypeId) (x : Operand) (ho : o.op = .load ty x)
    (g off : Nat) (hx : a.eval x = .pointer (some ⟨g, off, none⟩)) (cs : List Value) (hg : w.rangeAt g off cs)
    (hu : P.underlying ty = some d) (hd : d.isRow = true) (hi : (P.info? ty).map (·.size) = some cs.length)
    (h : wpList P ops Q rest (a.put o.dst (.agg cs.toArray)) w) : wpList P ops Q (o :: rest) a w :=
  wpList_plain hgd fun _ hK => wp_load_mid ty x ho g off hx cs _ hg hu hd hi (hK _ _ h)
/-- Block g holds the cells cs. -/
def CellsAt (w : World) (g : Nat) (t : TypeId) (cs : List Value) : Prop := w.heap[g]? = some (.cells cs.toArray t (0, 0))
theorem CellsAt.new (w : World) (t : TypeId) (cs : List Value) : CellsAt (w.alloc (.cells cs.toArray t)) w.heap.size t cs := heap_alloc_new w _
theorem CellsAt.lt {w : World} {g : Nat} {t : TypeId} {cs : List Value} (h : CellsAt w g t cs) : g < w.heap.size := (Array.getElem?_eq_some_iff.1 h).1
theorem CellsAt.cell {w : World} {g : Nat} {t : TypeId} {cs : List Value} (h : CellsAt w g t cs) (j : Nat) : w.cell? ⟨g, j, none⟩ = cs[j]? := by
  rw [cell_of_row w g j _ _ _ h]; simp
theorem CellsAt.went {w w' : World} {g H base : Nat} {t : TypeId} {cs : List Value} (h : CellsAt w g t cs) (hg : Went w w' H base) (hne : g ≠ H) (ht : t ≠ 5) : CellsAt w' g t cs := hg.kept g _ t _ hne ht h
theorem CellsAt.alloc {w : World} {g : Nat} {t : TypeId} {cs : List Value} (h : CellsAt w g t cs) (o : Obj) : CellsAt (w.alloc o) g t cs := by
  have hl := h.lt
  unfold CellsAt at h ⊢; rw [Below.heap_alloc w o g hl]; exact h
theorem CellsAt.range {w : World} {g : Nat} {t : TypeId} {cs : List Value} (h : CellsAt w g t cs) (o n : Nat) : w.rangeAt g o ((cs.drop o).take n) := fun j v hv => by
  rw [h.cell]
  rw [List.getElem?_take] at hv
  split at hv
  · rw [List.getElem?_drop] at hv; exact hv
  · simp at hv

def truthB (b : Bool) : Int := if b then 1 else 0
/-- A dot's cells and bytes. -/
def dotC (a s : Int) : List Value := [.int .u8 a, .int .u32 s]
def dotL (a s : Int) : List Int := a :: be4 s
set_option maxHeartbeats 1000000 in
theorem dot_any (H base : Nat) (L : List Int) (a s : Int) (w : World) (hW : Wr w H base L) (hln : L.length ≤ 2000000) :
    Calls Try.prog 27 #[.pointer (some ⟨H, 0, none⟩), .agg (dotC a s).toArray] w fun e w' => (∃ r, e = .returned r) ∧ Wr w' H base (L ++ dotL a s) ∧ Went w w' H base := by
  have hsz := hW.size
  have hlt : H < w.heap.size := by obtain ⟨v, h1, _⟩ := hW.has; exact h1.lt
  have hD0 := CellsAt.new w 24 (dotC a s)
  have hgo := Went.alloc (H := H) hsz (.cells (dotC a s).toArray 24)
  have hW0 := hW.alloc (.cells (dotC a s).toArray 24)
  clear hW
  go_enter Try.func27, Try.ntmps27
  go_upto_region 1 with fail
  refine forget (p := fun y => Code.wp _ _ _ _ y) (fun W0 => Went w W0 H base ∧ Wr W0 H base L ∧ CellsAt W0 w.heap.size 24 (dotC a s)) ⟨hgo, hW0, hD0⟩ ?_
  clear hgo hW0 hD0
  rintro W0 ⟨hg0, hW0, hD0⟩
  have hs0 := hW0.size
  have c0 : W0.cell? ⟨w.heap.size, 0, none⟩ = some (.int .u8 a) := hD0.cell 0
  have hp := put_any H base L (some ⟨W0.heap.size, 0, none⟩) 1 1 [a] (W0.alloc (.cells (row .u8 [a]) 5)) (hW0.alloc _) (new_bytes W0 [a] (by simp)) (by omega)
  have hgo := Went.alloc (H := H) hs0 (.cells (row .u8 [a]) 5)
  go_upto_region 2 with (go_at_call 16; refine hp.mono ?_; rintro e w1 ⟨⟨r, rfl⟩, hW1, hg1⟩)
  have hD1 := (hD0.went hgo (by omega) (by decide)).went hg1 (by omega) (by decide)
  have c1 : w1.cell? ⟨w.heap.size, 1, none⟩ = some (.int .u32 s) := hD1.cell 1
  have hf := four_any H base (L ++ [a]) s w1 hW1 (by rw [List.length_append]; simp; omega)
  have hg01 := hg0.trans (hgo.trans hg1)
  clear hp hD0 hD1 hW0 hW1 hgo hg1 hg0 c0
  go_wp2_with (go_at_call 26; refine hf.mono ?_; rintro e w2 ⟨⟨r2, rfl⟩, hW2, hg2⟩)
  go_end0
  refine ⟨⟨_, rfl⟩, ?_, hg01.trans hg2⟩
  rw [List.append_assoc] at hW2
  exact hW2
end Go.Proofs.Ytgepicbijpfhhaa
