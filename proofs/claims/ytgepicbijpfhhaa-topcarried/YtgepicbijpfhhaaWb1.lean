/- The table of buckets; 'Bucket'. -/
import Derived.Test.YtgepicbijpfhhaaWr2
namespace Go.Proofs.Ytgepicbijpfhhaa
open Go.RowKit
set_option maxRecDepth 20000
set_option linter.unusedSimpArgs false

def bTab : List Int := [128, 256, 512, 1024, 2048, 4096]
/-- The table of buckets lies as its initialiser lays it. -/
def BTab (w : World) : Prop := w.rangeAt 0 0 (bTab.map (Value.int .i64))
theorem BTab.below {w w' : World} (h : BTab w) (hb : Below w.heap.size w w') : BTab w' := fun j v hv => by
  have := h j v hv
  rw [hb.cell (p := ⟨0, 0 + j, none⟩) (block_lt_of_cell this)]; exact this
def bktL (n : Int) : List Int → Int
  | [] => 0
  | b :: l => if n ≤ b - 2 then b else bktL n l
def bucketN (n : Int) : Int := if n < 0 then 0 else bktL n bTab
theorem bkt_step (n : Int) (j : Nat) (hj : j < 6) : bktL n (bTab.drop j) = if n ≤ bTab[j]?.getD 0 - 2 then bTab[j]?.getD 0 else bktL n (bTab.drop (j + 1)) := by
  have hj' : j < bTab.length := hj
  rw [List.drop_eq_getElem_cons hj', List.getElem?_eq_getElem hj']
  rfl
theorem bTab_in (j : Nat) (hj : j < 6) : 128 ≤ bTab[j]?.getD 0 ∧ bTab[j]?.getD 0 ≤ 4096 := by
  have hic : j = 0 ∨ j = 1 ∨ j = 2 ∨ j = 3 ∨ j = 4 ∨ j = 5 := by omega
  rcases hic with rfl | rfl | rfl | rfl | rfl | rfl <;> decide
end Go.Proofs.Ytgepicbijpfhhaa
