/- The statement ChachaTwice, walked. -/
import Derived.Test.YtobfknpgkdiicabCy
import Derived.Test.YtobfknpgkdiicabCa
import Derived.Test.YtobfknpgkdiicabFew3
import Derived.Test.YtobfknpgkdiicabGate2
namespace Go.Proofs.Ytobfknpgkdiicab
open Go.RowKit
set_option maxRecDepth 20000
set_option linter.unusedSimpArgs false

/-- Block g holds a key, a nonce and a number. -/
def AskAt (w : World) (g : Nat) (k n : List Int) (c : Int) : Prop := w.heap[g]? = some (.cells (askRow k n c) 28 (0, 0))
theorem AskAt.lt {w : World} {g : Nat} {k n : List Int} {c : Int} (h : AskAt w g k n c) : g < w.heap.size := (Array.getElem?_eq_some_iff.1 h).1
theorem AskAt.new (w : World) (k n : List Int) (c : Int) : AskAt (w.alloc (.cells (askRow k n c) 28)) w.heap.size k n c := heap_alloc_new w _
theorem AskAt.below {w w' : World} {B g : Nat} {k n : List Int} {c : Int} (h : AskAt w g k n c) (hb : Below B w w') (hg : g < B) : AskAt w' g k n c := by
  unfold AskAt at h ⊢; rw [hb.block g hg]; exact h
theorem AskAt.cell {w : World} {g : Nat} {k n : List Int} {c : Int} (h : AskAt w g k n c) (j : Nat) : w.cell? ⟨g, j, none⟩ = (askL k n c)[j]? := by
  rw [cell_of_row w g j _ _ _ h]; simp [askRow]
theorem AskAt.key {w : World} {g : Nat} {k n : List Int} {c : Int} (h : AskAt w g k n c) : w.rangeAt g 0 (k.map (Value.int .u8)) := fun j v hv => by
  rw [Nat.zero_add, h.cell j, ← hv]
  have hj := (List.getElem?_eq_some_iff.1 hv).1
  unfold askL
  rw [List.append_assoc, List.getElem?_append_left hj]
theorem AskAt.nonce {w : World} {g : Nat} {k n : List Int} {c : Int} (h : AskAt w g k n c) (hk : k.length = 32) : w.rangeAt g 32 (n.map (Value.int .u8)) := fun j v hv => by
  rw [h.cell (32 + j), ← hv]
  have hj := (List.getElem?_eq_some_iff.1 hv).1
  unfold askL
  rw [List.append_assoc, List.getElem?_append_right (by simp; omega), List.length_map, hk, Nat.add_sub_cancel_left, List.getElem?_append_left hj]
theorem AskAt.count {w : World} {g : Nat} {k n : List Int} {c : Int} (h : AskAt w g k n c) (hk : k.length = 32) (hn : n.length = 12) : w.cell? ⟨g, 44, none⟩ = some (.int .u32 c) := by
  rw [h.cell 44]
  unfold askL
  rw [List.getElem?_append_right (by simp; omega)]
  simp [hk, hn]
theorem sizeKeyM (k : List Int) (hk : k.length = 32) : (Try.prog.info? 23).map (·.size) = some (k.map (Value.int .u8)).length := by rw [List.length_map, hk]; exact sizeKey
theorem sizeNonceM (n : List Int) (hn : n.length = 12) : (Try.prog.info? 25).map (·.size) = some (n.map (Value.int .u8)).length := by rw [List.length_map, hn]; exact sizeNonce

end Go.Proofs.Ytobfknpgkdiicab
