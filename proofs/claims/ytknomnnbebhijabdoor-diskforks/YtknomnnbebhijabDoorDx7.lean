/- disk: what stays while a disk goes on. -/
import Derived.Test.YtknomnnbebhijabDoorDx6
import Derived.Test.YtknomnnbebhijabDoorDq
namespace Go.Proofs.YtknomnnbebhijabDoor
open Go.RowKit Go.Shelf
set_option maxRecDepth 20000
set_option linter.unusedSimpArgs false

/-- The blocks from A up to B are as they were. -/
def RangeK (A B : Nat) (w w' : World) : Prop := ∀ g, A ≤ g → g < B → w'.heap[g]? = w.heap[g]?
theorem RangeK.refl (A B : Nat) (w : World) : RangeK A B w w := fun _ _ _ => rfl
theorem RangeK.trans {A B : Nat} {a b c : World} (h : RangeK A B a b) (k : RangeK A B b c) : RangeK A B a c := fun g h1 h2 => (k g h1 h2).trans (h g h1 h2)
theorem RangeK.of_below {A B : Nat} {w w' : World} (h : Below w.heap.size w w') (hB : B ≤ w.heap.size) : RangeK A B w w' := fun g _ h2 => h.block g (by omega)
/-- The disk lies outside of them. -/
def DiskOut (A B D : Nat) (v : Value) : Prop := ∀ g, diskP D v g → g < A ∨ B ≤ g
theorem DiskAt.out {w : World} {base D : Nat} {v : Value} {z : List Int} {s : Nat} (h : DiskAt w base D v z s) (B : Nat) : DiskOut w.heap.size B D v := fun g hg => .inl (h.inside g hg).1
theorem DiskTo.out {w w' : World} {base D A B : Nat} {v v' : Value} {z' : List Int} {s' : Nat} (h : DiskTo w w' base D v v' z' s') (ho : DiskOut A B D v) (hB : B ≤ w.heap.size) : DiskOut A B D v' := by
  rintro g (rfl | hg)
  · exact ho g (.inl rfl)
  · rcases h.block with e | ⟨g', e, hg'⟩
    · exact ho g (.inr (e ▸ hg))
    · rw [e] at hg
      cases hg
      exact .inr (by omega)
theorem DiskTo.range {w w' : World} {base D A B : Nat} {v v' : Value} {z' : List Int} {s' : Nat} (h : DiskTo w w' base D v v' z' s') (ho : DiskOut A B D v) (hB : B ≤ w.heap.size) : RangeK A B w w' := fun g h1 h2 => h.turn.block g (by omega) (fun hp => by
  rcases ho g hp with h | h <;> omega)
theorem RowsAt.range {w w' : World} {A : Nat} {v : Value} {rs : List (List Int)} (h : RowsAt w A v rs) (hk : RangeK A w.heap.size w w') : RowsAt w' A v rs := h.keep fun g _ _ hg _ hc => hk g hg (Array.getElem?_eq_some_iff.1 hc).1
theorem recsL_in (z : List Int) (hz : isB z) : ∀ r ∈ recsL z, isB r := fun r hr => by
  unfold recsL at hr
  obtain ⟨k, _, rfl⟩ := List.mem_map.1 hr
  exact fun x hx => hz x (List.mem_of_mem_drop (List.mem_of_mem_take hx))
theorem recsL_few (z : List Int) (hz : z.length ≤ 65536) : (recsL z).length ≤ 1000000 := by
  have h1 := wholeN_few z
  rw [recsL_length]; omega
theorem OwnB.conv {w : World} {base : Nat} {v : Value} {z : List Int} (h : OwnB w base v z) : (convert 31 9 v).run Tryd.prog w = .ok (.string (strOfNums z)) w := by
  obtain ⟨xx, nn, cc, rfl, _⟩ := h.isSlice
  exact conv_bytes h.bytes.2
end Go.Proofs.YtknomnnbebhijabDoor
