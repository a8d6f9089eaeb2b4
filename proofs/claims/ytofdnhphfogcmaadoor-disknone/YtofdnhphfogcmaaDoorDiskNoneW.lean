/- The statement DiskNone, walked. -/
import Derived.Test.YtofdnhphfogcmaaDoorDl
import Derived.Test.YtofdnhphfogcmaaDoorDa
namespace Go.Proofs.YtofdnhphfogcmaaDoor
open Go.RowKit Go.Shelf
set_option maxRecDepth 20000
set_option linter.unusedSimpArgs false

set_option maxHeartbeats 4000000 in
theorem diskNone_walk (d : Dd) (w : World) (hKT : S.KTab w) :
    Calls Tryd.prog 3 #[.agg d.cells.toArray] w fun e w' => e = .returned (.bool true) ∧ Below w.heap.size w w' := by
  have hB : Below w.heap.size w (w.alloc (.cells d.cells.toArray 24)) := (Below.refl _ _).alloc (Nat.le_refl _) _
  have hL := dLive_any (w.alloc (.cells d.cells.toArray 24)) (hKT.below hB)
  have hC := CellsD.new w 24 d.cells
  obtain ⟨kind, keep, x, len, cap, b⟩ := d
  simp only [Dd.cells] at hB hL hC ⊢
  go_enter Tryd.func3, Tryd.ntmps3
  go_wp2_with (first
    | (go_at_call 4; refine hL.mono ?_; rintro e w1 ⟨rfl, hb1⟩; have c1 : w1.cell? ⟨w.heap.size, 1, none⟩ = some (.int .i64 keep) := (hb1.cell (p := ⟨w.heap.size, 1, none⟩) hC.lt).trans (hC.cell 1); have c2 : w1.cell? ⟨w.heap.size, 2, none⟩ = some (.slice x len cap) := (hb1.cell (p := ⟨w.heap.size, 2, none⟩) hC.lt).trans (hC.cell 2))
    | (go_at_call 5; refine (nWrite _ _ _ _).mono ?_; rintro e w2 ⟨rfl, rfl⟩)
    | (go_at_call 6; refine (nSync _).mono ?_; rintro e w2 ⟨rfl, rfl⟩)
    | (go_at_call 7; refine (nPower _ _).mono ?_; rintro e w2 ⟨rfl, rfl⟩)
    | (go_at_call 8; refine (nTrim _).mono ?_; rintro e w2 ⟨rfl, rfl⟩)
    | (go_at_call 9; refine (nRecords _).mono ?_; rintro e w2 ⟨rfl, rfl⟩)
    | (go_at_call 10; refine (nBytes _).mono ?_; rintro e w2 ⟨rfl, rfl⟩)
    | (go_at_call 11; refine (nSynced _).mono ?_; rintro e w2 ⟨rfl, rfl⟩)
    | (go_at_call 12; refine (nFork _).mono ?_; rintro e w2 ⟨rfl, rfl⟩))
  go_ret
  exact ⟨rfl, hB.trans (hb1.mono hB.size)⟩
end Go.Proofs.YtofdnhphfogcmaaDoor
