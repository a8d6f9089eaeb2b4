/- Which events may be taken, and which was seen by which: 'Ready', 'Before' of causal and of its reference. (Written by mkcv7.py.) -/
import Derived.Test.YthodlbkgggaibaaCv5
import Derived.Test.YthodlbkgggaibaaCv6
import Derived.Test.YthodlbkgggaibaaGx
namespace Go.Proofs.Ythodlbkgggaibaa
open Go.RowKit
set_option maxRecDepth 20000
set_option linter.unusedSimpArgs false

/-- May the event be taken next, where v was seen? -/
def readyB (v : List Int) (e : Ev) : Bool := rightB e && ((v[e.da.toNat]?.getD 0 == e.ds - 1) && withinB e.past v)
set_option maxHeartbeats 2000000 in
theorem rbefore_any (e x : Ev) (w : World) (hp : e.past.length = 8) (hp2 : x.past.length = 8) (ha : 0 ≤ e.da) (hs : 0 ≤ e.ds) :
    Calls Try.prog 20 #[.agg e.cells.toArray, .agg x.cells.toArray] w fun r w' => r = .returned (.bool (hasB x.past e.da e.ds)) ∧ Below w.heap.size w w' := by
  have h0 := (CellsAt.new w 41 e.cells).alloc (.cells x.cells.toArray 41)
  have h1 := CellsAt.new (w.alloc (.cells e.cells.toArray 41)) 41 x.cells
  rw [World.size_alloc] at h1
  have hB0 : Below w.heap.size w ((w.alloc (.cells e.cells.toArray 41)).alloc (.cells x.cells.toArray 41)) := ((Below.refl _ _).alloc (Nat.le_refl _) _).alloc (by simp) _
  have HC : Veil (∀ W, Calls Try.prog 19 #[.agg (x.past.map (Value.int .u32)).toArray, .agg (dotC e.da e.ds).toArray] W fun r w' => r = .returned (.bool (hasB x.past e.da e.ds)) ∧ Below W.heap.size W w') := ⟨fun W => rhas_any x.past e.da e.ds W hp2 ha hs⟩
  have rD := h0.range 0 2
  rw [ev_dot e hp] at rD
  have rP := h1.range 2 8
  rw [(ev_parts x hp2).2.1] at rP
  have iP : (Try.prog.info? 25).map (·.size) = some (x.past.map (Value.int .u32)).length := by rw [List.length_map, hp2]; exact sizeV8c
  have iD : (Try.prog.info? 38).map (·.size) = some (dotC e.da e.ds).length := sizeDot6
  have uV := Try.underlying25
  have uD := Try.underlying38
  clear hp hp2 ha hs h0 h1
  generalize hasB x.past e.da e.ds = HB at HC ⊢
  generalize dotC e.da e.ds = DC at HC rD iD
  generalize x.past.map (Value.int .u32) = PV at HC rP iP
  generalize e.cells = EC at hB0 rD rP ⊢
  generalize x.cells = XC at hB0 rD rP ⊢
  go_enter Try.func20, Try.ntmps20
  go_upto_region 1 with fail
  refine forget (p := fun y => Code.wp _ _ _ _ y) (fun W => Below w.heap.size w W ∧ W.rangeAt w.heap.size 0 DC ∧ W.rangeAt (w.heap.size + 1) 2 PV) ⟨hB0, rD, rP⟩ ?_
  clear hB0 rD rP
  rintro W ⟨hB, rD, rP⟩
  have hc := HC.out W
  go_wp2_with (first
    | (refine wpList_ldv rfl 25 _ rfl (w.heap.size + 1) 2 rfl PV rP uV rfl iP ?_)
    | (refine wpList_ldv rfl 38 _ rfl w.heap.size 0 rfl DC rD uD rfl iD ?_)
    | (go_at_call 19; refine hc.mono ?_; rintro e w1 ⟨rfl, hb1⟩; clear hc))
  go_ret
  exact ⟨rfl, hB.trans (hb1.mono hB.size)⟩
end Go.Proofs.Ythodlbkgggaibaa

