/- The writer of wire: truths, noughts, dots, events. -/
import Derived.Test.YtdfjfafhpjoilaaDoorWr1
import Derived.Test.YtdfjfafhpjoilaaDoorEv0
import Derived.Deep.MidRow
namespace Go.Proofs.YtdfjfafhpjoilaaDoor
open Go.RowKit
set_option maxRecDepth 20000
set_option linter.unusedSimpArgs false

theorem CellsAt.went {w w' : World} {g H base : Nat} {t : TypeId} {cs : List Value} (h : CellsAt w g t cs) (hg : Went w w' H base) (hne : g ≠ H) (ht : t ≠ 5) : CellsAt w' g t cs := hg.kept g _ t _ hne ht h
def truthB (b : Bool) : Int := if b then 1 else 0
set_option maxHeartbeats 1000000 in
theorem truth_any (H base : Nat) (L : List Int) (b : Bool) (w : World) (hW : Wr w H base L) (hln : L.length ≤ 3000000) :
    Calls Tryd.prog 39 #[.pointer (some ⟨H, 0, none⟩), .bool b] w fun e w' => (∃ r, e = .returned r) ∧ Wr w' H base (L ++ [truthB b]) ∧ Went w w' H base := by
  have hsz := hW.size
  cases b with
  | true =>
    have hp := put_any H base L (some ⟨w.heap.size, 0, none⟩) 1 1 [1] (w.alloc (.cells (row .u8 [1]) 5)) (hW.alloc _) (new_bytes w [1] (by simp)) (by omega)
    have hgo := Went.alloc (H := H) hsz (.cells (row .u8 [1]) 5)
    clear hW
    go_enter Tryd.func39, Tryd.ntmps39
    go_wp2_with (go_at_call 31; refine hp.mono ?_; rintro e w1 ⟨⟨r, rfl⟩, hW1, hg1⟩)
    go_end0
    exact ⟨⟨_, rfl⟩, hW1, hgo.trans hg1⟩
  | false =>
    have hp := put_any H base L (some ⟨w.heap.size, 0, none⟩) 1 1 [0] (w.alloc (.cells (row .u8 [0]) 5)) (hW.alloc _) (new_bytes w [0] (by simp)) (by omega)
    have hgo := Went.alloc (H := H) hsz (.cells (row .u8 [0]) 5)
    clear hW
    go_enter Tryd.func39, Tryd.ntmps39
    go_wp2_with (go_at_call 31; refine hp.mono ?_; rintro e w1 ⟨⟨r, rfl⟩, hW1, hg1⟩)
    go_end0
    exact ⟨⟨_, rfl⟩, hW1, hgo.trans hg1⟩
set_option maxHeartbeats 1000000 in
theorem wzeros_any (H base : Nat) (L : List Int) (n : Nat) (w : World) (hW : Wr w H base L) (hn : n ≤ 100000) (hln : L.length ≤ 3000000) :
    Calls Tryd.prog 40 #[.pointer (some ⟨H, 0, none⟩), .int .i64 n] w fun e w' => (∃ r, e = .returned r) ∧ Wr w' H base (L ++ List.replicate n 0) ∧ Went w w' H base := by
  have hsz := hW.size
  have hmk : ∀ wx : World, (Instr.makeSlice 22 (.int .i64 (n : Int)) (.int .i64 (n : Int))).run Tryd.prog wx = .ok (.slice (some ⟨wx.heap.size, 0, none⟩) n n) (wx.alloc (.cells (row .u8 (List.replicate n 0)) 5)) := fun wx => by
    have := run_make_row' (P := Tryd.prog) 22 5 (.int .u8 0) 1 Tryd.underlying22 infoU8 rfl .i64 .i64 n (by omega) (by omega) wx
    rw [made_row] at this
    exact this
  have hp := put_any H base L (some ⟨w.heap.size, 0, none⟩) n n (List.replicate n 0) (w.alloc (.cells (row .u8 (List.replicate n 0)) 5)) (hW.alloc _) (by
    have := new_bytes w (List.replicate n 0) (by simp; omega)
    rw [List.length_replicate] at this
    exact this) (by omega)
  have hgo := Went.alloc (H := H) hsz (.cells (row .u8 (List.replicate n 0)) 5)
  clear hW
  go_enter Tryd.func40, Tryd.ntmps40
  go_wp2_with (go_at_call 31; refine hp.mono ?_; rintro e w1 ⟨⟨r, rfl⟩, hW1, hg1⟩)
  go_end0
  exact ⟨⟨_, rfl⟩, hW1, hgo.trans hg1⟩
/-- A dot's cells and bytes. -/
def dotL (a s : Int) : List Int := a :: be4 s
set_option maxHeartbeats 1000000 in
theorem dot_any (H base : Nat) (L : List Int) (a s : Int) (w : World) (hW : Wr w H base L) (hln : L.length ≤ 2000000) :
    Calls Tryd.prog 38 #[.pointer (some ⟨H, 0, none⟩), .agg (dotC a s).toArray] w fun e w' => (∃ r, e = .returned r) ∧ Wr w' H base (L ++ dotL a s) ∧ Went w w' H base := by
  have hsz := hW.size
  have hlt : H < w.heap.size := by obtain ⟨v, h1, _⟩ := hW.has; exact h1.lt
  have hD0 := CellsAt.new w 25 (dotC a s)
  have hgo := Went.alloc (H := H) hsz (.cells (dotC a s).toArray 25)
  have hW0 := hW.alloc (.cells (dotC a s).toArray 25)
  clear hW
  go_enter Tryd.func38, Tryd.ntmps38
  go_upto_region 1 with fail
  refine forget (p := fun y => Code.wp _ _ _ _ y) (fun W0 => Went w W0 H base ∧ Wr W0 H base L ∧ CellsAt W0 w.heap.size 25 (dotC a s)) ⟨hgo, hW0, hD0⟩ ?_
  clear hgo hW0 hD0
  rintro W0 ⟨hg0, hW0, hD0⟩
  have hs0 := hW0.size
  have c0 : W0.cell? ⟨w.heap.size, 0, none⟩ = some (.int .u8 a) := hD0.cell 0
  have hp := put_any H base L (some ⟨W0.heap.size, 0, none⟩) 1 1 [a] (W0.alloc (.cells (row .u8 [a]) 5)) (hW0.alloc _) (new_bytes W0 [a] (by simp)) (by omega)
  have hgo := Went.alloc (H := H) hs0 (.cells (row .u8 [a]) 5)
  go_upto_region 2 with (go_at_call 31; refine hp.mono ?_; rintro e w1 ⟨⟨r, rfl⟩, hW1, hg1⟩)
  have hD1 := (hD0.went hgo (by omega) (by decide)).went hg1 (by omega) (by decide)
  have c1 : w1.cell? ⟨w.heap.size, 1, none⟩ = some (.int .u32 s) := hD1.cell 1
  have hf := four_any H base (L ++ [a]) s w1 hW1 (by rw [List.length_append]; simp; omega)
  have hg01 := hg0.trans (hgo.trans hg1)
  clear hp hD0 hD1 hW0 hW1 hgo hg1 hg0 c0
  go_wp2_with (go_at_call 37; refine hf.mono ?_; rintro e w2 ⟨⟨r2, rfl⟩, hW2, hg2⟩)
  go_end0
  refine ⟨⟨_, rfl⟩, ?_, hg01.trans hg2⟩
  rw [List.append_assoc] at hW2
  exact hW2
end Go.Proofs.YtdfjfafhpjoilaaDoor
