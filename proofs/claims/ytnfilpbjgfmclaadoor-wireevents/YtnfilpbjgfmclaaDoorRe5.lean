/- 'ReadEvent' of wire; what is read of what is written, and the other way. -/
import Derived.Test.YtnfilpbjgfmclaaDoorRe4
namespace Go.Proofs.YtnfilpbjgfmclaaDoor
open Go.RowKit
set_option maxRecDepth 20000
set_option linter.unusedSimpArgs false

/-- What 'ReadEvent' says. -/
noncomputable def revB (z : List Int) : Ev := open Classical in if evAll z then evOf z else evZ
noncomputable def revE (z : List Int) : Int := open Classical in if evAll z then 0 else 3
theorem revB_past (z : List Int) : (revB z).past.length = 8 := by
  unfold revB
  split
  · exact evOf_past z
  · rfl
set_option maxHeartbeats 4000000 in
theorem ReadEvent_any (x : Option Addr) (n c : Nat) (z : List Int) (w : World) (hb : Bytes w x n c z) (hz : ∀ v ∈ z, b8 v) :
    Calls Tryd.prog 4 #[.slice x n c] w fun e w' => e = .returned (.tuple #[.agg (revB z).cells.toArray, .int .i64 (revE z)]) ∧ Below w.heap.size w w' := by
  have hrd : Calls Tryd.prog 9 #[.slice x n c, .func (.func 10) #[] #[]] (w.alloc (.cells evZ.cells.toArray 30)) fun e w' => e = .returned (.tuple #[.agg (revB z).cells.toArray, .int .i64 (revE z)]) ∧ Below (w.heap.size + 1) (w.alloc (.cells evZ.cells.toArray 30)) w' := (readE_any x n c z _ (hb.below ((Below.refl _ _).alloc (Nat.le_refl _) _)) hz).mono fun e w' h => by
    rw [World.size_alloc] at h
    unfold revB revE
    rcases h with ⟨h0, h1, h2⟩ | ⟨h0, h1, h2⟩
    · rw [if_pos h0, if_pos h0]; exact ⟨h1, h2⟩
    · rw [if_neg h0, if_neg h0]; exact ⟨h1, h2⟩
  have hA0 := CellsAt.new w 30 evZ.cells
  have hP := revB_past z
  obtain ⟨E, hE⟩ : ∃ q, revE z = q := ⟨_, rfl⟩
  obtain ⟨U, hU⟩ : ∃ q, revB z = q := ⟨_, rfl⟩
  rw [hU] at hP
  rw [hE, hU] at hrd ⊢
  have hiU := sizeEvZ U hP
  have h1U := ev_one U
  have hlU : evZ.cells.length = U.cells.length := by rw [ev_len U hP]; rfl
  have HP : Veil (U.past.length = 8) := ⟨hP⟩
  have hB0 : Below w.heap.size w (w.alloc (.cells evZ.cells.toArray 30)) := (Below.refl _ _).alloc (Nat.le_refl _) _
  clear hb hz hE hU hP
  go_enter Tryd.func4, Tryd.ntmps4
  go_upto_region 1 with fail
  refine forget (p := fun y => Code.wp _ _ _ _ y) (fun W => CellsAt W w.heap.size 30 evZ.cells ∧ Below w.heap.size w W ∧ Calls Tryd.prog 9 #[.slice x n c, .func (.func 10) #[] #[]] W fun e w' => e = .returned (.tuple #[.agg U.cells.toArray, .int .i64 E]) ∧ Below (w.heap.size + 1) W w') ⟨hA0, hB0, hrd⟩ ?_
  clear hA0 hB0 hrd
  rintro W ⟨hA0, hB0, hrd⟩
  go_wp2_with (first
    | (go_at_call 9; refine hrd.mono ?_; rintro e w1 ⟨rfl, hb1⟩; have hA1 : CellsAt w1 w.heap.size 30 evZ.cells := (by unfold CellsAt at hA0 ⊢; rw [hb1.block _ (by omega)]; exact hA0))
    | (refine wpList_stv rfl 30 _ _ rfl _ rfl rfl hA1 hiU hlU h1U ?_))
  have hA2 := hA1.setRow U.cells
  refine bodyPost_ret (results_evt Tryd.results4 _ rfl rfl hA2 HP.out) rfl ⟨rfl, ?_⟩
  exact below_setRow (hB0.trans (hb1.mono (by omega))) (Nat.le_refl _) _
/-- Bytes of numbers, and back. -/
theorem at4_be4 (p : List Int) (n : Int) (r : List Int) (hn : 0 ≤ n ∧ n ≤ 4294967295) : at4 (p ++ be4 n ++ r) p.length = n := by
  have g : ∀ j, j < 4 → at1 (p ++ be4 n ++ r) (p.length + j) = (be4 n)[j]?.getD 0 := fun j hj => by
    unfold at1
    rw [List.append_assoc, List.getElem?_append_right (by omega), Nat.add_sub_cancel_left, List.getElem?_append_left (by rw [be4_length]; exact hj)]
  unfold at4
  have g0 := g 0 (by omega)
  rw [Nat.add_zero] at g0
  rw [g0, g 1 (by omega), g 2 (by omega), g 3 (by omega)]
  show val4 (n / 16777216 % 256) (n / 65536 % 256) (n / 256 % 256) (n % 256) = n
  unfold val4; omega
end Go.Proofs.YtnfilpbjgfmclaaDoor
