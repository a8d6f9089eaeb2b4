/- The table of buckets; 'Bucket'. -/
import Derived.Test.YtdfjfafhpjoilaaDoorWr2
namespace Go.Proofs.YtdfjfafhpjoilaaDoor
open Go.RowKit
set_option maxRecDepth 20000
set_option linter.unusedSimpArgs false

def bTab : List Int := [128, 256, 512, 1024, 2048, 4096]
/-- The table of buckets lies as its initialiser lays it. -/
def BTab (w : World) : Prop := w.rangeAt 0 0 (bTab.map (Value.int .i64))
theorem BTab.below {w w' : World} (h : BTab w) (hb : Below w.heap.size w w') : BTab w' := fun j v hv => by
  have := h j v hv
  rw [hb.cell (p := ⟨0, 0 + j, none⟩) (block_lt_of_cell this)]; exact this
def bktL (n : Int) : List Int → Int
  | [] => 0
  | b :: l => if n ≤ b - 2 then b else bktL n l
def bucketN (n : Int) : Int := if n < 0 then 0 else bktL n bTab
theorem bkt_step (n : Int) (j : Nat) (hj : j < 6) : bktL n (bTab.drop j) = if n ≤ bTab[j]?.getD 0 - 2 then bTab[j]?.getD 0 else bktL n (bTab.drop (j + 1)) := by
  have hj' : j < bTab.length := hj
  rw [List.drop_eq_getElem_cons hj', List.getElem?_eq_getElem hj']
  rfl
theorem bTab_in (j : Nat) (hj : j < 6) : 128 ≤ bTab[j]?.getD 0 ∧ bTab[j]?.getD 0 ≤ 4096 := by
  have hic : j = 0 ∨ j = 1 ∨ j = 2 ∨ j = 3 ∨ j = 4 ∨ j = 5 := by omega
  rcases hic with rfl | rfl | rfl | rfl | rfl | rfl <;> decide
theorem size6 : (Tryd.prog.info? 84).map (·.size) = some (bTab.map (Value.int .i64)).length := by kernel_rfl
set_option maxHeartbeats 2000000 in
theorem bucket_any (n : Int) (w : World) (hT : BTab w) :
    Calls Tryd.prog 18 #[.int .i64 n] w fun e w' => e = .returned (.int .i64 (bucketN n)) ∧ w = w' := by
  by_cases hn : n < 0
  · have e0 : bucketN n = 0 := by unfold bucketN; rw [if_pos hn]
    rw [e0]
    clear e0 hT
    go_enter Tryd.func18, Tryd.ntmps18
    go_wp2
    go_ret
    exact ⟨rfl, rfl⟩
  · have e0 : bucketN n = bktL n bTab := by unfold bucketN; rw [if_neg hn]
    rw [e0]
    clear e0
    obtain ⟨R, hR⟩ : ∃ q, bktL n bTab = q := ⟨_, rfl⟩
    have HR : Veil (bktL n (bTab.drop 0) = R) := ⟨hR⟩
    rw [hR]
    clear hR
    go_enter Tryd.func18, Tryd.ntmps18
    go_wp2_with (refine wpList_ldv rfl 84 _ rfl 0 0 rfl (bTab.map (Value.int .i64)) hT Tryd.underlying84 rfl size6 ?_)
    go_loopw [8] (fun q wr => ∃ j : Nat, j ≤ 6 ∧ q = .int .i64 j ∧ Veil (bktL n (bTab.drop j) = R) ∧ wr = w) (fun q _ => 6 - (intOf q).toNat)
    case atStart => exact ⟨0, by omega, rfl, HR, rfl⟩
    case round =>
      clear HR
      obtain ⟨j, hj, rfl, HJ, rfl⟩ := hrel
      by_cases hlt : j < 6
      · have hix : ∀ wx, (Instr.index 84 (.agg (bTab.map (Value.int .i64)).toArray) (.int .i64 (j : Nat))).run Tryd.prog wx = .ok (.int .i64 (bTab[j]?.getD 0)) wx := fun wx => run_index_row wx 84 3 6 .i64 bTab j Tryd.underlying84 Tryd.underlying3 (by kernel_rfl) rfl hlt
        have hst := bkt_step n j hlt
        have hin := bTab_in j hlt
        obtain ⟨B, hB⟩ : ∃ q, bTab[j]?.getD 0 = q := ⟨_, rfl⟩
        rw [hB] at hix hst hin
        have hwB : IntKind.i64.wrap (B - 2) = B - 2 := by rw [IntKind.wrap_i64]; omega
        have hj6 : (j : Int) < 6 := by omega
        by_cases hnb : n ≤ B - 2
        · rw [if_pos hnb] at hst
          have hBR : B = R := by rw [← hst]; exact HJ.out
          subst hBR
          clear hst hB HJ hin
          go_wp2
          go_ret
          exact ⟨rfl, rfl⟩
        · rw [if_neg hnb] at hst
          have HJ2 : Veil (bktL n (bTab.drop (j + 1)) = R) := ⟨by rw [← hst]; exact HJ.out⟩
          clear hst hB HJ
          go_wp2
          go_roundw
          case rel => exact ⟨j + 1, by omega, by go_num, HJ2, trivial⟩
          case measure => simp [intOf]; omega
      · obtain rfl : j = 6 := by omega
        have hR0 : R = 0 := by rw [← HJ.out]; rfl
        subst hR0
        rw [show ((6 : Nat) : Int) = 6 from rfl]
        clear HJ
        go_wp2
        go_ret
        exact ⟨rfl, rfl⟩
end Go.Proofs.YtdfjfafhpjoilaaDoor
