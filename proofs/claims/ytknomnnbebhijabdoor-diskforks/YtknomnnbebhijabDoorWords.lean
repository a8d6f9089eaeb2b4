/- 'words': the sixteen words of a block of 64 bytes. -/
import Derived.Test.YtknomnnbebhijabDoorKit
namespace Go.Proofs.YtknomnnbebhijabDoor.S
open Go.RowKit

theorem words_any (b off cap : Nat) (z : List Int) (w : World) (hcap : 64 ≤ cap) (hcap2 : cap ≤ 9223372036854775807)
    (hcell : ∀ j, j < 64 → w.cell? ⟨b, off + j, none⟩ = some (.int .u8 (z[j]?.getD 0))) :
    Calls Tryd.prog 50 #[.slice (some ⟨b, off, none⟩) 64 cap] w fun e w' => e = .returned (.agg (row .u32 (wordsL z 16))) ∧ Below w.heap.size w w' := by
  have hb : b < w.heap.size := block_lt_of_cell (hcell 0 (by omega))
  go_enter Tryd.func50, Tryd.ntmps50
  go_wp2
  go_loopw [6] (fun i wr => ∃ k : Nat, k ≤ 16 ∧ i = .int .i64 k ∧ Below w.heap.size w wr ∧ w.heap.size + 2 ≤ wr.heap.size
      ∧ Holds wr w.heap.size .u32 78 (List.replicate 16 0)
      ∧ Holds wr (w.heap.size + 1) .u32 78 (wordsL z k ++ List.replicate (16 - k) 0))
    (fun i _ => 16 - (intOf i).toNat)
  case atStart =>
    have hn := Holds.new (w.alloc (.cells (row .u32 (List.replicate 16 0)) 78)) .u32 78 (List.replicate 16 0)
    rw [World.size_alloc] at hn
    exact ⟨0, by omega, rfl, ((Below.refl _ _).alloc (Nat.le_refl _) _).alloc (by simp) _, by simp, (Holds.new w .u32 78 (List.replicate 16 0)).alloc _, hn⟩
  case round =>
    obtain ⟨k, hk, rfl, hB, hsz, h0, h1⟩ := hrel
    by_cases hlt : k < 16
    · have c : ∀ j, j < 64 → wr.cell? ⟨b, off + j, none⟩ = some (.int .u8 (z[j]?.getD 0)) := fun j hj => (hB.cell (p := ⟨b, off + j, none⟩) hb).trans (hcell j hj)
      have c0 := c (4 * k) (by omega)
      have c1 := c (4 * k + 1) (by omega)
      have c2 := c (4 * k + 2) (by omega)
      have c3 := c (4 * k + 3) (by omega)
      have hw := word_any b (off + k * 4) 4 (z[4 * k]?.getD 0) (z[4 * k + 1]?.getD 0) (z[4 * k + 2]?.getD 0) (z[4 * k + 3]?.getD 0) wr (by rw [← c0]; congr 2; omega) (by rw [← c1]; congr 2; omega) (by rw [← c2]; congr 2; omega) (by rw [← c3]; congr 2; omega)
      have hcc := h1.cell k (by rw [List.length_append, wordsL_length, List.length_replicate]; omega)
      have hff := h1.frozen k
      clear c c0 c1 c2 c3 hcell
      go_wp2_with (go_at_call 54; refine hw.mono ?_; rintro e w' ⟨rfl, nd, rfl⟩)
      go_roundw
      case rel =>
        refine ⟨k + 1, by omega, by go_num, (below_drewN hB _).setCell (by simp) _, by simp; omega, (h0.drewN _).setOther _ _ (by simp), ?_⟩
        have := (h1.drewN nd).set k (wdAt z k)
        rw [show 16 - k = (16 - (k + 1)) + 1 by omega] at this
        have e := set_next (wordsL z k) (16 - (k + 1)) (wdAt z k)
        rw [wordsL_length] at e
        rw [e, ← wordsL_succ] at this
        exact this
      case measure => simp [intOf]; omega
    · obtain rfl : k = 16 := by omega
      have h1' : Holds wr (w.heap.size + 1) .u32 78 (wordsL z 16) := by simpa using h1
      clear h1
      go_wp2_with (first | (refine wpList_ld rfl 78 _ rfl _ rfl h1' Tryd.underlying78 size16 (wordsL_length _ _) ?_) | (refine wpList_st rfl 78 _ _ rfl _ rfl rfl h0 (by rw [wordsL_length]; exact size16) (by simp [wordsL_length]) ?_))
      refine bodyPost_ret (results_holds (Tryd.results50) _ rfl (h0.setRow _) Tryd.underlying78 size16 (wordsL_length _ _)) rfl ⟨rfl, ?_⟩
      exact below_setRow hB (Nat.le_refl _) _
end Go.Proofs.YtknomnnbebhijabDoor.S
