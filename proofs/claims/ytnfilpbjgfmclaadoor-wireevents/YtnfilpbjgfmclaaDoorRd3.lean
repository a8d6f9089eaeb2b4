/- The readers of wire: noughts, bytes that are copied. -/
import Derived.Test.YtnfilpbjgfmclaaDoorRd2
namespace Go.Proofs.YtnfilpbjgfmclaaDoor
open Go.RowKit
set_option maxRecDepth 20000
set_option linter.unusedSimpArgs false

set_option maxHeartbeats 2000000 in
theorem rzeros_any (R base : Nat) (z : List Int) (n : Nat) (w : World) (hR : Rd w R base z) (hn : n ≤ 1000000) :
    Calls Tryd.prog 24 #[.pointer (some ⟨R, 0, none⟩), .int .i64 n] w fun e w' =>
      ((n ≤ z.length ∧ ∀ j, j < n → z[j]?.getD 0 = 0) ∧ (∃ r, e = .returned r) ∧ Rd w' R base (z.drop n) ∧ Took w w' R base) ∨ (¬ (n ≤ z.length ∧ ∀ j, j < n → z[j]?.getD 0 = 0) ∧ e = .panicked [wrongP] ∧ Took w w' R base) := by
  have ht := take_any R base z n w hR
  have hok := fun wx => need_ok wx
  have hbad := fun wx => need_bad wx
  clear hR
  go_enter Tryd.func24, Tryd.ntmps24
  go_upto_region 1 with (go_at_call 32; refine ht.mono ?_; rintro e w1 (⟨hk, x1, rfl, hy1, hR1, ht1⟩ | ⟨hk, rfl, ht1⟩))
  rotate_left
  · exact bodyPost_gone (.inr ⟨fun h => by omega, rfl, ht1⟩)
  have hb1 := hy1 w1 (Below.refl _ _)
  have hle := hb1.le
  clear ht hy1
  go_wp2_with fail
  go_loopw [12] (fun q wr => ∃ i : Nat, i ≤ n ∧ q = .int .i64 i ∧ Veil (∀ j, j < i → z[j]?.getD 0 = 0) ∧ w1 = wr) (fun q _ => n - (intOf q).toNat)
  case atStart => exact ⟨0, by omega, rfl, ⟨fun j hj => by omega⟩, rfl⟩
  case round =>
    obtain ⟨i, hi, rfl, HJ, rfl⟩ := hrel
    by_cases hlt : i < n
    · obtain ⟨b, off, rfl, hc⟩ := first_cells hb1 (by omega)
      have ci := hc i hlt
      clear hc
      by_cases h0 : z[i]?.getD 0 = 0
      · rw [h0] at ci
        have HJ2 : Veil (∀ j, j < i + 1 → z[j]?.getD 0 = 0) := ⟨fun j hj => by
          by_cases h : j = i
          · rw [h]; exact h0
          · exact HJ.out j (by omega)⟩
        have hi0 : (0 : Int) ≤ (i : Int) := by omega
        have hin : (i : Int) < (n : Int) := by omega
        clear h0 hbad HJ
        go_wp2_with (go_at_call 19; refine (hok _).mono ?_; rintro e w2 ⟨⟨r2, rfl⟩, rfl⟩)
        go_roundw
        case rel => exact ⟨i + 1, by omega, by go_num, HJ2, trivial⟩
        case measure => simp [intOf]; omega
      · obtain ⟨q, hq⟩ : ∃ q, z[i]?.getD 0 = q := ⟨_, rfl⟩
        have HQ : Veil (∃ j, j < n ∧ ¬ z[j]?.getD 0 = 0) := ⟨i, hlt, h0⟩
        rw [hq] at h0 ci
        have hi0 : (0 : Int) ≤ (i : Int) := by omega
        have hin : (i : Int) < (n : Int) := by omega
        have hqb : (q == 0) = false := by simp [h0]
        clear hq hok
        go_wp2_with (go_at_call 19; refine (hbad _).mono ?_; rintro e w2 ⟨rfl, rfl⟩)
        exact bodyPost_gone (.inr ⟨fun h => by obtain ⟨j, h1, h2⟩ := HQ.out; exact h2 (h.2 j h1), rfl, ht1⟩)
    · obtain rfl : i = n := by omega
      go_wp2
      go_end0
      exact .inl ⟨⟨hk, HJ.out⟩, ⟨_, rfl⟩, hR1, ht1⟩
theorem OwnB.took {w w' : World} {base R : Nat} {v u : Value} {z : List Int} (h : OwnB w base v z) (hb : Box w R 62 u) (ht : Took w w' R base) : OwnB w' base v z := by
  have hne := h.apartT hb (by decide)
  refine ⟨h.1, ?_⟩
  rcases h.2 with h' | ⟨g, cap, cur, h1, h2, h3, h4⟩
  · exact .inl h'
  · refine .inr ⟨g, cap, cur, h1, h2, ?_, h4⟩
    subst h1
    rw [ht.kept g (Array.getElem?_eq_some_iff.1 h3).1 (fun e => by
      rcases hne with h0 | h0
      · simp [Value.ownBlock] at h0
      · simp [Value.ownBlock] at h0; exact h0 e)]
    exact h3
end Go.Proofs.YtnfilpbjgfmclaaDoor
