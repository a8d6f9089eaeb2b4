/- The readers of wire: noughts, bytes that are copied. -/
import Derived.Test.YtfniachmebppcaaDoorRd2
namespace Go.Proofs.YtfniachmebppcaaDoor
open Go.RowKit
set_option maxRecDepth 20000
set_option linter.unusedSimpArgs false

set_option maxHeartbeats 2000000 in
theorem rzeros_any (R base : Nat) (z : List Int) (n : Nat) (w : World) (hR : Rd w R base z) (hn : n ≤ 1000000) :
    Calls Tryd.prog 55 #[.pointer (some ⟨R, 0, none⟩), .int .i64 n] w fun e w' =>
      ((n ≤ z.length ∧ ∀ j, j < n → z[j]?.getD 0 = 0) ∧ (∃ r, e = .returned r) ∧ Rd w' R base (z.drop n) ∧ Took w w' R base) ∨ (¬ (n ≤ z.length ∧ ∀ j, j < n → z[j]?.getD 0 = 0) ∧ e = .panicked [wrongP] ∧ Took w w' R base) := by
  have ht := take_any R base z n w hR
  have hok := fun wx => need_ok wx
  have hbad := fun wx => need_bad wx
  clear hR
  go_enter Tryd.func55, Tryd.ntmps55
  go_upto_region 1 with (go_at_call 54; refine ht.mono ?_; rintro e w1 (⟨hk, x1, rfl, hy1, hR1, ht1⟩ | ⟨hk, rfl, ht1⟩))
  rotate_left
  · exact bodyPost_gone (.inr ⟨fun h => by omega, rfl, ht1⟩)
  have hb1 := hy1 w1 (Below.refl _ _)
  have hle := hb1.le
  clear ht hy1
  go_wp2_with fail
  go_loopw [12] (fun q wr => ∃ i : Nat, i ≤ n ∧ q = .int .i64 i ∧ Veil (∀ j, j < i → z[j]?.getD 0 = 0) ∧ w1 = wr) (fun q _ => n - (intOf q).toNat)
  case atStart => exact ⟨0, by omega, rfl, ⟨fun j hj => by omega⟩, rfl⟩
  case round =>
    obtain ⟨i, hi, rfl, HJ, rfl⟩ := hrel
    by_cases hlt : i < n
    · obtain ⟨b, off, rfl, hc⟩ := first_cells hb1 (by omega)
      have ci := hc i hlt
      clear hc
      by_cases h0 : z[i]?.getD 0 = 0
      · rw [h0] at ci
        have HJ2 : Veil (∀ j, j < i + 1 → z[j]?.getD 0 = 0) := ⟨fun j hj => by
          by_cases h : j = i
          · rw [h]; exact h0
          · exact HJ.out j (by omega)⟩
        have hi0 : (0 : Int) ≤ (i : Int) := by omega
        have hin : (i : Int) < (n : Int) := by omega
        clear h0 hbad HJ
        go_wp2_with (go_at_call 47; refine (hok _).mono ?_; rintro e w2 ⟨⟨r2, rfl⟩, rfl⟩)
        go_roundw
        case rel => exact ⟨i + 1, by omega, by go_num, HJ2, trivial⟩
        case measure => simp [intOf]; omega
      · obtain ⟨q, hq⟩ : ∃ q, z[i]?.getD 0 = q := ⟨_, rfl⟩
        have HQ : Veil (∃ j, j < n ∧ ¬ z[j]?.getD 0 = 0) := ⟨i, hlt, h0⟩
        rw [hq] at h0 ci
        have hi0 : (0 : Int) ≤ (i : Int) := by omega
        have hin : (i : Int) < (n : Int) := by omega
        have hqb : (q == 0) = false := by simp [h0]
        clear hq hok
        go_wp2_with (go_at_call 47; refine (hbad _).mono ?_; rintro e w2 ⟨rfl, rfl⟩)
        exact bodyPost_gone (.inr ⟨fun h => by obtain ⟨j, h1, h2⟩ := HQ.out; exact h2 (h.2 j h1), rfl, ht1⟩)
    · obtain rfl : i = n := by omega
      go_wp2
      go_end0
      exact .inl ⟨⟨hk, HJ.out⟩, ⟨_, rfl⟩, hR1, ht1⟩
theorem OwnB.took {w w' : World} {base R : Nat} {v u : Value} {z : List Int} (h : OwnB w base v z) (hb : Box w R 94 u) (ht : Took w w' R base) : OwnB w' base v z := by
  have hne := h.apartT hb (by decide)
  refine ⟨h.1, ?_⟩
  rcases h.2 with h' | ⟨g, cap, cur, h1, h2, h3, h4⟩
  · exact .inl h'
  · refine .inr ⟨g, cap, cur, h1, h2, ?_, h4⟩
    subst h1
    rw [ht.kept g (Array.getElem?_eq_some_iff.1 h3).1 (fun e => by
      rcases hne with h0 | h0
      · simp [Value.ownBlock] at h0
      · simp [Value.ownBlock] at h0; exact h0 e)]
    exact h3
set_option maxHeartbeats 2000000 in
theorem clone_any (x : Option Addr) (n c : Nat) (z : List Int) (w : World) (hb : Bytes w x n c z) (hn : n ≤ 1000000) :
    Calls Tryd.prog 53 #[.slice x n c] w fun e w' => ∃ v, e = .returned v ∧ OwnB w' w.heap.size v z ∧ Below w.heap.size w w' := by
  cases x with
  | none =>
    have hc := hb.nil rfl
    have hle := hb.le
    have hz := hb.len_eq
    obtain rfl : c = 0 := hc
    obtain rfl : n = 0 := by omega
    have hz' : z = [] := List.length_eq_zero_iff.1 hz.symm
    subst hz'
    have hnil : ∀ wx : World, (binOp BinOp.eql 28 (.slice none 0 0) (.slice none 0 0)).run Tryd.prog wx = .ok (.bool true) wx := fun _ => by kernel_rfl
    clear hb hz hle hn
    go_enter Tryd.func53, Tryd.ntmps53
    go_wp2
    go_ret
    exact ⟨_, rfl, OwnB.nil _ _, Below.refl _ _⟩
  | some a =>
    have hE0 : OwnB (w.alloc (.cells #[] 5)) w.heap.size (.slice (some ⟨w.heap.size, 0, none⟩) 0 0) [] := OwnB.ofHolds (Holds.new w .u8 5 []) (Nat.le_refl _) (by simp)
    have hy : Bytes (w.alloc (.cells #[] 5)) (some a) n c z := hb.below ((Below.refl _ _).alloc (Nat.le_refl _) _)
    have hnil : ∀ wx : World, (binOp BinOp.eql 28 (.slice (some a) n c) (.slice none 0 0)).run Tryd.prog wx = .ok (.bool false) wx := fun _ => by kernel_rfl
    clear hb
    go_enter Tryd.func53, Tryd.ntmps53
    go_wp2_with (at_builtin; refine wpList_app rfl _ _ rfl w.heap.size _ [] rfl hE0 (some a) n c z rfl hy (by simp; omega) (by simp) ?_; intro v1 w1 ho1 hg1)
    go_ret
    rw [List.nil_append] at ho1
    exact ⟨_, rfl, ho1, below_grown ((Below.refl _ _).alloc (Nat.le_refl _) _) hE0 hg1 (by simp)⟩
end Go.Proofs.YtfniachmebppcaaDoor
