/- The readers of wire: noughts, bytes that are copied. -/
import Derived.Test.YtdfjfafhpjoilaaDoorRd2
namespace Go.Proofs.YtdfjfafhpjoilaaDoor
open Go.RowKit
set_option maxRecDepth 20000
set_option linter.unusedSimpArgs false

theorem OwnB.took {w w' : World} {base R : Nat} {v u : Value} {z : List Int} (h : OwnB w base v z) (hb : Box w R 71 u) (ht : Took w w' R base) : OwnB w' base v z := by
  have hne := h.apartT hb (by decide)
  refine ⟨h.1, ?_⟩
  rcases h.2 with h' | ⟨g, cap, cur, h1, h2, h3, h4⟩
  · exact .inl h'
  · refine .inr ⟨g, cap, cur, h1, h2, ?_, h4⟩
    subst h1
    rw [ht.kept g (Array.getElem?_eq_some_iff.1 h3).1 (fun e => by
      rcases hne with h0 | h0
      · simp [Value.ownBlock] at h0
      · simp [Value.ownBlock] at h0; exact h0 e)]
    exact h3
set_option maxHeartbeats 2000000 in
theorem clone_any (x : Option Addr) (n c : Nat) (z : List Int) (w : World) (hb : Bytes w x n c z) (hn : n ≤ 1000000) :
    Calls Tryd.prog 36 #[.slice x n c] w fun e w' => ∃ v, e = .returned v ∧ OwnB w' w.heap.size v z ∧ Below w.heap.size w w' := by
  cases x with
  | none =>
    have hc := hb.nil rfl
    have hle := hb.le
    have hz := hb.len_eq
    obtain rfl : c = 0 := hc
    obtain rfl : n = 0 := by omega
    have hz' : z = [] := List.length_eq_zero_iff.1 hz.symm
    subst hz'
    have hnil : ∀ wx : World, (binOp BinOp.eql 22 (.slice none 0 0) (.slice none 0 0)).run Tryd.prog wx = .ok (.bool true) wx := fun _ => by kernel_rfl
    clear hb hz hle hn
    go_enter Tryd.func36, Tryd.ntmps36
    go_wp2
    go_ret
    exact ⟨_, rfl, OwnB.nil _ _, Below.refl _ _⟩
  | some a =>
    have hE0 : OwnB (w.alloc (.cells #[] 5)) w.heap.size (.slice (some ⟨w.heap.size, 0, none⟩) 0 0) [] := OwnB.ofHolds (Holds.new w .u8 5 []) (Nat.le_refl _) (by simp)
    have hy : Bytes (w.alloc (.cells #[] 5)) (some a) n c z := hb.below ((Below.refl _ _).alloc (Nat.le_refl _) _)
    have hnil : ∀ wx : World, (binOp BinOp.eql 22 (.slice (some a) n c) (.slice none 0 0)).run Tryd.prog wx = .ok (.bool false) wx := fun _ => by kernel_rfl
    clear hb
    go_enter Tryd.func36, Tryd.ntmps36
    go_wp2_with (at_builtin; refine wpList_app rfl _ _ rfl w.heap.size _ [] rfl hE0 (some a) n c z rfl hy (by simp; omega) (by simp) ?_; intro v1 w1 ho1 hg1)
    go_ret
    rw [List.nil_append] at ho1
    exact ⟨_, rfl, ho1, below_grown ((Below.refl _ _).alloc (Nat.le_refl _) _) hE0 hg1 (by simp)⟩
end Go.Proofs.YtdfjfafhpjoilaaDoor
