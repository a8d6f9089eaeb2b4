/- The statement MacBounds, walked. -/
import Derived.Test.YteolgonoodfniabDoorLive2
namespace Go.Proofs.YteolgonoodfniabDoor
open Go.RowKit
set_option maxRecDepth 20000
set_option linter.unusedSimpArgs false

set_option maxHeartbeats 2000000 in
theorem bounds_walk (k : List Int) (n : Int) (w : World) (hk : k.length = 32) (hKT : KTab w) :
    Calls Tryd.prog 3 #[.agg (row .u8 k), .int .i64 n] w fun e w' => e = .returned (.bool true) ∧ Below w.heap.size w w' := by
  have hN := Holds.new w .u8 23 k
  have hB0 : Below w.heap.size w (w.alloc (.cells (row .u8 k) 23)) := (Below.refl _ _).alloc (Nat.le_refl _) _
  by_cases h : 0 ≤ n ∧ n ≤ 8160
  · obtain ⟨h1, h2⟩ := h
    obtain ⟨m, hm⟩ := Int.eq_ofNat_of_zero_le (show 0 ≤ n % 65 by omega)
    have hX : ∀ wx, Below w.heap.size w wx → Calls Tryd.prog 4 #[.agg (row .u8 k), .slice none 0 0, .int .i64 m] wx fun e w' => ∃ xa ca, e = .returned (.tuple #[.slice xa m ca, .int .i64 0]) ∧ Below wx.heap.size wx w' := fun wx hb' =>
      (expand_any k none 0 0 [] m wx hk (bytes_nil wx) (by omega) (by omega) (hKT.below hb')).mono fun e w' ⟨v, he, ho, hbb⟩ => by
        obtain ⟨x, n', c, hv, hn'⟩ := ho.isSlice
        rw [expL_length] at hn'
        subst hn' hv
        exact ⟨x, c, he, hbb⟩
    go_enter Tryd.func3, Tryd.ntmps3
    go_upto_region 3 with (first
      | (refine wpList_ld rfl 23 _ rfl _ rfl hN Tryd.underlying23 sizeKey hk ?_)
      | (go_at_call 4; refine (hX _ hB0).mono ?_; rintro e w2 ⟨xa, ca, rfl, hb2⟩))
    have hB2 : Below w.heap.size w w2 := hB0.trans (hb2.mono hB0.size)
    go_wp2_with (go_at_call 5; refine (live2_any _ (hKT.below hB2)).mono ?_; rintro e w3 ⟨rfl, hb3⟩)
    go_ret
    exact ⟨rfl, hB2.trans (hb3.mono hB2.size)⟩
  · have hX := fun wx => expand_no k none 0 0 n wx (by omega)
    have hc : ¬ 0 ≤ n ∨ (0 ≤ n ∧ ¬ n ≤ 8160) := by omega
    clear h
    rcases hc with h | ⟨h, h'⟩
    all_goals
      go_enter Tryd.func3, Tryd.ntmps3
      go_upto_region 5 with (first
        | (refine wpList_ld rfl 23 _ rfl _ rfl hN Tryd.underlying23 sizeKey hk ?_)
        | (go_at_call 4; refine (hX _).mono ?_; rintro e w2 ⟨rfl, hb2⟩))
      have hB2 : Below w.heap.size w w2 := hB0.trans (hb2.mono hB0.size)
      go_wp2_with (go_at_call 5; refine (live2_any _ (hKT.below hB2)).mono ?_; rintro e w3 ⟨rfl, hb3⟩)
      go_ret
      exact ⟨rfl, hB2.trans (hb3.mono hB2.size)⟩
end Go.Proofs.YteolgonoodfniabDoor
