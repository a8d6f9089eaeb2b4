/- 'live' of the statements on mac: what must be whatever is asked. -/
import Derived.Test.YtoebbfifebpnbaaDoorMac8
import Derived.Lib.SlBytesConst
namespace Go.Proofs.YtoebbfifebpnbaaDoor
open Go.RowKit
set_option maxRecDepth 100000
set_option linter.unusedSimpArgs false

theorem tag_nil0 : (tagL [] [])[0]?.getD 0 = 182 := by kernel_rfl
theorem tag_nil1 : (tagL [] [])[1]?.getD 0 = 19 := by kernel_rfl

/-- Bytes of a literal text: their row is marked behind its end. -/
theorem bytes_marked (w : World) (l : List Int) (fr : Nat × Nat) (hl : l.length ≤ 4000000) : Bytes (w.alloc (.cells (row .u8 l) 5 fr)) (some ⟨w.heap.size, 0, none⟩) l.length l.length l :=
  ⟨rfl, Nat.le_refl _, by omega, (fun h => by cases h), .inr ⟨w.heap.size, 0, rfl, fun j hj => by
    rw [Nat.zero_add, cell_of_row _ w.heap.size j _ _ _ (heap_alloc_new w _), row_get .u8 l j hj]⟩⟩

set_option maxHeartbeats 1000000 in
theorem live2_any (w : World) (hk : KTab w) :
    Calls Tryd.prog 7 #[] w fun e w' => e = .returned (.bool true) ∧ Below w.heap.size w w' := by
  have hH := fun wx hx => hmac_any none 0 0 [] none 0 0 [] wx (bytes_nil wx) (by omega) (bytes_nil wx) (by omega) hx
  have q0 := tag_nil0
  have q1 := tag_nil1
  have ql := tagL_length [] []
  have hE : ∀ (g : Nat) (wx : World), Bytes wx (some ⟨g, 0, none⟩) 1 1 [120] → KTab wx → Calls Tryd.prog 5 #[.agg #[.int .u8 1, .int .u8 0, .int .u8 0, .int .u8 0, .int .u8 0, .int .u8 0, .int .u8 0, .int .u8 0, .int .u8 0, .int .u8 0, .int .u8 0, .int .u8 0, .int .u8 0, .int .u8 0, .int .u8 0, .int .u8 0, .int .u8 0, .int .u8 0, .int .u8 0, .int .u8 0, .int .u8 0, .int .u8 0, .int .u8 0, .int .u8 0, .int .u8 0, .int .u8 0, .int .u8 0, .int .u8 0, .int .u8 0, .int .u8 0, .int .u8 0, .int .u8 0], .slice (some ⟨g, 0, none⟩) 1 1, .int .i64 40] wx fun e w' => ∃ x c, e = .returned (.tuple #[.slice x 40 c, .int .i64 0]) ∧ Below wx.heap.size wx w' := fun g wx h1 h2 =>
    (expand_any (1 :: List.replicate 31 0) (some ⟨g, 0, none⟩) 1 1 [120] 40 wx rfl h1 (by omega) (by omega) h2).mono fun e w' ⟨v, he, ho, hb⟩ => by
      obtain ⟨x, n, c, hv, hn⟩ := ho.isSlice
      rw [expL_length] at hn
      subst hn hv
      exact ⟨x, c, he, hb⟩
  have hQ : ∀ (g1 g2 : Nat) (wx : World), Holds wx g1 .u8 5 [1] → Holds wx g2 .u8 5 [1] → Calls Tryd.prog 9 #[.slice (some ⟨g1, 0, none⟩) 1 1, .slice (some ⟨g2, 0, none⟩) 1 1] wx fun e w' => e = .returned (.bool true) ∧ Below wx.heap.size wx w' := fun g1 g2 wx h1 h2 =>
    (equal_any (some ⟨g1, 0, none⟩) 1 1 [1] (some ⟨g2, 0, none⟩) 1 1 [1] wx (h1.bytes rfl (by simp)) (h2.bytes rfl (by simp)) (by simp) (by simp)).mono fun e w' ⟨he, n, hn⟩ => by
      subst hn
      exact ⟨he, below_drewN (Below.refl _ _) n⟩
  obtain ⟨D, hD⟩ : ∃ D, tagL [] [] = D := ⟨_, rfl⟩
  rw [hD] at q0 q1 ql hH
  clear hD
  go_enter Tryd.func7, Tryd.ntmps7
  go_upto_region 2 with (first
    | (go_at_call 6; refine (hH _ hk).mono ?_; rintro e w1 ⟨rfl, hb1⟩; have hN := Holds.new w1 .u8 23 (List.replicate 32 0))
    | (refine wpList_st rfl 23 _ _ rfl _ rfl rfl hN (by rw [ql]; exact sizeKey) (by simp [ql]) ?_))
  refine forget (p := fun y => Code.wp _ _ _ _ y) (fun W0 => Below w.heap.size w W0 ∧ Holds W0 w1.heap.size .u8 23 D) ⟨below_setRow (hb1.alloc hb1.size _) hb1.size _, hN.setRow _⟩ ?_
  rintro W0 ⟨hB, hH0⟩
  clear hN hb1 hH
  obtain ⟨tb, htb⟩ : ∃ q, w1.heap.size = q := ⟨_, rfl⟩
  rw [htb] at hH0 ⊢
  clear htb
  simp only [Act.put]
  have hb1 : Below W0.heap.size W0 (W0.alloc (.cells #[.int .u8 120] 5 (1, 2))) := (Below.refl _ _).alloc (Nat.le_refl _) _
  have kc := fun (w : World) (C : Array Value) (n c : Nat) => Lib.run_convert_bytes_const (P := Tryd.prog) w 24 5 C n c Tryd.underlying24 Tryd.underlying5
  have hE1 := hE W0.heap.size (W0.alloc (.cells #[.int .u8 120] 5 (1, 2))) (bytes_marked W0 [120] (1, 2) (by simp)) (hk.below (hB.trans (hb1.mono hB.size)))
  go_upto_region 3 with (go_at_call 5; refine hE1.mono ?_; rintro e w2 ⟨x2, c2, rfl, hb2⟩)
  have hH2 : Holds w2 tb .u8 23 D := (hH0.alloc _).below hb2 (hH0.alloc _).lt
  have hB2 : Below w.heap.size w w2 := (hB.trans (hb1.mono hB.size)).trans (hb2.mono (by have := hB.size; simp; omega))
  have c0 := hH2.cell 0 (by omega)
  have c1 := hH2.cell 1 (by omega)
  rw [q0] at c0
  rw [q1] at c1
  have n1 := (Holds.new w2 .u8 5 [1]).alloc (.cells #[.int .u8 1] 5)
  have n2 := Holds.new (w2.alloc (.cells #[.int .u8 1] 5)) .u8 5 [1]
  rw [World.size_alloc] at n2
  have hQ2 := hQ _ _ _ n1 n2
  clear hE hE1 kc hb1 hH0 hB hQ n1 n2 q0 q1 ql hb2 hH2
  go_wp2_with (go_at_call 9; refine hQ2.mono ?_; rintro e w3 ⟨rfl, hb3⟩)
  go_ret
  exact ⟨rfl, (((hB2.alloc hB2.size _).alloc (by have := hB2.size; simp; omega) _)).trans (hb3.mono (by have := hB2.size; simp; omega))⟩
end Go.Proofs.YtoebbfifebpnbaaDoor
