/- Cg -/
import Derived.Test.YtlhajphjppjlgaaGreatDoorT16
namespace Go.Proofs.YtlhajphjppjlgaaGreatDoor
open Go.RowKit
set_option maxRecDepth 20000
theorem sizeState : (Tryz.prog.info? 205).map (·.size) = some 16 := by kernel_rfl
theorem sizeKey : (Tryz.prog.info? 23).map (·.size) = some 32 := by kernel_rfl
theorem sizeNonce : (Tryz.prog.info? 128).map (·.size) = some 12 := by kernel_rfl
def beginL (k n : List Int) (c : Int) : List Int := [1634760805, 857760878, 2036477234, 1797285236] ++ wlL k 8 ++ [c] ++ wlL n 3
theorem beginL_length (k n : List Int) (c : Int) : (beginL k n c).length = 16 := by simp [beginL, wlL_length]
def constL : List Int := [1634760805, 857760878, 2036477234, 1797285236, 0, 0, 0, 0, 0, 0, 0, 0, 0, 0, 0, 0]
theorem begin_eq (k n : List Int) (c : Int) : fillK ((fillK constL k 4 8).set 12 c) n 13 3 = beginL k n c := by
  have h : (wlL k 8).length = 8 := wlL_length k 8
  match hw : wlL k 8, h with
  | [a0, a1, a2, a3, a4, a5, a6, a7], _ => simp [fillK, hw, beginL, constL]
set_option maxHeartbeats 1000000 in
theorem begin_any (k n : List Int) (c : Int) (w : World) (hk : k.length = 32) (hn : n.length = 12) :
    Calls Tryz.prog 125 #[.agg (row .u8 k), .agg (row .u8 n), .int .u32 c] w fun e w' => e = .returned (.agg (row .u32 (beginL k n c))) ∧ Below w.heap.size w w' := by
  have hl := beginL_length k n c
  have hbe := begin_eq k n c
  obtain ⟨L, hL⟩ : ∃ L, beginL k n c = L := ⟨_, rfl⟩
  rw [hL] at hl hbe ⊢
  have HBE : Hid (fillK ((fillK constL k 4 8).set 12 c) n 13 3 = L) := hbe
  clear hL hbe
  go_enter Tryz.func125, Tryz.ntmps125
  go_upto_region 2 with fail
  refine forget (p := fun y => Code.wp _ _ _ _ y) (fun W0 => Below w.heap.size w W0 ∧ W0.heap.size = w.heap.size + 1 + 1 + 1 + 1 ∧ Holds W0 w.heap.size .u8 23 k ∧ Holds W0 (w.heap.size + 1) .u8 128 n ∧ Holds W0 (w.heap.size + 1 + 1) .u32 205 (List.replicate 16 0) ∧ Holds W0 (w.heap.size + 1 + 1 + 1) .u32 205 constL) ⟨?_, by simp, ?_, ?_, ?_, ?_⟩ ?_
  · exact ((((Below.refl _ _).alloc (Nat.le_refl _) _).alloc (by simp) _).alloc (by simp; omega) _).alloc (by simp; omega) _
  · exact (((Holds.new w .u8 23 k).alloc _).alloc _).alloc _
  · have := (Holds.new (w.alloc (.cells (row .u8 k) 23)) .u8 128 n)
    rw [World.size_alloc] at this
    exact (this.alloc _).alloc _
  · have := (Holds.new ((w.alloc (.cells (row .u8 k) 23)).alloc (.cells (row .u8 n) 128)) .u32 205 (List.replicate 16 0))
    rw [World.size_alloc, World.size_alloc] at this
    exact this.alloc _
  · have := (Holds.new (((w.alloc (.cells (row .u8 k) 23)).alloc (.cells (row .u8 n) 128)).alloc (.cells (row .u32 (List.replicate 16 0)) 205)) .u32 205 constL)
    rw [World.size_alloc, World.size_alloc, World.size_alloc] at this
    exact this
  rintro W0 ⟨hB, hsz, hK, hN, hR, hSt⟩
  have f1 : ∀ wx, wx = W0.drew → Calls Tryz.prog 138 #[.slice (some ⟨w.heap.size + 1 + 1 + 1, 4, none⟩) 8 12, .slice (some ⟨w.heap.size, 0, none⟩) 32 32] wx fun e w' => (∃ v, e = .returned v) ∧ Below (w.heap.size + 1 + 1 + 1) W0 w' ∧ w'.heap.size = W0.heap.size ∧ Holds w' (w.heap.size + 1 + 1 + 1) .u32 205 (fillK constL k 4 8) := fun wx hx => by
    subst hx
    refine (fill_any (w.heap.size + 1 + 1 + 1) 4 8 12 w.heap.size 32 32 k constL 205 W0.drew hSt.drew (by decide) (by omega) (by omega) (by omega) (by omega) (by omega) (by omega) (by omega) (fun j hj => hK.drew.cell j (by omega))).mono ?_
    rintro e w' ⟨h1, h2, h3, h4⟩
    exact ⟨h1, ((Below.refl _ _).drew).trans h2, h3.trans (by simp), h4⟩
  go_region_with (go_at_call 138; refine (f1 _ rfl).mono ?_; rintro e w1 ⟨⟨v1, rfl⟩, hb1, hs1, hSt1⟩)
  have hN1 := hN.below hb1 (by omega)
  have hR1 := hR.below hb1 (by omega)
  have hB1 : Below w.heap.size w w1 := hB.trans (hb1.mono (by omega))
  have c12 := hSt1.cell 12 (by rw [fillK_length _ _ _ _ (by decide)]; decide)
  have f12 := hSt1.frozen 12
  clear f1 hK hN hR hSt hb1
  go_upto_region 4 with fail
  refine forget (p := fun y => Code.wp _ _ _ _ y) (fun W2 => Below w.heap.size w W2 ∧ W2.heap.size = w.heap.size + 1 + 1 + 1 + 1 ∧ Holds W2 (w.heap.size + 1) .u8 128 n ∧ Holds W2 (w.heap.size + 1 + 1) .u32 205 (List.replicate 16 0) ∧ Holds W2 (w.heap.size + 1 + 1 + 1) .u32 205 ((fillK constL k 4 8).set 12 c)) ⟨hB1.setCell (by simp; omega) _, by simp; omega, hN1.setOther _ _ (by simp), hR1.setOther _ _ (by simp), hSt1.set 12 c⟩ ?_
  clear c12 f12 hB1 hN1 hR1 hSt1
  rintro W2 ⟨hB2, hs2, hN2, hR2, hSt2⟩
  have f2 : ∀ wx, wx = W2.drew → Calls Tryz.prog 138 #[.slice (some ⟨w.heap.size + 1 + 1 + 1, 13, none⟩) 3 3, .slice (some ⟨w.heap.size + 1, 0, none⟩) 12 12] wx fun e w' => (∃ v, e = .returned v) ∧ Below (w.heap.size + 1 + 1 + 1) W2 w' ∧ w'.heap.size = W2.heap.size ∧ Holds w' (w.heap.size + 1 + 1 + 1) .u32 205 L := fun wx hx => by
    subst hx
    refine (fill_any (w.heap.size + 1 + 1 + 1) 13 3 3 (w.heap.size + 1) 12 12 n ((fillK constL k 4 8).set 12 c) 205 W2.drew hSt2.drew (by rw [List.length_set, fillK_length _ _ _ _ (by decide)]; decide) (by omega) (by omega) (by omega) (by omega) (by omega) (by omega) (by omega) (fun j hj => hN2.drew.cell j (by omega))).mono ?_
    rintro e w' ⟨h1, h2, h3, h4⟩
    rw [HBE.out] at h4
    exact ⟨h1, ((Below.refl _ _).drew).trans h2, h3.trans (by simp), h4⟩
  go_region_with (go_at_call 138; refine (f2 _ rfl).mono ?_; rintro e w3 ⟨⟨v3, rfl⟩, hb3, hs3, hSt3⟩)
  have hR3 := hR2.below hb3 (by omega)
  have hB3 : Below w.heap.size w w3 := hB2.trans (hb3.mono (by omega))
  clear f2 hb3 hN2 hR2 hSt2
  go_wp2_with (first | (refine wpList_ld rfl 205 _ rfl _ rfl hSt3 Tryz.underlying205 sizeState hl ?_) | (refine wpList_st rfl 205 _ _ rfl _ rfl rfl hR3 (by rw [hl]; exact sizeState) (by simp [hl]) ?_))
  refine bodyPost_ret (results_holds (Tryz.results125) _ rfl (hR3.setRow _) Tryz.underlying205 sizeState hl) rfl ⟨rfl, ?_⟩
  exact below_setRow hB3 (by omega) _
end Go.Proofs.YtlhajphjppjlgaaGreatDoor
