/- The reference's OneTime. -/
import Derived.Test.YtnblcdpahpcglaaAo1
import Derived.Test.YtnblcdpahpcglaaAn4
import Derived.Test.YtnblcdpahpcglaaCr
namespace Go.Proofs.Ytnblcdpahpcglaa
open Go.RowKit
set_option maxRecDepth 20000
set_option linter.unusedSimpArgs false

set_option maxHeartbeats 2000000 in
theorem refOnce_any (k n : List Int) (w : World) (hk : k.length = 32) (hn : n.length = 12) :
    Calls Try.prog 21 #[.agg (row .u8 k), .agg (row .u8 n)] w fun e w' => e = .returned (.agg (row .u8 (onceL k n))) ∧ Below w.heap.size w w' := by
  have hblk := fun wx => refBlock_any k n 0 wx hk hn
  have hBl := blockL_length k n 0
  have hOl := onceL_length k n
  have HO : Veil (onceL k n = (blockL k n 0).take 32) := ⟨rfl⟩
  obtain ⟨B, hB⟩ : ∃ q, blockL k n 0 = q := ⟨_, rfl⟩
  obtain ⟨O, hO⟩ : ∃ q, onceL k n = q := ⟨_, rfl⟩
  rw [hB] at hblk hBl HO
  rw [hO] at hOl HO ⊢
  have HF : Veil (∀ j, j < 32 → (B.take j ++ List.replicate (32 - j) 0).set j (B[j]?.getD 0) = B.take (j + 1) ++ List.replicate (32 - (j + 1)) 0) := ⟨fun j hj => fillB_set B j 32 hj (by omega)⟩
  have hK0 := ((Holds.new w .u8 23 k).alloc (.cells (row .u8 n) 32)).alloc (.cells (row .u8 (List.replicate 32 0)) 23)
  have hN0 := (Holds.new (w.alloc (.cells (row .u8 k) 23)) .u8 32 n).alloc (.cells (row .u8 (List.replicate 32 0)) 23)
  have hR0 := Holds.new ((w.alloc (.cells (row .u8 k) 23)).alloc (.cells (row .u8 n) 32)) .u8 23 (List.replicate 32 0)
  have hB0 : Below w.heap.size w (((w.alloc (.cells (row .u8 k) 23)).alloc (.cells (row .u8 n) 32)).alloc (.cells (row .u8 (List.replicate 32 0)) 23)) := (((Below.refl _ _).alloc (Nat.le_refl _) _).alloc (by simp) _).alloc (by simp; omega) _
  rw [World.size_alloc] at hN0 hR0
  rw [World.size_alloc] at hR0
  clear hB hO
  go_enter Try.func21, Try.ntmps21
  go_upto_region 1 with fail
  refine forget (p := fun y => Code.wp _ _ _ _ y) (fun W0 => Below w.heap.size w W0 ∧ Holds W0 w.heap.size .u8 23 k ∧ Holds W0 (w.heap.size + 1) .u8 32 n ∧ Holds W0 (w.heap.size + 1 + 1) .u8 23 (List.replicate 32 0)) ⟨hB0, hK0, hN0, hR0⟩ ?_
  clear hK0 hN0 hR0 hB0
  rintro W0 ⟨hB0, hK0, hN0, hR0⟩
  go_upto_region 2 with (first
    | (refine wpList_ld rfl 23 _ rfl _ rfl hK0 Try.underlying23 sizeK hk ?_)
    | (refine wpList_ld rfl 32 _ rfl _ rfl hN0 Try.underlying32 sizeN hn ?_)
    | (go_at_call 41; refine (hblk _).mono ?_; rintro e w1 ⟨rfl, hb1⟩; have hN1 := Holds.new w1 .u8 69 (List.replicate 64 0))
    | (refine wpList_st rfl 69 _ _ rfl _ rfl rfl hN1 (by rw [hBl]; exact sizeB64) (by simp [hBl]) ?_))
  have hB1 : Below w.heap.size w w1 := hB0.trans (hb1.mono hB0.size)
  have hR1 := hR0.below hb1 hR0.lt
  have hlt := hR1.lt
  have hG2 := hN1.setRow B
  have hR2 := (hR1.alloc (.cells (row .u8 (List.replicate 64 0)) 69)).setRowOther (g' := w1.heap.size) (row .u8 B) (by omega)
  have hB2 := below_setRow (g := w1.heap.size) (hB1.alloc hB1.size (.cells (row .u8 (List.replicate 64 0)) 69)) hB1.size (row .u8 B)
  refine forget (p := fun y => Code.wp _ _ _ _ y) (fun W2 => Below w.heap.size w W2 ∧ Holds W2 w1.heap.size .u8 69 B ∧ Holds W2 (w.heap.size + 1 + 1) .u8 23 (List.replicate 32 0)) ⟨hB2, hG2, hR2⟩ ?_
  obtain ⟨G, hG⟩ : ∃ q, w1.heap.size = q := ⟨_, rfl⟩
  rw [hG]
  clear hB1 hR1 hlt hG2 hR2 hB2 hN1 hb1 hB0 hK0 hN0 hR0 hG hblk
  rintro W2 ⟨hB2, hG2, hR2⟩
  have hA2 := Holds.new W2 .u8 23 (List.replicate 32 0)
  have hbA : Below W2.heap.size W2 (W2.alloc (.cells (row .u8 (List.replicate 32 0)) 23)) := (Below.refl _ _).alloc (Nat.le_refl _) _
  have hltR := hR2.lt
  have hltG := hG2.lt
  go_upto_region 3 with fail
  refine forget (p := fun y => Code.wp _ _ _ _ y) (fun W3 => Below w.heap.size w W3 ∧ Holds W3 G .u8 69 B ∧ Holds W3 (w.heap.size + 1 + 1) .u8 23 (List.replicate 32 0) ∧ Holds W3 W2.heap.size .u8 23 (List.replicate 32 0)) ⟨hB2.trans (hbA.mono hB2.size), hG2.alloc _, hR2.alloc _, hA2⟩ ?_
  have hsz2 := hB2.size
  obtain ⟨A0, hA0⟩ : ∃ q, W2.heap.size = q := ⟨_, rfl⟩
  rw [hA0] at hltR hltG hsz2 ⊢
  clear hA2 hbA hB2 hG2 hR2 hA0
  rintro W3 ⟨hB3, hG3, hR3, hA3⟩
  go_wp2_with fail
  go_loopw [7] (fun q wr => ∃ j : Nat, j ≤ 32 ∧ q = .int .i64 j ∧ Below w.heap.size w wr ∧ Holds wr G .u8 69 B ∧ Holds wr (w.heap.size + 1 + 1) .u8 23 (List.replicate 32 0) ∧ Holds wr A0 .u8 23 (B.take j ++ List.replicate (32 - j) 0)) (fun q _ => 32 - (intOf q).toNat)
  case atStart => exact ⟨0, by omega, rfl, hB3, hG3, hR3, hA3⟩
  case round =>
    clear hB3 hG3 hR3 hA3
    obtain ⟨j, hj, rfl, hB, hG, hR, hA⟩ := hrel
    by_cases hlt : j < 32
    · have hst := HF.out j hlt
      have hAl : (B.take j ++ List.replicate (32 - j) 0).length = 32 := by rw [List.length_append, List.length_take, List.length_replicate]; omega
      have cg := hG.cell j (by omega)
      obtain ⟨u, hu⟩ : ∃ q, B[j]?.getD 0 = q := ⟨_, rfl⟩
      rw [hu] at hst cg
      obtain ⟨Z, hZ⟩ : ∃ q, B.take j ++ List.replicate (32 - j) 0 = q := ⟨_, rfl⟩
      rw [hZ] at hst hA hAl
      have HST : Veil (Z.set j u = B.take (j + 1) ++ List.replicate (32 - (j + 1)) 0) := ⟨hst⟩
      have ca := hA.cell j (by omega)
      have fa := hA.frozen j
      have hj0 : (0 : Int) ≤ (j : Int) := by omega
      have hj32 : (j : Int) < 32 := by omega
      have hj64 : (j : Int) < 64 := by omega
      clear hst hZ hu
      go_wp2
      go_roundw
      case rel => exact ⟨j + 1, by omega, by go_num, hB.setCell (by show w.heap.size ≤ A0; omega) _, hG.setOther _ _ (by show G ≠ A0; omega), hR.setOther _ _ (by show w.heap.size + 1 + 1 ≠ A0; omega), by rw [← HST.out]; exact hA.set j _⟩
      case measure => simp [intOf]; omega
    · obtain rfl : j = 32 := by omega
      rw [Nat.sub_self, List.replicate_zero, List.append_nil, ← HO.out] at hA
      go_wp2_with (first
        | (refine wpList_ld rfl 23 _ rfl _ rfl hA Try.underlying23 sizeK hOl ?_)
        | (refine wpList_st rfl 23 _ _ rfl _ rfl rfl hR (by rw [hOl]; exact sizeK) (by simp [hOl]) ?_))
      refine bodyPost_ret (results_holds (Try.results21) _ rfl (hR.setRow _) Try.underlying23 sizeK hOl) rfl ⟨rfl, ?_⟩
      exact below_setRow hB (by omega) _
end Go.Proofs.Ytnblcdpahpcglaa
