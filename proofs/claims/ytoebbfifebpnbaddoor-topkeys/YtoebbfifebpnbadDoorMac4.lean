/- A key that fills a block. -/
import Derived.Test.YtoebbfifebpnbadDoorMac3
namespace Go.Proofs.YtoebbfifebpnbadDoor
open Go.RowKit
set_option maxRecDepth 20000
set_option linter.unusedSimpArgs false

/-- A fact that no tactic looks into till it is opened (a structure: nothing unfolds it). -/
structure VeilM (p : Prop) : Prop where
  out : p

set_option maxHeartbeats 1000000 in
theorem fill_any (x : Option Addr) (len cap : Nat) (z : List Int) (w : World) (hb : Bytes w x len cap z) (hln : len ≤ 1000000) (hk : KTab w) :
    Calls Tryd.prog 9 #[.slice x len cap] w fun e w' => e = .returned (.agg (row .u8 (fillL z))) ∧ Below w.heap.size w w' := by
  have hz := hb.len_eq
  have hfl := fillL_length z
  by_cases h64 : 64 < len
  · have hs : ∀ wx, Below w.heap.size w wx → Calls Tryd.prog 13 #[.slice x len cap] wx fun e w' => e = .returned (.agg (row .u8 (sumL z))) ∧ Below wx.heap.size wx w' := fun wx hx => sum_any x len cap z wx (hb.below hx) hln (hk.below hx)
    have hdl := sumL_length z
    have hff : fillL z = sumL z ++ List.replicate (64 - (sumL z).length) 0 := by unfold fillL; rw [if_pos (by omega)]
    obtain ⟨D, hD⟩ : ∃ D, sumL z = D := ⟨_, rfl⟩
    obtain ⟨FL, hFL⟩ : ∃ D, fillL z = D := ⟨_, rfl⟩
    rw [hD] at hs hdl hff
    rw [hFL] at hff hfl
    have HF : VeilM (FL = D ++ List.replicate (64 - D.length) 0) := ⟨hff⟩
    have HFL : VeilM (fillL z = FL) := ⟨hFL⟩
    clear hff hFL hD hz
    have h64i : (64 : Int) < (len : Int) := by omega
    go_enter Tryd.func9, Tryd.ntmps9
    go_upto_region 1 with fail
    refine forget (p := fun y => Code.wp _ _ _ _ y) (fun W0 => Below w.heap.size w W0 ∧ W0.heap.size = w.heap.size + 1 ∧ Holds W0 w.heap.size .u8 35 (List.replicate 64 0)) ⟨(Below.refl _ _).alloc (Nat.le_refl _) _, by simp, Holds.new w .u8 35 (List.replicate 64 0)⟩ ?_
    rintro W0 ⟨hB0, hs0, hR0⟩
    go_upto_region 4 with (first
      | (go_at_call 13; refine (hs _ hB0).mono ?_; rintro e w1 ⟨rfl, hb1⟩; have hN1 := Holds.new w1 .u8 23 (List.replicate 32 0))
      | (refine wpList_st rfl 23 _ _ rfl _ rfl rfl hN1 (by rw [hdl]; exact sizeKey) (by simp [hdl]) ?_))
    have hsz1 := hb1.size
    refine forget (p := fun y => Code.wp _ _ _ _ y) (fun W1 => Below w.heap.size w W1 ∧ w.heap.size + 1 ≤ W1.heap.size ∧ Holds W1 w.heap.size .u8 35 (List.replicate 64 0) ∧ Bytes W1 (some ⟨w1.heap.size, 0, none⟩) 32 32 D) ⟨below_setRow ((hB0.trans (hb1.mono hB0.size)).alloc (by omega) _) (by omega) _, by simp; omega, ((hR0.below hb1 (by omega)).alloc _).setRowOther _ (by omega), (hN1.setRow D).bytes hdl.symm (by omega)⟩ ?_
    clear hN1 hB0 hs0 hR0 hb1 hs hk hb
    rintro W1 ⟨hB1, hs1, hR1, hY1⟩
    have hK0 := Holds.new W1 .u8 35 (List.replicate 64 0)
    go_upto_region 5 with fail
    refine forget (p := fun y => Code.wp _ _ _ _ y) (fun W3 => Below w.heap.size w W3 ∧ Holds W3 w.heap.size .u8 35 (List.replicate 64 0) ∧ Holds W3 W1.heap.size .u8 35 (List.replicate 64 0) ∧ Bytes W3 (some ⟨w1.heap.size, 0, none⟩) 32 32 D) ⟨hB1.alloc hB1.size _, hR1.alloc _, hK0, hY1.below ((Below.refl _ _).alloc (Nat.le_refl _) _)⟩ ?_
    have hgK := hB1.size
    clear hB1 hR1 hK0 hY1
    rintro W3 ⟨hB1, hR1, hK0, hY1⟩
    have hcp := run_copy_bytes W3 W1.heap.size 64 (some ⟨w1.heap.size, 0, none⟩) 32 32 D hY1 hK0 (by omega)
    rw [← HF.out] at hcp
    go_upto_region 6 with fail
    refine forget (p := fun y => Code.wp _ _ _ _ y) (fun W2 => Below w.heap.size w W2 ∧ Holds W2 w.heap.size .u8 35 (List.replicate 64 0) ∧ Holds W2 W1.heap.size .u8 35 FL) ⟨below_setRow hB1 hgK _, hR1.setRowOther _ (by omega), hK0.setRow _⟩ ?_
    clear hcp hK0 hB1 hR1 hY1
    rintro W2 ⟨hB2, hR2, hK2⟩
    go_wp2_with (first
      | (refine wpList_ld rfl 35 _ rfl _ rfl hK2 Tryd.underlying35 sizeFk hfl ?_)
      | (refine wpList_st rfl 35 _ _ rfl _ rfl rfl hR2 (by rw [hfl]; exact sizeFk) (by simp [hfl]) ?_))
    refine bodyPost_ret (results_holds (Tryd.results9) _ rfl (hR2.setRow _) Tryd.underlying35 sizeFk hfl) rfl ⟨by rw [HFL.out], ?_⟩
    exact below_setRow hB2 (Nat.le_refl _) _
  · have hff : fillL z = z ++ List.replicate (64 - z.length) 0 := by unfold fillL; rw [if_neg (by omega)]
    obtain ⟨FL, hFL⟩ : ∃ D, fillL z = D := ⟨_, rfl⟩
    rw [hFL] at hff hfl
    have HF : VeilM (FL = z ++ List.replicate (64 - z.length) 0) := ⟨hff⟩
    have HFL : VeilM (fillL z = FL) := ⟨hFL⟩
    clear hff hFL hz hk
    have h64i : ¬ ((64 : Int) < (len : Int)) := by omega
    have hl64 : len ≤ 64 := by omega
    go_enter Tryd.func9, Tryd.ntmps9
    go_upto_region 4 with fail
    refine forget (p := fun y => Code.wp _ _ _ _ y) (fun W1 => Below w.heap.size w W1 ∧ w.heap.size + 1 ≤ W1.heap.size ∧ Holds W1 w.heap.size .u8 35 (List.replicate 64 0) ∧ Bytes W1 x len cap z) ⟨(Below.refl _ _).alloc (Nat.le_refl _) _, by simp, Holds.new w .u8 35 (List.replicate 64 0), hb.below ((Below.refl _ _).alloc (Nat.le_refl _) _)⟩ ?_
    clear hb
    rintro W1 ⟨hB1, hs1, hR1, hY1⟩
    have hK0 := Holds.new W1 .u8 35 (List.replicate 64 0)
    go_upto_region 5 with fail
    refine forget (p := fun y => Code.wp _ _ _ _ y) (fun W3 => Below w.heap.size w W3 ∧ Holds W3 w.heap.size .u8 35 (List.replicate 64 0) ∧ Holds W3 W1.heap.size .u8 35 (List.replicate 64 0) ∧ Bytes W3 x len cap z) ⟨hB1.alloc hB1.size _, hR1.alloc _, hK0, hY1.below ((Below.refl _ _).alloc (Nat.le_refl _) _)⟩ ?_
    have hgK := hB1.size
    clear hB1 hR1 hK0 hY1
    rintro W3 ⟨hB1, hR1, hK0, hY1⟩
    have hcp := run_copy_bytes W3 W1.heap.size 64 x len cap z hY1 hK0 hl64
    rw [← HF.out] at hcp
    go_upto_region 6 with fail
    refine forget (p := fun y => Code.wp _ _ _ _ y) (fun W2 => Below w.heap.size w W2 ∧ Holds W2 w.heap.size .u8 35 (List.replicate 64 0) ∧ Holds W2 W1.heap.size .u8 35 FL) ⟨below_setRow hB1 hgK _, hR1.setRowOther _ (by omega), hK0.setRow _⟩ ?_
    clear hcp hK0 hB1 hR1 hY1
    rintro W2 ⟨hB2, hR2, hK2⟩
    go_wp2_with (first
      | (refine wpList_ld rfl 35 _ rfl _ rfl hK2 Tryd.underlying35 sizeFk hfl ?_)
      | (refine wpList_st rfl 35 _ _ rfl _ rfl rfl hR2 (by rw [hfl]; exact sizeFk) (by simp [hfl]) ?_))
    refine bodyPost_ret (results_holds (Tryd.results9) _ rfl (hR2.setRow _) Tryd.underlying35 sizeFk hfl) rfl ⟨by rw [HFL.out], ?_⟩
    exact below_setRow hB2 (Nat.le_refl _) _
end Go.Proofs.YtoebbfifebpnbadDoor
