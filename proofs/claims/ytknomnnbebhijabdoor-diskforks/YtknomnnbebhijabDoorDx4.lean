/- disk: rows of bytes compared ('SameRows'). -/
import Derived.Test.YtknomnnbebhijabDoorDx3
namespace Go.Proofs.YtknomnnbebhijabDoor
open Go.RowKit Go.Shelf
set_option maxRecDepth 20000
set_option linter.unusedSimpArgs false

theorem same_take {α : Type} [BEq α] [LawfulBEq α] (a b : List α) (k : Nat) (hk : k < a.length) (hl : a.length = b.length) (h : a.take k = b.take k) (he : a[k] = b[k]'(by omega)) : a.take (k + 1) = b.take (k + 1) := by
  rw [List.take_succ_eq_append_getElem hk, List.take_succ_eq_append_getElem (by omega : k < b.length), h, he]
set_option maxHeartbeats 4000000 in
theorem sameRows_any (x : Option Addr) (n c : Nat) (rs : List (List Int)) (y : Option Addr) (m d : Nat) (qs : List (List Int)) (w : World) (hx : RowsV w x n c rs) (hy : RowsV w y m d qs) (hr : ∀ r ∈ rs, isB r) (hq : ∀ r ∈ qs, isB r) (hn : n ≤ 1000000) :
    Calls Tryd.prog 27 #[.slice x n c, .slice y m d] w fun e w' => e = .returned (.bool (rs == qs)) ∧ Below w.heap.size w w' := by
  have hnl := hx.len_eq
  have hml := hy.len_eq
  by_cases hnm : n = m
  · have hnmi : ((n : Int) == (m : Int)) = true := by rw [hnm]; simp
    have HN : Veil (n = rs.length ∧ m = qs.length ∧ n = m) := ⟨hnl, hml, hnm⟩
    subst hnm
    clear hnl hml hnmi
    go_enter Tryd.func27, Tryd.ntmps27
    go_wp2
    go_loopw [5] (fun p wr => ∃ k : Nat, k ≤ n ∧ p = .int .i64 (k : Nat) ∧ rs.take k = qs.take k ∧ Below w.heap.size w wr) (fun p _ => n - (intOf p).toNat)
    case atStart => exact ⟨0, Nat.zero_le _, rfl, rfl, Below.refl _ _⟩
    case round =>
      obtain ⟨k, hk, rfl, htk, hB⟩ := hrel
      have HTK := Veil.mk htk
      clear htk
      by_cases hlt : k < n
      · have hlti : (k : Int) < (n : Int) := by omega
        have hxr := hx.below hB
        have hyr := hy.below hB
        obtain ⟨b1, rfl, h1⟩ : ∃ b, x = some ⟨b, 0, none⟩ ∧ ∀ j (hj : j < rs.length), ∃ xx cc, wr.cell? ⟨b, j, none⟩ = some (.slice xx rs[j].length cc) ∧ Bytes wr xx rs[j].length cc rs[j] := by
          rcases hxr.at_ with h0 | h0
          · omega
          · exact h0
        obtain ⟨b2, rfl, h2⟩ : ∃ b, y = some ⟨b, 0, none⟩ ∧ ∀ j (hj : j < qs.length), ∃ xx cc, wr.cell? ⟨b, j, none⟩ = some (.slice xx qs[j].length cc) ∧ Bytes wr xx qs[j].length cc qs[j] := by
          rcases hyr.at_ with h0 | h0
          · omega
          · exact h0
        have hkr : k < rs.length := by have := HN.out; omega
        have hkq : k < qs.length := by have := HN.out; omega
        obtain ⟨x1, c1, e1, e2⟩ := h1 k hkr
        obtain ⟨x2, c2, e3, e4⟩ := h2 k hkq
        have hSE := strEq rs[k] qs[k] (hr _ (List.getElem_mem hkr)) (hq _ (List.getElem_mem hkq))
        obtain ⟨SA, hSA⟩ : ∃ q, strOfNums rs[k] = q := ⟨_, rfl⟩
        obtain ⟨SB, hSB⟩ : ∃ q, strOfNums qs[k] = q := ⟨_, rfl⟩
        rw [hSA, hSB] at hSE
        obtain ⟨A, hA⟩ : ∃ q, rs[k] = q := ⟨_, rfl⟩
        obtain ⟨B, hBB⟩ : ∃ q, qs[k] = q := ⟨_, rfl⟩
        obtain ⟨l1, hl1⟩ : ∃ q, rs[k].length = q := ⟨_, rfl⟩
        obtain ⟨l2, hl2⟩ : ∃ q, qs[k].length = q := ⟨_, rfl⟩
        have keep : ∀ w', Below wr.heap.size wr w' → (w'.cell? ⟨b1, k, none⟩ = some (.slice x1 l1 c1) ∧ (convert 31 9 (.slice x1 l1 c1)).run Tryd.prog w' = .ok (.string SA) w') ∧ w'.cell? ⟨b2, k, none⟩ = some (.slice x2 l2 c2) ∧ (convert 31 9 (.slice x2 l2 c2)).run Tryd.prog w' = .ok (.string SB) w' := fun w' hb' => by
          rw [hl1] at e1
          rw [hl2] at e3
          refine ⟨⟨(hb'.cell (p := ⟨b1, k, none⟩) (block_lt_of_cell e1)).trans e1, ?_⟩, (hb'.cell (p := ⟨b2, k, none⟩) (block_lt_of_cell e3)).trans e3, ?_⟩
          · rw [← hSA, ← hl1]; exact conv_bytes (e2.below hb')
          · rw [← hSB, ← hl2]; exact conv_bytes (e4.below hb')
        have HAB : Veil (rs[k] = A ∧ qs[k] = B) := ⟨hA, hBB⟩
        rw [hA, hBB] at hSE
        clear e1 e2 e3 e4 h1 h2 hxr hyr hSA hSB hl1 hl2 hA hBB
        go_upto_region 6 with fail
        refine wp_region_gateT (fun w' => (w'.cell? ⟨b1, k, none⟩ = some (.slice x1 l1 c1) ∧ (convert 31 9 (.slice x1 l1 c1)).run Tryd.prog w' = .ok (.string SA) w') ∧ w'.cell? ⟨b2, k, none⟩ = some (.slice x2 l2 c2) ∧ (convert 31 9 (.slice x2 l2 c2)).run Tryd.prog w' = .ok (.string SB) w') (fun _ => True) 10 (by kernel_rfl) ?_
        have hS := trivial
        have hT := keep _ (Below.refl _ _).drew
        refine wpAnyT_held (i := 0) (v := ?_) rfl (by kernel_rfl) (by kernel_rfl) (by kernel_rfl) (fun _ _ _ h => h) (by kernel_rfl) hT (fun _ => hS) (by kernel_rfl) ?_ ?_
        rotate_left
        · intro wx hSw; go_split_ands; go_simp; try with_reducible rfl
        simp only [Act.put, List.getElem_toArray, List.getElem_cons_succ, List.getElem_cons_zero, List.setIfInBounds_toArray, List.set_cons_zero, List.set_cons_succ]
        refine wpAnyT_held (i := 1) (v := ?_) rfl (by kernel_rfl) (by kernel_rfl) (by kernel_rfl) (fun _ _ _ h => h) (by kernel_rfl) hT (fun _ => hS) (by kernel_rfl) ?_ ?_
        rotate_left
        · intro wx hSw; go_split_ands; go_simp; try with_reducible rfl
        simp only [Act.put, List.getElem_toArray, List.getElem_cons_succ, List.getElem_cons_zero, List.setIfInBounds_toArray, List.set_cons_zero, List.set_cons_succ]
        refine wpAnyT_held (i := 2) (v := ?_) rfl (by kernel_rfl) (by kernel_rfl) (by kernel_rfl) (fun _ _ _ h => h) (by kernel_rfl) hT (fun _ => hS) (by kernel_rfl) ?_ ?_
        rotate_left
        · intro wx hSw; go_split_ands; go_simp; try with_reducible rfl
        simp only [Act.put, List.getElem_toArray, List.getElem_cons_succ, List.getElem_cons_zero, List.setIfInBounds_toArray, List.set_cons_zero, List.set_cons_succ]
        refine wpAnyT_held (i := 3) (v := ?_) rfl (by kernel_rfl) (by kernel_rfl) (by kernel_rfl) (fun _ _ _ h => h) (by kernel_rfl) hT (fun _ => hS) (by kernel_rfl) ?_ ?_
        rotate_left
        · intro wx hSw; go_split_ands; go_simp; try with_reducible rfl
        simp only [Act.put, List.getElem_toArray, List.getElem_cons_succ, List.getElem_cons_zero, List.setIfInBounds_toArray, List.set_cons_zero, List.set_cons_succ]
        refine wpAnyT_held (i := 5) (v := ?_) rfl (by kernel_rfl) (by kernel_rfl) (by kernel_rfl) (fun _ _ _ h => h) (by kernel_rfl) hT (fun _ => hS) (by kernel_rfl) ?_ ?_
        rotate_left
        · intro wx hSw; go_split_ands; go_simp; try with_reducible rfl
        simp only [Act.put, List.getElem_toArray, List.getElem_cons_succ, List.getElem_cons_zero, List.setIfInBounds_toArray, List.set_cons_zero, List.set_cons_succ]
        refine wpAnyT_held (i := 6) (v := ?_) rfl (by kernel_rfl) (by kernel_rfl) (by kernel_rfl) (fun _ _ _ h => h) (by kernel_rfl) hT (fun _ => hS) (by kernel_rfl) ?_ ?_
        rotate_left
        · intro wx hSw; go_split_ands; go_simp; try with_reducible rfl
        simp only [Act.put, List.getElem_toArray, List.getElem_cons_succ, List.getElem_cons_zero, List.setIfInBounds_toArray, List.set_cons_zero, List.set_cons_succ]
        refine wpAnyT_held (i := 7) (v := ?_) rfl (by kernel_rfl) (by kernel_rfl) (by kernel_rfl) (fun _ _ _ h => h) (by kernel_rfl) hT (fun _ => hS) (by kernel_rfl) ?_ ?_
        rotate_left
        · intro wx hSw; go_split_ands; go_simp; try with_reducible rfl
        simp only [Act.put, List.getElem_toArray, List.getElem_cons_succ, List.getElem_cons_zero, List.setIfInBounds_toArray, List.set_cons_zero, List.set_cons_succ]
        refine wpAnyT_held (i := 8) (v := ?_) rfl (by kernel_rfl) (by kernel_rfl) (by kernel_rfl) (fun _ _ _ h => h) (by kernel_rfl) hT (fun _ => hS) (by kernel_rfl) ?_ ?_
        rotate_left
        · intro wx hSw; go_split_ands; go_simp; try with_reducible rfl
        simp only [Act.put, List.getElem_toArray, List.getElem_cons_succ, List.getElem_cons_zero, List.setIfInBounds_toArray, List.set_cons_zero, List.set_cons_succ]
        refine wpAnyT_held (i := 4) (v := .string SA) rfl (by kernel_rfl) (by kernel_rfl) (by kernel_rfl) (fun _ _ _ h => h) (by kernel_rfl) hT (fun _ => hS) (by kernel_rfl) ?_ ?_
        · intro wx hSw; go_split_ands; go_simp
        simp only [Act.put, List.getElem_toArray, List.getElem_cons_succ, List.getElem_cons_zero, List.setIfInBounds_toArray, List.set_cons_zero, List.set_cons_succ]
        refine wpAnyT_held (i := 9) (v := .string SB) rfl (by kernel_rfl) (by kernel_rfl) (by kernel_rfl) (fun _ _ _ h => h) (by kernel_rfl) hT (fun _ => hS) (by kernel_rfl) ?_ ?_
        · intro wx hSw; go_split_ands; go_simp
        simp only [Act.put, List.getElem_toArray, List.getElem_cons_succ, List.getElem_cons_zero, List.setIfInBounds_toArray, List.set_cons_zero, List.set_cons_succ]
        refine wpAnyT_one (i := 10) rfl (by kernel_rfl) (by kernel_rfl) (fun K hK => ?_)
        go_simp
        refine hK.out _ _ hT (fun _ => trivial) ?_
        clear hK K
        refine wpAnyT_done (by kernel_rfl) ?_ _
        have hB3 := hB.drew
        have hw1 : IntKind.i64.wrap ((k : Int) + 1) = (k : Int) + 1 := by rw [IntKind.wrap_i64]; omega
        clear hT hS keep
        by_cases hEq : A = B
        · have e1 : (A == B) = true := by simp [hEq]
          rw [e1]
          clear hSE
          go_wp2
          go_roundw
          case rel =>
            have hh := HN.out
            exact ⟨k + 1, by omega, by push_cast; rfl, same_take rs qs k hkr (by omega) HTK.out (by rw [HAB.out.1, HAB.out.2]; exact hEq), hB3⟩
          case measure => simp [intOf]; omega
        · have e1 : (A == B) = false := by simp [hEq]
          rw [e1]
          clear hSE
          go_wp2
          go_ret
          refine ⟨?_, hB3⟩
          have : (rs == qs) = false := by
            simp only [beq_eq_false_iff_ne, ne_eq]
            intro h
            subst h
            exact hEq (HAB.out.1.symm.trans HAB.out.2)
          rw [this]; rfl
      · have hlti : ¬ (k : Int) < (n : Int) := by omega
        have hEq : Veil ((rs == qs) = true) := ⟨by
          have hh := HN.out
          have h1 := HTK.out
          rw [List.take_of_length_le (by omega), List.take_of_length_le (by omega)] at h1
          simp [h1]⟩
        go_wp2
        go_ret
        exact ⟨by rw [hEq.out]; rfl, hB⟩
  · have hnmi : ((n : Int) == (m : Int)) = false := by simp; omega
    have hEq : Veil ((rs == qs) = false) := ⟨by
      simp only [beq_eq_false_iff_ne, ne_eq]
      intro h
      subst h
      omega⟩
    clear hnl hml
    go_enter Tryd.func27, Tryd.ntmps27
    go_wp2
    go_ret
    exact ⟨by rw [hEq.out]; rfl, Below.refl _ _⟩
end Go.Proofs.YtknomnnbebhijabDoor
