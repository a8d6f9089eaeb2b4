/- disk: deeds on both ('play'); whether both tell the same ('same'). -/
import Derived.Test.YtknomnnbebhijabDoorDx5
import Derived.Test.YtknomnnbebhijabDoorDl
namespace Go.Proofs.YtknomnnbebhijabDoor
open Go.RowKit Go.Shelf
set_option maxRecDepth 20000
set_option linter.unusedSimpArgs false

set_option maxHeartbeats 4000000 in
theorem play_any (x : Option Addr) (len cap : Nat) (ds : List Dd) (w : World) (hd : DeedsAt w x len cap ds) (hKT : S.KTab w) :
    Calls Tryd.prog 5 #[.slice x len cap] w fun e w' => ∃ D R, e = .returned (.tuple #[.pointer (some ⟨D, 0, none⟩), .pointer (some ⟨R, 0, none⟩), .bool true]) ∧ (∃ v u z s, Both w' w.heap.size D v R u z s) ∧ Below w.heap.size w w' := by
  have hN := dNew_any w
  have hdl := hd.len_eq
  have HDL := Veil.mk hdl
  clear hdl
  go_enter Tryd.func5, Tryd.ntmps5
  go_wp2_with (first
    | (go_at_call 18; refine hN.mono ?_; rintro e w1 ⟨rfl, hD1, hs1, hB1⟩; clear hs1)
    | (go_at_call 19; refine (rNew_any w1).mono ?_; rintro e w2 ⟨rfl, hR2, hs2, hB2⟩; clear hs2))
  have hBo : Both w2 w.heap.size w.heap.size (.slice none 0 0) w1.heap.size (.slice none 0 0) [] 0 := ⟨hD1.far hB2, ⟨hR2.box, .inl ⟨rfl, rfl⟩, hR2.isb, hR2.len, hR2.syn, hB1.size⟩, fun g hg => by cases hg⟩
  have hBw : Below w.heap.size w w2 := hB1.trans (hB2.mono hB1.size)
  obtain ⟨D, hDD⟩ : ∃ q, w.heap.size = q := ⟨_, rfl⟩
  obtain ⟨R, hRR⟩ : ∃ q, w1.heap.size = q := ⟨_, rfl⟩
  rw [hRR] at hBo ⊢
  clear hRR hD1 hR2 hB1 hB2 hN hDD
  go_loopw [7] (fun p wr => ∃ k : Nat, k ≤ len ∧ p = .int .i64 (k : Nat) ∧ (∃ v u z s, Both wr w.heap.size w.heap.size v R u z s) ∧ Below w.heap.size w wr) (fun p _ => len - (intOf p).toNat)
  case atStart => exact ⟨0, Nat.zero_le _, rfl, ⟨_, _, _, _, hBo⟩, hBw⟩
  case round =>
    obtain ⟨k, hk, rfl, ⟨v, u, z, s, hBr⟩, hB⟩ := hrel
    clear hBo hBw
    by_cases h1 : k < len
    · have h1i : (k : Int) < (len : Int) := by omega
      by_cases h2 : k < 40
      · have h2i : (k : Int) < 40 := by omega
        obtain ⟨b, off, rfl, hc⟩ : ∃ b off, x = some ⟨b, off, none⟩ ∧ ∀ j (hj : j < ds.length) (i : Nat) v, ds[j].cells[i]? = some v → wr.cell? ⟨b, off + j * 3 + i, none⟩ = some v := by
          rcases (hd.below hB).at_ with h0 | h0
          · omega
          · exact h0
        have hkd : k < ds.length := by have := HDL.out; omega
        have e0 := hc k hkd 0 _ rfl
        have e1 := hc k hkd 1 _ rfl
        have e2 := hc k hkd 2 _ rfl
        have hok := hd.ok ds[k] (List.getElem_mem hkd)
        have hdo := do_any w.heap.size w.heap.size R v u z s wr hBr hB.size (hKT.below hB) ds[k] (hok.below hB) (fun a hl0 ha => by
          rcases hok.bytes.at_ with h0 | ⟨b', off', hx', hc'⟩
          · exact absurd h0 hl0
          · rw [hx'] at ha
            cases ha
            exact block_lt_of_cell (hc' 0 (by omega)))
        clear hc hok hBr
        generalize ds[k] = dk at e0 e1 e2 hdo
        obtain ⟨kind, keep, xx, ll, cc, bb⟩ := dk
        simp only [Dd.cells] at hdo
        simp only at e0 e1 e2
        rw [Nat.add_zero] at e0
        have hw1 : IntKind.i64.wrap ((k : Int) + 1) = (k : Int) + 1 := by rw [IntKind.wrap_i64]; omega
        go_wp2_with (go_at_call 9; refine hdo.mono ?_; rintro e w3 ⟨rfl, hB3, hb3⟩)
        go_roundw
        case rel => exact ⟨k + 1, h1, by push_cast; rfl, hB3, hB.trans hb3⟩
        case measure => simp [intOf]; omega
      · have h2i : ¬ (k : Int) < 40 := by omega
        go_wp2
        go_ret3
        exact ⟨_, _, rfl, ⟨_, _, _, _, hBr⟩, hB⟩
    · have h1i : ¬ (k : Int) < (len : Int) := by omega
      go_wp2
      go_ret3
      exact ⟨_, _, rfl, ⟨_, _, _, _, hBr⟩, hB⟩
set_option maxHeartbeats 8000000 in
theorem same_any (base D R : Nat) (v u : Value) (z : List Int) (s : Nat) (w : World) (hW : Both w base D v R u z s) (hKT : S.KTab w) :
    Calls Tryd.prog 11 #[.pointer (some ⟨D, 0, none⟩), .pointer (some ⟨R, 0, none⟩)] w fun e w' => e = .returned (.bool true) ∧ Below w.heap.size w w' := by
  obtain ⟨SZ, hSZ⟩ : ∃ q, strOfNums z = q := ⟨_, rfl⟩
  have hzB := hW.d.isb
  have hrB : ∀ r ∈ recsL z, isB r := fun r hr => by
    unfold recsL at hr
    obtain ⟨k, _, rfl⟩ := List.mem_map.1 hr
    exact fun x hx => hzB x (List.mem_of_mem_drop (List.mem_of_mem_take hx))
  have hrl : (recsL z).length ≤ 1000000 := by
    have h1 := wholeN_few z
    have h2 := hW.d.len
    rw [recsL_length]; omega
  have hcv : ∀ wx vv b0, OwnB wx b0 vv z → (convert 31 9 vv).run Tryd.prog wx = .ok (.string SZ) wx := fun wx vv b0 hvv => by
    obtain ⟨xx, nn, cc, rfl, _⟩ := hvv.isSlice
    rw [← hSZ]; exact conv_bytes hvv.bytes.2
  clear hSZ
  go_enter Tryd.func11, Tryd.ntmps11
  go_upto_region 1 with fail
  obtain ⟨W0, hW0⟩ : ∃ q, w.drew = q := ⟨_, rfl⟩
  have hB0 : Below w.heap.size w W0 := by rw [← hW0]; exact (Below.refl _ _).drew
  refine wp_region_gate (fun _ => True) 21 (by kernel_rfl) ?_
  rw [hW0]
  clear hW0
  have hW1 := hW.far hB0
  have hS : (fun _ : World => True) W0 := trivial
  refine wpAnyG_any (i := 0) (v := ?_) rfl (by kernel_rfl) (by kernel_rfl) (by kernel_rfl) (fun _ _ _ h => h) (by kernel_rfl) (fun _ => hS) (by kernel_rfl) ?_ ?_
  rotate_left
  · intro _; go_simp; try with_reducible rfl
  simp only [Act.put, List.getElem_toArray, List.getElem_cons_succ, List.getElem_cons_zero, List.setIfInBounds_toArray, List.set_cons_zero, List.set_cons_succ]
  refine wpAnyG_any (i := 3) (v := ?_) rfl (by kernel_rfl) (by kernel_rfl) (by kernel_rfl) (fun _ _ _ h => h) (by kernel_rfl) (fun _ => hS) (by kernel_rfl) ?_ ?_
  rotate_left
  · intro _; go_simp; try with_reducible rfl
  simp only [Act.put, List.getElem_toArray, List.getElem_cons_succ, List.getElem_cons_zero, List.setIfInBounds_toArray, List.set_cons_zero, List.set_cons_succ]
  refine wpAnyG_one (i := 1) rfl (by kernel_rfl) (by kernel_rfl) (fun K hK => ?_)
  refine wpx_call _ _ (by kernel_rfl) ((dBytes_any base D v z s W0 hW1.d).mono ?_)
  rintro e W2 ⟨v2, rfl, ho2, hb2⟩
  refine ⟨_, rfl, ?_⟩
  refine hK.out _ _ (fun _ => hS) ?_
  clear hK K
  try simp only [Act.put, List.getElem_toArray, List.getElem_cons_succ, List.getElem_cons_zero, List.setIfInBounds_toArray, List.set_cons_zero, List.set_cons_succ]
  have hB2 := hB0.trans (hb2.mono hB0.size)
  have hW2 := hW1.far hb2
  have hk2 : ∀ w', Below W2.heap.size W2 w' → (convert 31 9 v2).run Tryd.prog w' = .ok (.string SZ) w' := fun w' hb' => hcv w' v2 _ (ho2.afarW hb')
  refine wpAnyG_more (S' := fun w' => (convert 31 9 v2).run Tryd.prog w' = .ok (.string SZ) w') (fun _ _ => trivial) _ _ _ _ ?_
  replace hS : (fun w' : World => (convert 31 9 v2).run Tryd.prog w' = .ok (.string SZ) w') W2 := hk2 W2 (Below.refl _ _)
  clear hW1
  refine wpAnyG_read (i := 2) (v := ?_) rfl (by kernel_rfl) (by kernel_rfl) (by kernel_rfl) (fun _ _ _ h => h) (by kernel_rfl) (by kernel_rfl) (by kernel_rfl) hS (by kernel_rfl) ?_ ?_
  rotate_left
  · intro wx hSw; go_split_ands; go_simp; try with_reducible rfl
  simp only [Act.put, List.getElem_toArray, List.getElem_cons_succ, List.getElem_cons_zero, List.setIfInBounds_toArray, List.set_cons_zero, List.set_cons_succ]
  refine wpAnyG_one (i := 4) rfl (by kernel_rfl) (by kernel_rfl) (fun K hK => ?_)
  refine wpx_call _ _ (by kernel_rfl) ((rBytes_any base R u z s W2 hW2.r).mono ?_)
  rintro e W3 ⟨v3, rfl, ho3, hb3⟩
  refine ⟨_, rfl, ?_⟩
  replace hS : (fun w' : World => (convert 31 9 v2).run Tryd.prog w' = .ok (.string SZ) w') W3 := hk2 W3 hb3
  refine hK.out _ _ (fun _ => hS) ?_
  clear hK K
  try simp only [Act.put, List.getElem_toArray, List.getElem_cons_succ, List.getElem_cons_zero, List.setIfInBounds_toArray, List.set_cons_zero, List.set_cons_succ]
  have hB3 := hB2.trans (hb3.mono hB2.size)
  have hW3 := hW2.far hb3
  have hk3 : ∀ w', Below W3.heap.size W3 w' → (convert 31 9 v2).run Tryd.prog w' = .ok (.string SZ) w' ∧ (convert 31 9 v3).run Tryd.prog w' = .ok (.string SZ) w' := fun w' hb' => ⟨hk2 w' (hb3.trans (hb'.mono hb3.size)), hcv w' v3 _ (ho3.afarW hb')⟩
  refine wpAnyG_more (S' := fun w' => (convert 31 9 v2).run Tryd.prog w' = .ok (.string SZ) w' ∧ (convert 31 9 v3).run Tryd.prog w' = .ok (.string SZ) w') (fun _ h => h.1) _ _ _ _ ?_
  replace hS : (fun w' : World => (convert 31 9 v2).run Tryd.prog w' = .ok (.string SZ) w' ∧ (convert 31 9 v3).run Tryd.prog w' = .ok (.string SZ) w') W3 := hk3 W3 (Below.refl _ _)
  clear hW2 hk2 hcv ho2 ho3
  refine wpAnyG_read (i := 5) (v := ?_) rfl (by kernel_rfl) (by kernel_rfl) (by kernel_rfl) (fun _ _ _ h => h) (by kernel_rfl) (by kernel_rfl) (by kernel_rfl) hS (by kernel_rfl) ?_ ?_
  rotate_left
  · intro wx hSw; go_split_ands; go_simp; try with_reducible rfl
  simp only [Act.put, List.getElem_toArray, List.getElem_cons_succ, List.getElem_cons_zero, List.setIfInBounds_toArray, List.set_cons_zero, List.set_cons_succ]
  refine wpAnyG_any (i := 6) (v := .bool true) rfl (by kernel_rfl) (by kernel_rfl) (by kernel_rfl) (fun _ _ _ h => h) (by kernel_rfl) (fun _ => hS) (by kernel_rfl) ?_ ?_
  · intro _; go_simp
  simp only [Act.put, List.getElem_toArray, List.getElem_cons_succ, List.getElem_cons_zero, List.setIfInBounds_toArray, List.set_cons_zero, List.set_cons_succ]
  refine wpAnyG_any (i := 7) (v := ?_) rfl (by kernel_rfl) (by kernel_rfl) (by kernel_rfl) (fun _ _ _ h => h) (by kernel_rfl) (fun _ => hS) (by kernel_rfl) ?_ ?_
  rotate_left
  · intro _; go_simp; try with_reducible rfl
  simp only [Act.put, List.getElem_toArray, List.getElem_cons_succ, List.getElem_cons_zero, List.setIfInBounds_toArray, List.set_cons_zero, List.set_cons_succ]
  refine wpAnyG_any (i := 8) (v := ?_) rfl (by kernel_rfl) (by kernel_rfl) (by kernel_rfl) (fun _ _ _ h => h) (by kernel_rfl) (fun _ => hS) (by kernel_rfl) ?_ ?_
  rotate_left
  · intro _; go_simp; try with_reducible rfl
  simp only [Act.put, List.getElem_toArray, List.getElem_cons_succ, List.getElem_cons_zero, List.setIfInBounds_toArray, List.set_cons_zero, List.set_cons_succ]
  refine wpAnyG_any (i := 10) (v := ?_) rfl (by kernel_rfl) (by kernel_rfl) (by kernel_rfl) (fun _ _ _ h => h) (by kernel_rfl) (fun _ => hS) (by kernel_rfl) ?_ ?_
  rotate_left
  · intro _; go_simp; try with_reducible rfl
  simp only [Act.put, List.getElem_toArray, List.getElem_cons_succ, List.getElem_cons_zero, List.setIfInBounds_toArray, List.set_cons_zero, List.set_cons_succ]
  refine wpAnyG_one (i := 9) rfl (by kernel_rfl) (by kernel_rfl) (fun K hK => ?_)
  refine wpx_call _ _ (by kernel_rfl) ((dSynced_any base D v z s W3 hW3.d).mono ?_)
  rintro e W4 ⟨rfl, rfl⟩
  refine ⟨_, rfl, ?_⟩
  refine hK.out _ _ (fun _ => hS) ?_
  clear hK K
  try simp only [Act.put, List.getElem_toArray, List.getElem_cons_succ, List.getElem_cons_zero, List.setIfInBounds_toArray, List.set_cons_zero, List.set_cons_succ]
  refine wpAnyG_one (i := 11) rfl (by kernel_rfl) (by kernel_rfl) (fun K hK => ?_)
  refine wpx_call _ _ (by kernel_rfl) ((rSynced_any base R u z s W4 hW3.r).mono ?_)
  rintro e W5 ⟨rfl, rfl⟩
  refine ⟨_, rfl, ?_⟩
  refine hK.out _ _ (fun _ => hS) ?_
  clear hK K
  try simp only [Act.put, List.getElem_toArray, List.getElem_cons_succ, List.getElem_cons_zero, List.setIfInBounds_toArray, List.set_cons_zero, List.set_cons_succ]
  refine wpAnyG_any (i := 12) (v := .bool true) rfl (by kernel_rfl) (by kernel_rfl) (by kernel_rfl) (fun _ _ _ h => h) (by kernel_rfl) (fun _ => hS) (by kernel_rfl) ?_ ?_
  · intro _; go_simp
  simp only [Act.put, List.getElem_toArray, List.getElem_cons_succ, List.getElem_cons_zero, List.setIfInBounds_toArray, List.set_cons_zero, List.set_cons_succ]
  refine wpAnyG_any (i := 13) (v := ?_) rfl (by kernel_rfl) (by kernel_rfl) (by kernel_rfl) (fun _ _ _ h => h) (by kernel_rfl) (fun _ => hS) (by kernel_rfl) ?_ ?_
  rotate_left
  · intro _; go_simp; try with_reducible rfl
  simp only [Act.put, List.getElem_toArray, List.getElem_cons_succ, List.getElem_cons_zero, List.setIfInBounds_toArray, List.set_cons_zero, List.set_cons_succ]
  refine wpAnyG_any (i := 14) (v := ?_) rfl (by kernel_rfl) (by kernel_rfl) (by kernel_rfl) (fun _ _ _ h => h) (by kernel_rfl) (fun _ => hS) (by kernel_rfl) ?_ ?_
  rotate_left
  · intro _; go_simp; try with_reducible rfl
  simp only [Act.put, List.getElem_toArray, List.getElem_cons_succ, List.getElem_cons_zero, List.setIfInBounds_toArray, List.set_cons_zero, List.set_cons_succ]
  refine wpAnyG_any (i := 15) (v := ?_) rfl (by kernel_rfl) (by kernel_rfl) (by kernel_rfl) (fun _ _ _ h => h) (by kernel_rfl) (fun _ => hS) (by kernel_rfl) ?_ ?_
  rotate_left
  · intro _; go_simp; try with_reducible rfl
  simp only [Act.put, List.getElem_toArray, List.getElem_cons_succ, List.getElem_cons_zero, List.setIfInBounds_toArray, List.set_cons_zero, List.set_cons_succ]
  refine wpAnyG_any (i := 17) (v := ?_) rfl (by kernel_rfl) (by kernel_rfl) (by kernel_rfl) (fun _ _ _ h => h) (by kernel_rfl) (fun _ => hS) (by kernel_rfl) ?_ ?_
  rotate_left
  · intro _; go_simp; try with_reducible rfl
  simp only [Act.put, List.getElem_toArray, List.getElem_cons_succ, List.getElem_cons_zero, List.setIfInBounds_toArray, List.set_cons_zero, List.set_cons_succ]
  refine wpAnyG_one (i := 16) rfl (by kernel_rfl) (by kernel_rfl) (fun K hK => ?_)
  refine wpx_call _ _ (by kernel_rfl) ((records_any base D v z s W5 hW3.d (hKT.below hB3)).mono ?_)
  rintro e W6 ⟨v6, rfl, hr6, hb6⟩
  refine ⟨_, rfl, ?_⟩
  replace hS : (fun w' : World => (convert 31 9 v2).run Tryd.prog w' = .ok (.string SZ) w' ∧ (convert 31 9 v3).run Tryd.prog w' = .ok (.string SZ) w') W6 := hk3 W6 hb6
  have hB6 := hB3.trans (hb6.mono hB3.size)
  have hW6 := hW3.far hb6
  refine hK.out _ _ (fun _ => hS) ?_
  clear hK K
  try simp only [Act.put, List.getElem_toArray, List.getElem_cons_succ, List.getElem_cons_zero, List.setIfInBounds_toArray, List.set_cons_zero, List.set_cons_succ]
  refine wpAnyG_one (i := 18) rfl (by kernel_rfl) (by kernel_rfl) (fun K hK => ?_)
  refine wpx_call _ _ (by kernel_rfl) ((rRecords_any base R u z s W6 hW6.r).mono ?_)
  rintro e W7 ⟨v7, rfl, hr7, hb7⟩
  refine ⟨_, rfl, ?_⟩
  have hb67 := hb6.trans (hb7.mono hb6.size)
  replace hS : (fun w' : World => (convert 31 9 v2).run Tryd.prog w' = .ok (.string SZ) w' ∧ (convert 31 9 v3).run Tryd.prog w' = .ok (.string SZ) w') W7 := hk3 W7 hb67
  have hB7 := hB6.trans (hb7.mono hB6.size)
  obtain ⟨x6, c6, rfl, hv6⟩ := (hr6.far hb7).view
  obtain ⟨x7, c7, rfl, hv7⟩ := hr7.view
  have hsr := sameRows_any x6 _ c6 _ x7 _ c7 _ W7 hv6 hv7 hrB hrB hrl
  rw [show (recsL z == recsL z) = true by simp] at hsr
  generalize (recsL z).length = nr at hsr hv6 hv7
  clear hv6 hv7 hr6 hr7
  refine hK.out _ _ (fun _ => hS) ?_
  clear hK K
  try simp only [Act.put, List.getElem_toArray, List.getElem_cons_succ, List.getElem_cons_zero, List.setIfInBounds_toArray, List.set_cons_zero, List.set_cons_succ]
  refine wpAnyG_one (i := 19) rfl (by kernel_rfl) (by kernel_rfl) (fun K hK => ?_)
  refine wpx_call _ _ (by kernel_rfl) (hsr.mono ?_)
  rintro e W8 ⟨rfl, hb8⟩
  refine ⟨_, rfl, ?_⟩
  have hb78 := hb67.trans (hb8.mono hb67.size)
  replace hS : (fun w' : World => (convert 31 9 v2).run Tryd.prog w' = .ok (.string SZ) w' ∧ (convert 31 9 v3).run Tryd.prog w' = .ok (.string SZ) w') W8 := hk3 W8 hb78
  have hB8 := hB7.trans (hb8.mono hB7.size)
  refine hK.out _ _ (fun _ => hS) ?_
  clear hK K
  try simp only [Act.put, List.getElem_toArray, List.getElem_cons_succ, List.getElem_cons_zero, List.setIfInBounds_toArray, List.set_cons_zero, List.set_cons_succ]
  refine wpAnyG_any (i := 20) (v := .bool true) rfl (by kernel_rfl) (by kernel_rfl) (by kernel_rfl) (fun _ _ _ h => h) (by kernel_rfl) (fun _ => hS) (by kernel_rfl) ?_ ?_
  · intro _; go_simp
  simp only [Act.put, List.getElem_toArray, List.getElem_cons_succ, List.getElem_cons_zero, List.setIfInBounds_toArray, List.set_cons_zero, List.set_cons_succ]
  refine wpAnyG_one (i := 21) rfl (by kernel_rfl) (by kernel_rfl) (fun K hK => ?_)
  go_simp
  refine hK.out _ _ (fun h => absurd (show true = false from h) (by decide)) ?_
  clear hK K
  try simp only [Act.put, List.getElem_toArray, List.getElem_cons_succ, List.getElem_cons_zero, List.setIfInBounds_toArray, List.set_cons_zero, List.set_cons_succ]
  refine wpAnyG_done (by kernel_rfl) ?_ _
  clear hS hk3 hsr hW3 hW6
  go_wp2
  go_ret
  exact ⟨rfl, hB8⟩
end Go.Proofs.YtknomnnbebhijabDoor
