/- disk: 'headOf'. -/
import Derived.Test.YtknomnnbebhijabDoorDk0
import Derived.Test.YtknomnnbebhijabDoorDr1
namespace Go.Proofs.YtknomnnbebhijabDoor
open Go.RowKit
set_option maxRecDepth 20000
set_option linter.unusedSimpArgs false

theorem Bytes.toS {w : World} {x : Option Addr} {n c : Nat} {z : List Int} (h : Bytes w x n c z) : S.Bytes w x n c z := ⟨h.1, h.2, h.3, h.4, h.5⟩
theorem sumD_any (x : Option Addr) (len cap : Nat) (z : List Int) (w : World) (hbz : Bytes w x len cap z) (hln : len ≤ 1000000) (hk : S.KTab w) :
    Calls Tryd.prog 34 #[.slice x len cap] w fun e w' => e = .returned (.agg (row .u8 (S.sumL z))) ∧ Below w.heap.size w w' := S.sum_any x len cap z w hbz.toS hln hk
theorem size10 : (Tryd.prog.info? 51).map (·.size) = some 10 := by kernel_rfl
theorem sizeKeyD : (Tryd.prog.info? 60).map (·.size) = some 32 := by kernel_rfl
set_option maxHeartbeats 4000000 in
theorem headOf_any (x : Option Addr) (len cap : Nat) (z : List Int) (w : World) (hb : Bytes w x len cap z) (hln : len ≤ 70000) (hKT : S.KTab w) :
    Calls Tryd.prog 29 #[.slice x len cap] w fun e w' => e = .returned (.agg (row .u8 (headL z))) ∧ Below w.heap.size w w' := by
  have hD : ∀ wx, Below w.heap.size w wx → Calls Tryd.prog 34 #[.slice x len cap] wx fun e w' => e = .returned (.agg (row .u8 (S.sumL z))) ∧ Below wx.heap.size wx w' := fun wx hx => sumD_any x len cap z wx (hb.below hx) (by omega) (hKT.below hx)
  have hDl := S.sumL_length z
  have HH : Veil (headL z = [((len / 256 % 256 : Nat) : Int), ((len % 256 : Nat) : Int)] ++ (S.sumL z).take 8) := ⟨by rw [hb.len_eq]; rfl⟩
  obtain ⟨D, hDD⟩ : ∃ D, S.sumL z = D := ⟨_, rfl⟩
  rw [hDD] at hD hDl HH
  clear hDD
  have h0 := Holds.new w .u8 51 (List.replicate 10 0)
  have hB0 : Below w.heap.size w (w.alloc (.cells (row .u8 (List.replicate 10 0)) 51)) := (Below.refl _ _).alloc (Nat.le_refl _) _
  have hD0 := hD _ hB0
  clear hD hb
  go_enter Tryd.func29, Tryd.ntmps29
  go_upto_region 2 with (first
    | (go_at_call 34; refine hD0.mono ?_; rintro e w1 ⟨rfl, hb1⟩; have hN := Holds.new w1 .u8 60 (List.replicate 32 0))
    | (refine wpList_st rfl 60 _ _ rfl _ rfl rfl hN (by rw [hDl]; exact sizeKeyD) (by simp [hDl]) ?_))
  have h1 := h0.below hb1 h0.lt
  have hB1 := hB0.trans (hb1.mono hB0.size)
  have hw1 : w.heap.size < w1.heap.size := h1.lt
  refine forget (p := fun y => Code.wp _ _ _ _ y) (fun W => Below w.heap.size w W ∧ Holds W w.heap.size .u8 51 (List.replicate 10 0) ∧ Holds W w1.heap.size .u8 60 D) ⟨below_setRow (hB1.alloc hB1.size _) hB1.size _, (h1.alloc _).setRowOther _ (by omega), hN.setRow _⟩ ?_
  obtain ⟨G, hG⟩ : ∃ q, w1.heap.size = q := ⟨_, rfl⟩
  rw [hG] at hw1 ⊢
  clear hG hN h1 hB1 hb1 h0 hB0 hD0
  rintro W ⟨hB, hr, hd⟩
  go_upto_region 3 with fail
  have h4 := Holds.new W .u8 51 [(len : Int) / 256 % 256, (len : Int) % 256, 0, 0, 0, 0, 0, 0, 0, 0]
  refine forget (p := fun y => Code.wp _ _ _ _ y) (fun V => Below w.heap.size w V ∧ Holds V w.heap.size .u8 51 (List.replicate 10 0) ∧ Holds V G .u8 60 D ∧ Holds V W.heap.size .u8 51 [(len : Int) / 256 % 256, (len : Int) % 256, 0, 0, 0, 0, 0, 0, 0, 0]) ⟨hB.alloc hB.size _, hr.alloc _, hd.alloc _, h4⟩ ?_
  have hW := hr.lt
  obtain ⟨E, hE⟩ : ∃ q, W.heap.size = q := ⟨_, rfl⟩
  rw [hE] at hW ⊢
  clear hE h4 hB hr hd
  clear W
  rintro V ⟨hB, hr, hd, h4⟩
  obtain ⟨T, hT⟩ : ∃ T, D.take 8 = T := ⟨_, rfl⟩
  have hTl : T.length = 8 := by rw [← hT, List.length_take]; omega
  have hTc : ∀ j u, (T.map (Value.int .u8))[j]? = some u → V.drew.cell? ((⟨G, 0, none⟩ : Addr).add j) = some u := fun j u hu => by
    have hj : j < 8 := by have := (List.getElem?_eq_some_iff.1 hu).1; simpa [hTl] using this
    rw [Addr.add_mid', Nat.zero_add, hd.drew.cell j (by omega), ← hu, ← hT, List.getElem?_map, List.getElem?_take_of_lt hj, List.getElem?_eq_getElem (by omega)]; rfl
  rw [hT] at HH
  have hE4 : ((row .u8 [(len : Int) / 256 % 256, (len : Int) % 256, 0, 0, 0, 0, 0, 0, 0, 0]).toList.take 2 ++ T.map (Value.int .u8) ++ (row .u8 [(len : Int) / 256 % 256, (len : Int) % 256, 0, 0, 0, 0, 0, 0, 0, 0]).toList.drop (2 + (T.map (Value.int .u8)).length)).toArray = row .u8 (headL z) := by
    rw [HH.out, List.length_map, hTl]
    simp [row]
  have hcp := run_copy_row (P := Tryd.prog) V.drew 31 31 3 5 E 2 8 8 ⟨G, 0, none⟩ 8 32 (row .u8 [(len : Int) / 256 % 256, (len : Int) % 256, 0, 0, 0, 0, 0, 0, 0, 0]) 51 (T.map (Value.int .u8)) Tryd.underlying31 size1u8 h4.drew (by rw [List.length_map, hTl]; rfl) hTc (by rw [List.length_map, hTl]; exact Nat.le_refl 10) (by simp [Value.oneCell'])
  rw [hE4] at hcp
  have hHl := headL_length z
  obtain ⟨HL, hHL⟩ : ∃ q, headL z = q := ⟨_, rfl⟩
  rw [hHL] at hcp hHl
  have HHL : Veil (headL z = HL) := ⟨hHL⟩
  refine wp_region_gate (fun _ => True) 2 (by kernel_rfl) ?_
  have hS : (fun _ : World => True) V.drew := trivial
  refine wpAnyG_any (i := 0) (v := ?_) rfl (by kernel_rfl) (by kernel_rfl) (by kernel_rfl) (fun _ _ _ h => h) (by kernel_rfl) (fun _ => hS) (by kernel_rfl) ?_ ?_
  rotate_left
  · intro _; go_simp; try with_reducible rfl
  simp only [Act.put, List.getElem_toArray, List.getElem_cons_succ, List.getElem_cons_zero, List.setIfInBounds_toArray, List.set_cons_zero, List.set_cons_succ]
  refine wpAnyG_any (i := 1) (v := ?_) rfl (by kernel_rfl) (by kernel_rfl) (by kernel_rfl) (fun _ _ _ h => h) (by kernel_rfl) (fun _ => hS) (by kernel_rfl) ?_ ?_
  rotate_left
  · intro _; go_simp; try with_reducible rfl
  simp only [Act.put, List.getElem_toArray, List.getElem_cons_succ, List.getElem_cons_zero, List.setIfInBounds_toArray, List.set_cons_zero, List.set_cons_succ]
  refine wpAnyG_one (i := 2) rfl (by kernel_rfl) (by kernel_rfl) (fun K hK => ?_)
  refine wpx_copy _ _ _ _ rfl _ _ _ _ rfl rfl hcp ?_
  refine hK.out _ _ (fun h => absurd (show true = false from h) (by decide)) ?_
  clear hK K
  try simp only [Act.put, List.getElem_toArray, List.getElem_cons_succ, List.getElem_cons_zero, List.setIfInBounds_toArray, List.set_cons_zero, List.set_cons_succ]
  refine wpAnyG_done (by kernel_rfl) ?_ _
  have h5 : Holds (V.drew.setRow E (row .u8 HL)) E .u8 51 HL := h4.drew.setRow HL
  have hr5 : Holds (V.drew.setRow E (row .u8 HL)) w.heap.size .u8 51 (List.replicate 10 0) := hr.drew.setRowOther _ (by omega)
  have hB5 : Below w.heap.size w (V.drew.setRow E (row .u8 HL)) := below_setRow hB.drew (by omega) _
  clear hcp hE4 hTc hT HH hHL
  refine forget (p := fun y => Exit.then _ _ _ _ y) (fun X => Holds X E .u8 51 HL ∧ Holds X w.heap.size .u8 51 (List.replicate 10 0) ∧ Below w.heap.size w X) ⟨h5, hr5, hB5⟩ ?_
  clear h5 hr5 hB5 hS hB hr hd h4
  clear V
  rintro X ⟨h5, hr5, hB5⟩
  go_wp2_with (first
    | (refine wpList_ld rfl 51 _ rfl _ rfl h5 Tryd.underlying51 size10 hHl ?_)
    | (refine wpList_st rfl 51 _ _ rfl _ rfl rfl hr5 (by rw [hHl]; exact size10) (by rw [hHl]; rfl) ?_))
  refine bodyPost_ret (results_holds (Tryd.results29) _ rfl (hr5.setRow _) Tryd.underlying51 size10 hHl) rfl ⟨by rw [HHL.out], below_setRow hB5 (Nat.le_refl _) _⟩
end Go.Proofs.YtknomnnbebhijabDoor
