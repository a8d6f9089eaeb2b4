/- 'take', 'tag' of the adder; 'Clamp'. -/
import Derived.Test.YtgeiiadlchimhaaDoorMPaPbPcPdPv
namespace Go.Proofs.YtgeiiadlchimhaaDoor
open Go.RowKit
set_option maxRecDepth 20000
set_option linter.unusedSimpArgs false

theorem Holds.rangeM {w : World} {g : Nat} {k : IntKind} {t : TypeId} {l : List Int} (h : Holds w g k t l) (o n : Nat) : w.rangeAt g o (((l.drop o).take n).map (Value.int k)) := fun j v hv => by
  have hj : j < ((l.drop o).take n).length := by have := (List.getElem?_eq_some_iff.1 hv).1; simpa using this
  rw [List.length_take, List.length_drop] at hj
  rw [h.cell (o + j) (by omega), ← hv, List.getElem?_map, List.getElem?_take_of_lt (by omega), List.getElem?_drop, List.getElem?_eq_getElem (by omega)]; rfl

/-- What is added up, behind one block more. -/
def takeL (L z : List Int) : List Int := timesL (addK L (numL z) 5) ((L.drop 5).take 5)
theorem numL_length (z : List Int) : (numL z).length = 5 := rfl
theorem addK_drop (L m : List Int) (k : Nat) (hk : k ≤ 5) : (addK L m k).drop 5 = L.drop 5 := by
  induction k with
  | zero => rfl
  | succ k ih => simp only [addK]; rw [List.drop_set_of_lt (by omega)]; exact ih (by omega)

set_option maxHeartbeats 2000000 in
theorem ptake_any (g : Nat) (L z : List Int) (w : World) (h : Holds w g .u64 102 L) (hl : L.length = 10) (hz : z.length = 17) :
    Calls Tryd.prog 49 #[.pointer (some ⟨g, 0, none⟩), .agg (row .u8 z)] w fun e w' => (∃ r, e = .returned r) ∧ Holds w' g .u64 102 (takeL L z) ∧ w.grownBy w' (some g) := by
  have hgl := h.lt
  have hnl := numL_length z
  have hT : Veil (takeL L z = timesL (addK L (numL z) 5) ((L.drop 5).take 5)) := ⟨rfl⟩
  have hnu := fun wx => numberOf_any z wx hz
  obtain ⟨m, hm⟩ : ∃ q, numL z = q := ⟨_, rfl⟩
  rw [hm] at hnl hnu hT
  have had := fun (wx : World) (hx : Holds wx g .u64 102 L) => add_any g 102 L m wx hx (by omega) hnl
  have hal := addK_length L m 5
  have hdr := addK_drop L m 5 (by omega)
  obtain ⟨A, hA⟩ : ∃ q, addK L m 5 = q := ⟨_, rfl⟩
  rw [hA] at had hal hdr hT
  have hRl : ((L.drop 5).take 5).length = 5 := by rw [List.length_take, List.length_drop]; omega
  rw [← hdr] at hT hRl
  obtain ⟨R, hR⟩ : ∃ q, (A.drop 5).take 5 = q := ⟨_, rfl⟩
  have hrg := fun (wx : World) (hx : Holds wx g .u64 102 A) => hx.rangeM 5 5
  rw [hR] at hT hRl hrg
  have hti := fun (wx : World) (hx : Holds wx g .u64 102 A) => times_any g 102 A R wx hx (by omega) hRl
  have uF := Tryd.underlying95
  have iF : (Tryd.prog.info? 95).map (·.size) = some (R.map (Value.int .u64)).length := by rw [List.length_map, hRl]; exact size5
  have hti' : ∀ (wx : World), Holds wx g .u64 102 A → Calls Tryd.prog 58 #[.pointer (some ⟨g, 0, none⟩), .agg (List.map (Value.int .u64) R).toArray] wx fun e w' => (∃ r, e = .returned r) ∧ Holds w' g .u64 102 (timesL A R) ∧ wx.grownBy w' (some g) := hti
  rw [← hT.out] at hti'
  obtain ⟨TK, hTK⟩ : ∃ q, takeL L z = q := ⟨_, rfl⟩
  rw [hTK] at hti' ⊢
  clear hT hm hA hdr hR hTK hti
  go_enter Tryd.func49, Tryd.ntmps49
  go_upto_region 1 with fail
  refine forget (p := fun y => Code.wp _ _ _ _ y) (fun W0 => w.grownBy W0 (some g) ∧ Holds W0 g .u64 102 L ∧ Holds W0 w.heap.size .u8 98 z) ⟨World.grownBy_alloc _ _ _, h.alloc _, Holds.new w .u8 _ z⟩ ?_
  rintro W0 ⟨hG0, hL0, hz0⟩
  have uB := Tryd.underlying98
  have iB : (Tryd.prog.info? 98).map (·.size) = some (z.map (Value.int .u8)).length := by rw [List.length_map, hz]; exact size17
  have hnu' : ∀ (wx : World), Calls Tryd.prog 45 #[.agg (List.map (Value.int .u8) z).toArray] wx fun e w' => e = .returned (.agg (row .u64 m)) ∧ Below wx.heap.size wx w' := hnu
  have hz1 : W0.drew.rangeAt w.heap.size 0 (z.map (Value.int .u8)) := by
    have := hz0.drew.rangeM 0 17
    rw [List.drop_zero, List.take_of_length_le (by omega)] at this
    exact this
  refine wp_region_gate (fun w' => w'.rangeAt w.heap.size 0 (z.map (Value.int .u8))) 4 (by kernel_rfl) ?_
  have hS := hz1
  refine wpAnyG_any (i := 0) (v := ?_) rfl (by kernel_rfl) (by kernel_rfl) (by kernel_rfl) (fun _ _ _ h => h) (by kernel_rfl) (fun _ => hS) (by kernel_rfl) ?_ ?_
  rotate_left
  · intro _; go_simp; try with_reducible rfl
  simp only [Act.put, List.setIfInBounds_toArray, List.set_cons_zero, List.set_cons_succ]
  refine wpAnyG_any (i := 1) (v := ?_) rfl (by kernel_rfl) (by kernel_rfl) (by kernel_rfl) (fun _ _ _ h => h) (by kernel_rfl) (fun _ => hS) (by kernel_rfl) ?_ ?_
  rotate_left
  · intro _; go_simp; try with_reducible rfl
  simp only [Act.put, List.setIfInBounds_toArray, List.set_cons_zero, List.set_cons_succ]
  refine wpAnyG_any (i := 2) (v := ?_) rfl (by kernel_rfl) (by kernel_rfl) (by kernel_rfl) (fun _ _ _ h => h) (by kernel_rfl) (fun _ => hS) (by kernel_rfl) ?_ ?_
  rotate_left
  · intro _; go_simp; try with_reducible rfl
  simp only [Act.put, List.setIfInBounds_toArray, List.set_cons_zero, List.set_cons_succ]
  refine wpAnyG_load (i := 3) (dst := some 7) (ty := 98) (x := .tmp 3) (b := w.heap.size) (o := (0)) (cs := (z.map (Value.int .u8))) (by kernel_rfl) (by kernel_rfl) (by kernel_rfl) (by kernel_rfl) (by kernel_rfl) (fun _ _ _ h => h) (by kernel_rfl) (by kernel_rfl) (by kernel_rfl) hS (by kernel_rfl) (fun _ h => h) uB rfl iB ?_
  simp only [Act.put, List.setIfInBounds_toArray, List.set_cons_zero, List.set_cons_succ]
  refine wpAnyG_one (i := 4) rfl (by kernel_rfl) (by kernel_rfl) (fun K hK => ?_)
  go_wp2_with (go_at_call 45; refine (hnu' _).mono ?_; rintro e w1 ⟨rfl, hb1⟩)
  have hL1 := (hL0.drew).below hb1 hL0.drew.lt
  have hG1 : w.grownBy w1 (some g) := (grown_drew hG0).trans ⟨hb1.os, hb1.tape, hb1.output, hb1.size, fun k hk _ => hb1.block k hk⟩
  refine hK.out _ _ (fun h => absurd (show true = false from h) (by decide)) ?_
  clear hK K
  refine wpAnyG_one (i := 5) rfl (by kernel_rfl) (by kernel_rfl) (fun K hK => ?_)
  go_wp2_with (go_at_call 57; refine (had _ hL1).mono ?_; rintro e w2 ⟨⟨r, rfl⟩, hA2, hG2⟩)
  refine hK.out _ _ (fun h => absurd (show true = false from h) (by decide)) ?_
  clear hK K
  refine wpAnyG_done (by kernel_rfl) ?_ _
  have hG3 := hG1.trans hG2
  clear hS hz1 hz0 hL0 hG0 hL1 hG1 hG2 hb1
  go_upto_region 2 with fail
  refine wp_region_gate (fun w' => w'.rangeAt g 5 (R.map (Value.int .u64))) 7 (by kernel_rfl) ?_
  have hS := hrg _ hA2.drew
  refine wpAnyG_any (i := 0) (v := ?_) rfl (by kernel_rfl) (by kernel_rfl) (by kernel_rfl) (fun _ _ _ h => h) (by kernel_rfl) (fun _ => hS) (by kernel_rfl) ?_ ?_
  rotate_left
  · intro _; go_simp; try with_reducible rfl
  simp only [Act.put, List.setIfInBounds_toArray, List.set_cons_zero, List.set_cons_succ]
  refine wpAnyG_any (i := 1) (v := ?_) rfl (by kernel_rfl) (by kernel_rfl) (by kernel_rfl) (fun _ _ _ h => h) (by kernel_rfl) (fun _ => hS) (by kernel_rfl) ?_ ?_
  rotate_left
  · intro _; go_simp; try with_reducible rfl
  simp only [Act.put, List.setIfInBounds_toArray, List.set_cons_zero, List.set_cons_succ]
  refine wpAnyG_any (i := 2) (v := ?_) rfl (by kernel_rfl) (by kernel_rfl) (by kernel_rfl) (fun _ _ _ h => h) (by kernel_rfl) (fun _ => hS) (by kernel_rfl) ?_ ?_
  rotate_left
  · intro _; go_simp; try with_reducible rfl
  simp only [Act.put, List.setIfInBounds_toArray, List.set_cons_zero, List.set_cons_succ]
  refine wpAnyG_any (i := 3) (v := ?_) rfl (by kernel_rfl) (by kernel_rfl) (by kernel_rfl) (fun _ _ _ h => h) (by kernel_rfl) (fun _ => hS) (by kernel_rfl) ?_ ?_
  rotate_left
  · intro _; go_simp; try with_reducible rfl
  simp only [Act.put, List.setIfInBounds_toArray, List.set_cons_zero, List.set_cons_succ]
  refine wpAnyG_any (i := 4) (v := ?_) rfl (by kernel_rfl) (by kernel_rfl) (by kernel_rfl) (fun _ _ _ h => h) (by kernel_rfl) (fun _ => hS) (by kernel_rfl) ?_ ?_
  rotate_left
  · intro _; go_simp; try with_reducible rfl
  simp only [Act.put, List.setIfInBounds_toArray, List.set_cons_zero, List.set_cons_succ]
  refine wpAnyG_any (i := 5) (v := ?_) rfl (by kernel_rfl) (by kernel_rfl) (by kernel_rfl) (fun _ _ _ h => h) (by kernel_rfl) (fun _ => hS) (by kernel_rfl) ?_ ?_
  rotate_left
  · intro _; go_simp; try with_reducible rfl
  simp only [Act.put, List.setIfInBounds_toArray, List.set_cons_zero, List.set_cons_succ]
  refine wpAnyG_load (i := 6) (dst := some 16) (ty := 95) (x := .tmp 15) (b := g) (o := (5)) (cs := (R.map (Value.int .u64))) (by kernel_rfl) (by kernel_rfl) (by kernel_rfl) (by kernel_rfl) (by kernel_rfl) (fun _ _ _ h => h) (by kernel_rfl) (by kernel_rfl) (by kernel_rfl) hS (by kernel_rfl) (fun _ h => h) uF rfl iF ?_
  simp only [Act.put, List.setIfInBounds_toArray, List.set_cons_zero, List.set_cons_succ]
  refine wpAnyG_one (i := 7) rfl (by kernel_rfl) (by kernel_rfl) (fun K hK => ?_)
  go_wp2_with (go_at_call 58; refine (hti' _ hA2.drew).mono ?_; rintro e w4 ⟨⟨r, rfl⟩, hA4, hG4⟩)
  refine hK.out _ _ (fun h => absurd (show true = false from h) (by decide)) ?_
  clear hK K
  refine wpAnyG_done (by kernel_rfl) ?_ _
  go_wp2
  go_end0
  exact ⟨⟨_, rfl⟩, hA4, (grown_drew hG3).trans hG4⟩
end Go.Proofs.YtgeiiadlchimhaaDoor
