/- The statement AeadUnlike, walked. (Written by mkunlike.py.) -/
import Derived.Test.YtnblcdpahpcglabAn6
import Derived.Test.YtnblcdpahpcglabAa
import Derived.Test.YtnblcdpahpcglabStrC
namespace Go.Proofs.Ytnblcdpahpcglab
open Go.RowKit
set_option maxRecDepth 20000
set_option linter.unusedSimpArgs false

/-- Block g holds two slices, and may be written. -/
def TwoAt (w : World) (g : Nat) (u v : Value) : Prop := w.heap[g]? = some (.cells #[u, v] 35 (0, 0))
theorem TwoAt.lt {w : World} {g : Nat} {u v : Value} (h : TwoAt w g u v) : g < w.heap.size := (Array.getElem?_eq_some_iff.1 h).1
theorem TwoAt.below {w w' : World} {B g : Nat} {u v : Value} (h : TwoAt w g u v) (hb : Below B w w') (hg : g < B) : TwoAt w' g u v := by
  unfold TwoAt at h ⊢; rw [hb.block g hg]; exact h
theorem TwoAt.c0 {w : World} {g : Nat} {u v : Value} (h : TwoAt w g u v) : w.cell? ⟨g, 0, none⟩ = some u := by rw [cell_of_row w g 0 _ _ _ h]; rfl
theorem TwoAt.c1 {w : World} {g : Nat} {u v : Value} (h : TwoAt w g u v) : w.cell? ⟨g, 1, none⟩ = some v := by rw [cell_of_row w g 1 _ _ _ h]; rfl
theorem TwoAt.frozen {w : World} {g : Nat} {u v : Value} (h : TwoAt w g u v) (j : Nat) : w.frozen? ⟨g, j, none⟩ = false := frozen_of_row w g j _ _ h
theorem TwoAt.set0 {w : World} {g : Nat} {u v : Value} (h : TwoAt w g u v) (x : Value) : TwoAt (w.setCell ⟨g, 0, none⟩ x) g x v := by
  unfold TwoAt at h ⊢; rw [heap_setCell_same w g 0 _ _ _ h]; rfl
theorem TwoAt.set1 {w : World} {g : Nat} {u v : Value} (h : TwoAt w g u v) (x : Value) : TwoAt (w.setCell ⟨g, 1, none⟩ x) g u x := by
  unfold TwoAt at h ⊢; rw [heap_setCell_same w g 1 _ _ _ h]; rfl
theorem TwoAt.other {w : World} {g : Nat} {u v : Value} (h : TwoAt w g u v) (a : Addr) (x : Value) (hne : g ≠ a.block) : TwoAt (w.setCell a x) g u v := by
  unfold TwoAt at h ⊢; rw [heap_setCell_other w a g x hne]; exact h

set_option maxHeartbeats 8000000 in
theorem unlike_walk (xa : Option Addr) (la ca : Nat) (za : List Int) (xb : Option Addr) (lb cb : Nat) (zb : List Int) (xc : Option Addr) (lc cc : Nat) (zc : List Int) (xd : Option Addr) (ld cd : Nat) (zd : List Int) (w : World)
    (ha : Bytes w xa la ca za) (hua : ∀ v ∈ za, 0 ≤ v ∧ v ≤ 255) (hb : Bytes w xb lb cb zb) (hub : ∀ v ∈ zb, 0 ≤ v ∧ v ≤ 255) (hc : Bytes w xc lc cc zc) (huc : ∀ v ∈ zc, 0 ≤ v ∧ v ≤ 255) (hd : Bytes w xd ld cd zd) (hud : ∀ v ∈ zd, 0 ≤ v ∧ v ≤ 255) :
    Calls Try.prog 4 #[.agg #[.slice xa la ca, .slice xb lb cb], .agg #[.slice xc lc cc, .slice xd ld cd]] w fun e w' => e = .returned (.bool true) ∧ Below w.heap.size w w' := by
  have hfa : ∀ wx, Below w.heap.size w wx → Calls Try.prog 6 #[.slice xa la ca, .int .i64 200] wx fun e w' => e = .returned (.slice xa (min la 200) ca) ∧ wx = w' := fun wx hbw => few5_any xa la ca 200 za wx (ha.below hbw) (by omega) (by omega)
  have ba := ha.few 200
  have ua : ∀ v ∈ za.take 200, isB v := fun v hv => hua v (List.mem_of_mem_take hv)
  obtain ⟨ma, hma⟩ : ∃ q, min la 200 = q := ⟨_, rfl⟩
  have hla : ma ≤ 200 := by omega
  rw [hma] at hfa ba
  obtain ⟨Za, hZa⟩ : ∃ q, za.take 200 = q := ⟨_, rfl⟩
  rw [hZa] at ba ua
  clear hma hZa ha hua
  have hfb : ∀ wx, Below w.heap.size w wx → Calls Try.prog 6 #[.slice xb lb cb, .int .i64 200] wx fun e w' => e = .returned (.slice xb (min lb 200) cb) ∧ wx = w' := fun wx hbw => few5_any xb lb cb 200 zb wx (hb.below hbw) (by omega) (by omega)
  have bb := hb.few 200
  have ub : ∀ v ∈ zb.take 200, isB v := fun v hv => hub v (List.mem_of_mem_take hv)
  obtain ⟨mb, hmb⟩ : ∃ q, min lb 200 = q := ⟨_, rfl⟩
  have hlb : mb ≤ 200 := by omega
  rw [hmb] at hfb bb
  obtain ⟨Zb, hZb⟩ : ∃ q, zb.take 200 = q := ⟨_, rfl⟩
  rw [hZb] at bb ub
  clear hmb hZb hb hub
  have hfc : ∀ wx, Below w.heap.size w wx → Calls Try.prog 6 #[.slice xc lc cc, .int .i64 200] wx fun e w' => e = .returned (.slice xc (min lc 200) cc) ∧ wx = w' := fun wx hbw => few5_any xc lc cc 200 zc wx (hc.below hbw) (by omega) (by omega)
  have bc := hc.few 200
  have uc : ∀ v ∈ zc.take 200, isB v := fun v hv => huc v (List.mem_of_mem_take hv)
  obtain ⟨mc, hmc⟩ : ∃ q, min lc 200 = q := ⟨_, rfl⟩
  have hlc : mc ≤ 200 := by omega
  rw [hmc] at hfc bc
  obtain ⟨Zc, hZc⟩ : ∃ q, zc.take 200 = q := ⟨_, rfl⟩
  rw [hZc] at bc uc
  clear hmc hZc hc huc
  have hfd : ∀ wx, Below w.heap.size w wx → Calls Try.prog 6 #[.slice xd ld cd, .int .i64 200] wx fun e w' => e = .returned (.slice xd (min ld 200) cd) ∧ wx = w' := fun wx hbw => few5_any xd ld cd 200 zd wx (hd.below hbw) (by omega) (by omega)
  have bd := hd.few 200
  have ud : ∀ v ∈ zd.take 200, isB v := fun v hv => hud v (List.mem_of_mem_take hv)
  obtain ⟨md, hmd⟩ : ∃ q, min ld 200 = q := ⟨_, rfl⟩
  have hld : md ≤ 200 := by omega
  rw [hmd] at hfd bd
  obtain ⟨Zd, hZd⟩ : ∃ q, zd.take 200 = q := ⟨_, rfl⟩
  rw [hZd] at bd ud
  clear hmd hZd hd hud
  have e0 := strEq Za Zc ua uc
  have e1 := strEq Zb Zd ub ud
  have eF := strEq (framedL Za Zb) (framedL Zc Zd) (framedL_in Za Zb ua ub) (framedL_in Zc Zd uc ud)
  have hin : (framedL Za Zb == framedL Zc Zd) = ((Za == Zc) && (Zb == Zd)) := by
    rw [Bool.eq_iff_iff, Bool.and_eq_true, beq_iff_eq, beq_iff_eq, beq_iff_eq]
    constructor
    · exact framed_inj Za Zb Zc Zd (by rw [← ba.len_eq]; omega) (by rw [← bb.len_eq]; omega) (by rw [← bc.len_eq]; omega) (by rw [← bd.len_eq]; omega)
    · rintro ⟨rfl, rfl⟩; rfl
  rw [hin] at eF
  have hga := fun wx (h : Below w.heap.size w wx) => framed_any xa ma ca Za xb mb cb Zb wx (ba.below h) (bb.below h) (by omega) (by omega)
  have hgc := fun wx (h : Below w.heap.size w wx) => framed_any xc mc cc Zc xd md cd Zd wx (bc.below h) (bd.below h) (by omega) (by omega)
  obtain ⟨FA, hFA⟩ : ∃ q, framedL Za Zb = q := ⟨_, rfl⟩
  obtain ⟨FC, hFC⟩ : ∃ q, framedL Zc Zd = q := ⟨_, rfl⟩
  rw [hFA] at hga eF
  rw [hFC] at hgc eF
  obtain ⟨p0, hp0⟩ : ∃ q, (Za == Zc) = q := ⟨_, rfl⟩
  obtain ⟨p1, hp1⟩ : ∃ q, (Zb == Zd) = q := ⟨_, rfl⟩
  rw [hp0] at e0 eF
  rw [hp1] at e1 eF
  clear hin hFA hFC hp0 hp1 ua ub uc ud
  have hA0 : TwoAt ((w.alloc (.cells #[.slice xa la ca, .slice xb lb cb] 35)).alloc (.cells #[.slice xc lc cc, .slice xd ld cd] 35)) w.heap.size (.slice xa la ca) (.slice xb lb cb) := TwoAt.below (w := w.alloc (.cells #[.slice xa la ca, .slice xb lb cb] 35)) (heap_alloc_new w _) ((Below.refl _ _).alloc (Nat.le_refl _) _) (by simp)
  have hC0 : TwoAt ((w.alloc (.cells #[.slice xa la ca, .slice xb lb cb] 35)).alloc (.cells #[.slice xc lc cc, .slice xd ld cd] 35)) (w.heap.size + 1) (.slice xc lc cc) (.slice xd ld cd) := by
    have : TwoAt ((w.alloc (.cells #[.slice xa la ca, .slice xb lb cb] 35)).alloc (.cells #[.slice xc lc cc, .slice xd ld cd] 35)) (w.alloc (.cells #[.slice xa la ca, .slice xb lb cb] 35)).heap.size (.slice xc lc cc) (.slice xd ld cd) := heap_alloc_new _ _
    rw [World.size_alloc] at this
    exact this
  have hB0 : Below w.heap.size w ((w.alloc (.cells #[.slice xa la ca, .slice xb lb cb] 35)).alloc (.cells #[.slice xc lc cc, .slice xd ld cd] 35)) := ((Below.refl _ _).alloc (Nat.le_refl _) _).alloc (by simp) _
  go_enter Try.func4, Try.ntmps4
  go_upto_region 1 with fail
  refine forget (p := fun y => Code.wp _ _ _ _ y) (fun W0 => Below w.heap.size w W0 ∧ TwoAt W0 w.heap.size (.slice xa la ca) (.slice xb lb cb) ∧ TwoAt W0 (w.heap.size + 1) (.slice xc lc cc) (.slice xd ld cd)) ⟨hB0, hA0, hC0⟩ ?_
  clear hA0 hC0 hB0
  rintro W0 ⟨hB0, hA0, hC0⟩
  go_wp2_with fail
  go_loopw [5] (fun iv wr => Below w.heap.size w wr ∧ ((iv = .int .i64 0 ∧ TwoAt wr w.heap.size (.slice xa la ca) (.slice xb lb cb) ∧ TwoAt wr (w.heap.size + 1) (.slice xc lc cc) (.slice xd ld cd)) ∨ (iv = .int .i64 1 ∧ TwoAt wr w.heap.size (.slice xa ma ca) (.slice xb lb cb) ∧ TwoAt wr (w.heap.size + 1) (.slice xc mc cc) (.slice xd ld cd)) ∨ (iv = .int .i64 2 ∧ TwoAt wr w.heap.size (.slice xa ma ca) (.slice xb mb cb) ∧ TwoAt wr (w.heap.size + 1) (.slice xc mc cc) (.slice xd md cd)))) (fun iv _ => 2 - (intOf iv).toNat)
  case atStart => exact ⟨hB0, .inl ⟨rfl, hA0, hC0⟩⟩
  case round =>
    clear hA0 hC0 hB0
    obtain ⟨hB, ⟨rfl, hA, hC⟩ | ⟨rfl, hA, hC⟩ | ⟨rfl, hA, hC⟩⟩ := hrel
    · have cA := hA.c0
      have cC := hC.c0
      have fA := hA.frozen 0
      have fC := hC.frozen 0
      go_upto_region 4 with fail
      refine wp_region_gate (fun w' => w'.cell? ⟨w.heap.size + 1, 0, none⟩ = some (.slice xc lc cc)) 13 (by kernel_rfl) ?_
      have hS : (fun w' : World => w'.cell? ⟨w.heap.size + 1, 0, none⟩ = some (.slice xc lc cc)) wr.drew := cC
      refine wpAnyG_any (i := 0) (v := ?_) rfl (by kernel_rfl) (by kernel_rfl) (by kernel_rfl) (fun _ _ _ h => h) (by kernel_rfl) (fun _ => hS) (by kernel_rfl) ?_ ?_
      rotate_left
      · intro _; go_simp; try with_reducible rfl
      simp only [Act.put, List.setIfInBounds_toArray, List.set_cons_zero, List.set_cons_succ]
      refine wpAnyG_any (i := 1) (v := ?_) rfl (by kernel_rfl) (by kernel_rfl) (by kernel_rfl) (fun _ _ _ h => h) (by kernel_rfl) (fun _ => hS) (by kernel_rfl) ?_ ?_
      rotate_left
      · intro _; go_simp; try with_reducible rfl
      simp only [Act.put, List.setIfInBounds_toArray, List.set_cons_zero, List.set_cons_succ]
      refine wpAnyG_any (i := 2) (v := ?_) rfl (by kernel_rfl) (by kernel_rfl) (by kernel_rfl) (fun _ _ _ h => h) (by kernel_rfl) (fun _ => hS) (by kernel_rfl) ?_ ?_
      rotate_left
      · intro _; go_simp; try with_reducible rfl
      simp only [Act.put, List.setIfInBounds_toArray, List.set_cons_zero, List.set_cons_succ]
      refine wpAnyG_any (i := 3) (v := ?_) rfl (by kernel_rfl) (by kernel_rfl) (by kernel_rfl) (fun _ _ _ h => h) (by kernel_rfl) (fun _ => hS) (by kernel_rfl) ?_ ?_
      rotate_left
      · intro _; go_simp; try with_reducible rfl
      simp only [Act.put, List.setIfInBounds_toArray, List.set_cons_zero, List.set_cons_succ]
      refine wpAnyG_any (i := 6) (v := ?_) rfl (by kernel_rfl) (by kernel_rfl) (by kernel_rfl) (fun _ _ _ h => h) (by kernel_rfl) (fun _ => hS) (by kernel_rfl) ?_ ?_
      rotate_left
      · intro _; go_simp; try with_reducible rfl
      simp only [Act.put, List.setIfInBounds_toArray, List.set_cons_zero, List.set_cons_succ]
      refine wpAnyG_any (i := 7) (v := ?_) rfl (by kernel_rfl) (by kernel_rfl) (by kernel_rfl) (fun _ _ _ h => h) (by kernel_rfl) (fun _ => hS) (by kernel_rfl) ?_ ?_
      rotate_left
      · intro _; go_simp; try with_reducible rfl
      simp only [Act.put, List.setIfInBounds_toArray, List.set_cons_zero, List.set_cons_succ]
      refine wpAnyG_read (i := 8) (v := ?_) rfl (by kernel_rfl) (by kernel_rfl) (by kernel_rfl) (fun _ _ _ h => h) (by kernel_rfl) (by kernel_rfl) (by kernel_rfl) hS (by kernel_rfl) ?_ ?_
      rotate_left
      · intro wx hSw; go_split_ands; go_simp; try with_reducible rfl
      simp only [Act.put, List.setIfInBounds_toArray, List.set_cons_zero, List.set_cons_succ]
      refine wpAnyG_one (i := 4) rfl (by kernel_rfl) (by kernel_rfl) (fun K hK => ?_)
      go_simp
      refine hK.out _ _ (fun _ => hS) ?_
      clear hK K
      refine wpAnyG_one (i := 5) rfl (by kernel_rfl) (by kernel_rfl) (fun K hK => ?_)
      go_wp2_with (go_at_call 6; refine (hfa _ hB.drew).mono ?_; rintro e w3 ⟨rfl, rfl⟩)
      refine hK.out _ _ (fun _ => hS) ?_
      clear hK K
      refine wpAnyG_any (i := 10) (v := ?_) rfl (by kernel_rfl) (by kernel_rfl) (by kernel_rfl) (fun _ _ _ h => h) (by kernel_rfl) (fun _ => hS) (by kernel_rfl) ?_ ?_
      rotate_left
      · intro _; go_simp; try with_reducible rfl
      simp only [Act.put, List.setIfInBounds_toArray, List.set_cons_zero, List.set_cons_succ]
      refine wpAnyG_one (i := 9) rfl (by kernel_rfl) (by kernel_rfl) (fun K hK => ?_)
      go_wp2_with (go_at_call 6; refine (hfc _ hB.drew).mono ?_; rintro e w3 ⟨rfl, rfl⟩)
      refine hK.out _ _ (fun _ => hS) ?_
      clear hK K
      refine wpAnyG_one (i := 11) rfl (by kernel_rfl) (by kernel_rfl) (fun K hK => ?_)
      go_simp
      replace hS : (fun w' : World => w'.cell? ⟨w.heap.size + 1, 0, none⟩ = some (.slice xc lc cc)) (wr.setCell ⟨w.heap.size, 0, none⟩ (.slice xa ma ca)).drew := (hC.other ⟨w.heap.size, 0, none⟩ (.slice xa ma ca) (by simp)).c0
      have fC2 := (hC.other ⟨w.heap.size, 0, none⟩ (.slice xa ma ca) (by simp)).frozen 0
      have cC2 := (hC.other ⟨w.heap.size, 0, none⟩ (.slice xa ma ca) (by simp)).c0
      refine hK.out _ _ (fun _ => hS) ?_
      clear hK K
      refine wpAnyG_any (i := 12) (v := ?_) rfl (by kernel_rfl) (by kernel_rfl) (by kernel_rfl) (fun _ _ _ h => h) (by kernel_rfl) (fun _ => hS) (by kernel_rfl) ?_ ?_
      rotate_left
      · intro _; go_simp; try with_reducible rfl
      simp only [Act.put, List.setIfInBounds_toArray, List.set_cons_zero, List.set_cons_succ]
      refine wpAnyG_one (i := 13) rfl (by kernel_rfl) (by kernel_rfl) (fun K hK => ?_)
      go_simp
      refine hK.out _ _ (fun h => absurd (show true = false from h) (by decide)) ?_
      clear hK K
      refine wpAnyG_done (by kernel_rfl) ?_ _
      go_wp2
      go_roundw
      case rel =>
        refine ⟨((hB.setCell (by simp) _).setCell (by simp) _).drew, .inr (.inl ⟨rfl, ?_, ?_⟩)⟩
        · exact ((hA.set0 _).other _ _ (by simp))
        · exact ((hC.other _ _ (by simp)).set0 _)
      case measure => simp [intOf]
    · have cA := hA.c1
      have cC := hC.c1
      have fA := hA.frozen 1
      have fC := hC.frozen 1
      go_upto_region 4 with fail
      refine wp_region_gate (fun w' => w'.cell? ⟨w.heap.size + 1, 1, none⟩ = some (.slice xd ld cd)) 13 (by kernel_rfl) ?_
      have hS : (fun w' : World => w'.cell? ⟨w.heap.size + 1, 1, none⟩ = some (.slice xd ld cd)) wr.drew := cC
      refine wpAnyG_any (i := 0) (v := ?_) rfl (by kernel_rfl) (by kernel_rfl) (by kernel_rfl) (fun _ _ _ h => h) (by kernel_rfl) (fun _ => hS) (by kernel_rfl) ?_ ?_
      rotate_left
      · intro _; go_simp; try with_reducible rfl
      simp only [Act.put, List.setIfInBounds_toArray, List.set_cons_zero, List.set_cons_succ]
      refine wpAnyG_any (i := 1) (v := ?_) rfl (by kernel_rfl) (by kernel_rfl) (by kernel_rfl) (fun _ _ _ h => h) (by kernel_rfl) (fun _ => hS) (by kernel_rfl) ?_ ?_
      rotate_left
      · intro _; go_simp; try with_reducible rfl
      simp only [Act.put, List.setIfInBounds_toArray, List.set_cons_zero, List.set_cons_succ]
      refine wpAnyG_any (i := 2) (v := ?_) rfl (by kernel_rfl) (by kernel_rfl) (by kernel_rfl) (fun _ _ _ h => h) (by kernel_rfl) (fun _ => hS) (by kernel_rfl) ?_ ?_
      rotate_left
      · intro _; go_simp; try with_reducible rfl
      simp only [Act.put, List.setIfInBounds_toArray, List.set_cons_zero, List.set_cons_succ]
      refine wpAnyG_any (i := 3) (v := ?_) rfl (by kernel_rfl) (by kernel_rfl) (by kernel_rfl) (fun _ _ _ h => h) (by kernel_rfl) (fun _ => hS) (by kernel_rfl) ?_ ?_
      rotate_left
      · intro _; go_simp; try with_reducible rfl
      simp only [Act.put, List.setIfInBounds_toArray, List.set_cons_zero, List.set_cons_succ]
      refine wpAnyG_any (i := 6) (v := ?_) rfl (by kernel_rfl) (by kernel_rfl) (by kernel_rfl) (fun _ _ _ h => h) (by kernel_rfl) (fun _ => hS) (by kernel_rfl) ?_ ?_
      rotate_left
      · intro _; go_simp; try with_reducible rfl
      simp only [Act.put, List.setIfInBounds_toArray, List.set_cons_zero, List.set_cons_succ]
      refine wpAnyG_any (i := 7) (v := ?_) rfl (by kernel_rfl) (by kernel_rfl) (by kernel_rfl) (fun _ _ _ h => h) (by kernel_rfl) (fun _ => hS) (by kernel_rfl) ?_ ?_
      rotate_left
      · intro _; go_simp; try with_reducible rfl
      simp only [Act.put, List.setIfInBounds_toArray, List.set_cons_zero, List.set_cons_succ]
      refine wpAnyG_read (i := 8) (v := ?_) rfl (by kernel_rfl) (by kernel_rfl) (by kernel_rfl) (fun _ _ _ h => h) (by kernel_rfl) (by kernel_rfl) (by kernel_rfl) hS (by kernel_rfl) ?_ ?_
      rotate_left
      · intro wx hSw; go_split_ands; go_simp; try with_reducible rfl
      simp only [Act.put, List.setIfInBounds_toArray, List.set_cons_zero, List.set_cons_succ]
      refine wpAnyG_one (i := 4) rfl (by kernel_rfl) (by kernel_rfl) (fun K hK => ?_)
      go_simp
      refine hK.out _ _ (fun _ => hS) ?_
      clear hK K
      refine wpAnyG_one (i := 5) rfl (by kernel_rfl) (by kernel_rfl) (fun K hK => ?_)
      go_wp2_with (go_at_call 6; refine (hfb _ hB.drew).mono ?_; rintro e w3 ⟨rfl, rfl⟩)
      refine hK.out _ _ (fun _ => hS) ?_
      clear hK K
      refine wpAnyG_any (i := 10) (v := ?_) rfl (by kernel_rfl) (by kernel_rfl) (by kernel_rfl) (fun _ _ _ h => h) (by kernel_rfl) (fun _ => hS) (by kernel_rfl) ?_ ?_
      rotate_left
      · intro _; go_simp; try with_reducible rfl
      simp only [Act.put, List.setIfInBounds_toArray, List.set_cons_zero, List.set_cons_succ]
      refine wpAnyG_one (i := 9) rfl (by kernel_rfl) (by kernel_rfl) (fun K hK => ?_)
      go_wp2_with (go_at_call 6; refine (hfd _ hB.drew).mono ?_; rintro e w3 ⟨rfl, rfl⟩)
      refine hK.out _ _ (fun _ => hS) ?_
      clear hK K
      refine wpAnyG_one (i := 11) rfl (by kernel_rfl) (by kernel_rfl) (fun K hK => ?_)
      go_simp
      replace hS : (fun w' : World => w'.cell? ⟨w.heap.size + 1, 1, none⟩ = some (.slice xd ld cd)) (wr.setCell ⟨w.heap.size, 1, none⟩ (.slice xb mb cb)).drew := (hC.other ⟨w.heap.size, 1, none⟩ (.slice xb mb cb) (by simp)).c1
      have fC2 := (hC.other ⟨w.heap.size, 1, none⟩ (.slice xb mb cb) (by simp)).frozen 1
      have cC2 := (hC.other ⟨w.heap.size, 1, none⟩ (.slice xb mb cb) (by simp)).c1
      refine hK.out _ _ (fun _ => hS) ?_
      clear hK K
      refine wpAnyG_any (i := 12) (v := ?_) rfl (by kernel_rfl) (by kernel_rfl) (by kernel_rfl) (fun _ _ _ h => h) (by kernel_rfl) (fun _ => hS) (by kernel_rfl) ?_ ?_
      rotate_left
      · intro _; go_simp; try with_reducible rfl
      simp only [Act.put, List.setIfInBounds_toArray, List.set_cons_zero, List.set_cons_succ]
      refine wpAnyG_one (i := 13) rfl (by kernel_rfl) (by kernel_rfl) (fun K hK => ?_)
      go_simp
      refine hK.out _ _ (fun h => absurd (show true = false from h) (by decide)) ?_
      clear hK K
      refine wpAnyG_done (by kernel_rfl) ?_ _
      go_wp2
      go_roundw
      case rel =>
        refine ⟨((hB.setCell (by simp) _).setCell (by simp) _).drew, .inr (.inr ⟨rfl, ?_, ?_⟩)⟩
        · exact ((hA.set1 _).other _ _ (by simp))
        · exact ((hC.other _ _ (by simp)).set1 _)
      case measure => simp [intOf]
    · have cA0 := hA.c0
      have cA1 := hA.c1
      have cC0 := hC.c0
      have cC1 := hC.c1
      have va := conv_bytes (ba.below hB)
      have vb := conv_bytes (bb.below hB)
      have vc := conv_bytes (bc.below hB)
      have vd := conv_bytes (bd.below hB)
      obtain ⟨SA, hSA⟩ : ∃ q, strOfNums Za = q := ⟨_, rfl⟩
      obtain ⟨SB, hSB⟩ : ∃ q, strOfNums Zb = q := ⟨_, rfl⟩
      obtain ⟨SC, hSC⟩ : ∃ q, strOfNums Zc = q := ⟨_, rfl⟩
      obtain ⟨SD, hSD⟩ : ∃ q, strOfNums Zd = q := ⟨_, rfl⟩
      rw [hSA] at va e0
      rw [hSB] at vb e1
      rw [hSC] at vc e0
      rw [hSD] at vd e1
      obtain ⟨TA, hTA⟩ : ∃ q, strOfNums FA = q := ⟨_, rfl⟩
      obtain ⟨TC, hTC⟩ : ∃ q, strOfNums FC = q := ⟨_, rfl⟩
      rw [hTA, hTC] at eF
      have keep : ∀ w', Below wr.heap.size wr w' → w'.cell? ⟨w.heap.size, 0, none⟩ = some (.slice xa ma ca) ∧ w'.cell? ⟨w.heap.size, 1, none⟩ = some (.slice xb mb cb) ∧ w'.cell? ⟨w.heap.size + 1, 0, none⟩ = some (.slice xc mc cc) ∧ w'.cell? ⟨w.heap.size + 1, 1, none⟩ = some (.slice xd md cd) := fun w' h => ⟨(hA.below h hA.lt).c0, (hA.below h hA.lt).c1, (hC.below h hC.lt).c0, (hC.below h hC.lt).c1⟩
      have hg1 : ∀ wx, Below wr.heap.size wr wx → Calls Try.prog 8 #[.slice xa ma ca, .slice xb mb cb] wx fun e w' => ∃ x' n' c', e = .returned (.slice x' n' c') ∧ Bytes w' x' n' c' FA ∧ Below wx.heap.size wx w' := fun wx h => (hga wx (hB.trans (h.mono hB.size))).mono fun e w' ⟨u, h1, h2, h3⟩ => by
        obtain ⟨x', n', c', rfl, _⟩ := h2.isSlice
        exact ⟨x', n', c', h1, h2.bytes.2, h3⟩
      have hg2 : ∀ wx, Below wr.heap.size wr wx → Calls Try.prog 8 #[.slice xc mc cc, .slice xd md cd] wx fun e w' => ∃ x' n' c', e = .returned (.slice x' n' c') ∧ Bytes w' x' n' c' FC ∧ Below wx.heap.size wx w' := fun wx h => (hgc wx (hB.trans (h.mono hB.size))).mono fun e w' ⟨u, h1, h2, h3⟩ => by
        obtain ⟨x', n', c', rfl, _⟩ := h2.isSlice
        exact ⟨x', n', c', h1, h2.bytes.2, h3⟩
      have HTA : Veil (strOfNums FA = TA) := ⟨hTA⟩
      have HTC : Veil (strOfNums FC = TC) := ⟨hTC⟩
      clear hSA hSB hSC hSD hTA hTC hga hgc hfa hfb hfc hfd ba bb bc bd hA hC
      cases p0 <;> cases p1
      · have eF2 : (TA.toList == TC.toList) = false := eF
        clear eF
        go_upto_region 6 with fail
        refine wp_region_gate (fun w' => w'.cell? ⟨w.heap.size, 0, none⟩ = some (.slice xa ma ca) ∧ w'.cell? ⟨w.heap.size, 1, none⟩ = some (.slice xb mb cb) ∧ w'.cell? ⟨w.heap.size + 1, 0, none⟩ = some (.slice xc mc cc) ∧ w'.cell? ⟨w.heap.size + 1, 1, none⟩ = some (.slice xd md cd)) 18 (by kernel_rfl) ?_
        refine wpAnyG_one (i := 0) rfl (by kernel_rfl) (by kernel_rfl) (fun K hK => ?_)
        go_wp2_with (go_at_call 7; refine (live5_any _).mono ?_; rintro e w3 ⟨rfl, hb3⟩)
        have hB3 : Below wr.heap.size wr w3 := ((Below.refl _ _).drew).trans hb3
        have hS := keep _ hB3
        refine hK.out _ _ (fun _ => hS) ?_
        clear hK K
        refine wpAnyG_any (i := 1) (v := ?_) rfl (by kernel_rfl) (by kernel_rfl) (by kernel_rfl) (fun _ _ _ h => h) (by kernel_rfl) (fun _ => hS) (by kernel_rfl) ?_ ?_
        rotate_left
        · intro _; go_simp; try with_reducible rfl
        simp only [Act.put, List.setIfInBounds_toArray, List.set_cons_zero, List.set_cons_succ]
        refine wpAnyG_any (i := 2) (v := ?_) rfl (by kernel_rfl) (by kernel_rfl) (by kernel_rfl) (fun _ _ _ h => h) (by kernel_rfl) (fun _ => hS) (by kernel_rfl) ?_ ?_
        rotate_left
        · intro _; go_simp; try with_reducible rfl
        simp only [Act.put, List.setIfInBounds_toArray, List.set_cons_zero, List.set_cons_succ]
        refine wpAnyG_read (i := 3) (v := ?_) rfl (by kernel_rfl) (by kernel_rfl) (by kernel_rfl) (fun _ _ _ h => h) (by kernel_rfl) (by kernel_rfl) (by kernel_rfl) hS (by kernel_rfl) ?_ ?_
        rotate_left
        · intro wx hSw; go_split_ands; go_simp; try with_reducible rfl
        simp only [Act.put, List.setIfInBounds_toArray, List.set_cons_zero, List.set_cons_succ]
        refine wpAnyG_any (i := 4) (v := ?_) rfl (by kernel_rfl) (by kernel_rfl) (by kernel_rfl) (fun _ _ _ h => h) (by kernel_rfl) (fun _ => hS) (by kernel_rfl) ?_ ?_
        rotate_left
        · intro _; go_simp; try with_reducible rfl
        simp only [Act.put, List.setIfInBounds_toArray, List.set_cons_zero, List.set_cons_succ]
        refine wpAnyG_read (i := 5) (v := ?_) rfl (by kernel_rfl) (by kernel_rfl) (by kernel_rfl) (fun _ _ _ h => h) (by kernel_rfl) (by kernel_rfl) (by kernel_rfl) hS (by kernel_rfl) ?_ ?_
        rotate_left
        · intro wx hSw; go_split_ands; go_simp; try with_reducible rfl
        simp only [Act.put, List.setIfInBounds_toArray, List.set_cons_zero, List.set_cons_succ]
        refine wpAnyG_any (i := 8) (v := ?_) rfl (by kernel_rfl) (by kernel_rfl) (by kernel_rfl) (fun _ _ _ h => h) (by kernel_rfl) (fun _ => hS) (by kernel_rfl) ?_ ?_
        rotate_left
        · intro _; go_simp; try with_reducible rfl
        simp only [Act.put, List.setIfInBounds_toArray, List.set_cons_zero, List.set_cons_succ]
        refine wpAnyG_read (i := 9) (v := ?_) rfl (by kernel_rfl) (by kernel_rfl) (by kernel_rfl) (fun _ _ _ h => h) (by kernel_rfl) (by kernel_rfl) (by kernel_rfl) hS (by kernel_rfl) ?_ ?_
        rotate_left
        · intro wx hSw; go_split_ands; go_simp; try with_reducible rfl
        simp only [Act.put, List.setIfInBounds_toArray, List.set_cons_zero, List.set_cons_succ]
        refine wpAnyG_any (i := 10) (v := ?_) rfl (by kernel_rfl) (by kernel_rfl) (by kernel_rfl) (fun _ _ _ h => h) (by kernel_rfl) (fun _ => hS) (by kernel_rfl) ?_ ?_
        rotate_left
        · intro _; go_simp; try with_reducible rfl
        simp only [Act.put, List.setIfInBounds_toArray, List.set_cons_zero, List.set_cons_succ]
        refine wpAnyG_read (i := 11) (v := ?_) rfl (by kernel_rfl) (by kernel_rfl) (by kernel_rfl) (fun _ _ _ h => h) (by kernel_rfl) (by kernel_rfl) (by kernel_rfl) hS (by kernel_rfl) ?_ ?_
        rotate_left
        · intro wx hSw; go_split_ands; go_simp; try with_reducible rfl
        simp only [Act.put, List.setIfInBounds_toArray, List.set_cons_zero, List.set_cons_succ]
        refine wpAnyG_any (i := 15) (v := ?_) rfl (by kernel_rfl) (by kernel_rfl) (by kernel_rfl) (fun _ _ _ h => h) (by kernel_rfl) (fun _ => hS) (by kernel_rfl) ?_ ?_
        rotate_left
        · intro _; go_simp; try with_reducible rfl
        simp only [Act.put, List.setIfInBounds_toArray, List.set_cons_zero, List.set_cons_succ]
        refine wpAnyG_one (i := 6) rfl (by kernel_rfl) (by kernel_rfl) (fun K hK => ?_)
        go_wp2_with (go_at_call 8; refine (hg1 _ hB3).mono ?_; rintro e w4 ⟨x4, n4, c4, rfl, hY4, hb4⟩)
        have hB4 : Below wr.heap.size wr w4 := hB3.trans (hb4.mono hB3.size)
        replace hS := keep _ hB4
        refine hK.out _ _ (fun _ => hS) ?_
        clear hK K
        refine wpAnyG_more (S' := fun w' => (w'.cell? ⟨w.heap.size, 0, none⟩ = some (.slice xa ma ca) ∧ w'.cell? ⟨w.heap.size, 1, none⟩ = some (.slice xb mb cb) ∧ w'.cell? ⟨w.heap.size + 1, 0, none⟩ = some (.slice xc mc cc) ∧ w'.cell? ⟨w.heap.size + 1, 1, none⟩ = some (.slice xd md cd)) ∧ (convert 26 9 (.slice x4 n4 c4)).run Try.prog w' = .ok (.string TA) w') (fun _ h => h.1) _ _ _ _ ?_
        have keep4 : ∀ w', Below w4.heap.size w4 w' → (w'.cell? ⟨w.heap.size, 0, none⟩ = some (.slice xa ma ca) ∧ w'.cell? ⟨w.heap.size, 1, none⟩ = some (.slice xb mb cb) ∧ w'.cell? ⟨w.heap.size + 1, 0, none⟩ = some (.slice xc mc cc) ∧ w'.cell? ⟨w.heap.size + 1, 1, none⟩ = some (.slice xd md cd)) ∧ (convert 26 9 (.slice x4 n4 c4)).run Try.prog w' = .ok (.string TA) w' := fun w' hb => ⟨keep _ (hB4.trans (hb.mono hB4.size)), by rw [← HTA.out]; exact conv_bytes (hY4.below hb)⟩
        replace hS := keep4 _ (Below.refl _ _)
        refine wpAnyG_read (i := 7) (v := ?_) rfl (by kernel_rfl) (by kernel_rfl) (by kernel_rfl) (fun _ _ _ h => h) (by kernel_rfl) (by kernel_rfl) (by kernel_rfl) hS (by kernel_rfl) ?_ ?_
        rotate_left
        · intro wx hSw; go_split_ands; go_simp; try with_reducible rfl
        simp only [Act.put, List.setIfInBounds_toArray, List.set_cons_zero, List.set_cons_succ]
        refine wpAnyG_one (i := 12) rfl (by kernel_rfl) (by kernel_rfl) (fun K hK => ?_)
        go_wp2_with (go_at_call 8; refine (hg2 _ hB4).mono ?_; rintro e w5 ⟨x5, n5, c5, rfl, hY5, hb5⟩)
        replace hS := keep4 _ hb5
        have hB5 : Below wr.heap.size wr w5 := hB4.trans (hb5.mono hB4.size)
        have hcv : (convert 26 9 (.slice x5 n5 c5)).run Try.prog w5 = .ok (.string TC) w5 := by rw [← HTC.out]; exact conv_bytes hY5
        refine hK.out _ _ (fun _ => hS) ?_
        clear hK K
        refine wpAnyG_one (i := 13) rfl (by kernel_rfl) (by kernel_rfl) (fun K hK => ?_)
        go_simp
        refine hK.out _ _ (fun _ => hS) ?_
        clear hK K
        refine wpAnyG_any (i := 14) (v := .bool false) rfl (by kernel_rfl) (by kernel_rfl) (by kernel_rfl) (fun _ _ _ h => h) (by kernel_rfl) (fun _ => hS) (by kernel_rfl) ?_ ?_
        · intro _; go_simp
        simp only [Act.put, List.setIfInBounds_toArray, List.set_cons_zero, List.set_cons_succ]
        refine wpAnyG_any (i := 16) (v := .bool true) rfl (by kernel_rfl) (by kernel_rfl) (by kernel_rfl) (fun _ _ _ h => h) (by kernel_rfl) (fun _ => hS) (by kernel_rfl) ?_ ?_
        · intro _; go_simp
        simp only [Act.put, List.setIfInBounds_toArray, List.set_cons_zero, List.set_cons_succ]
        refine wpAnyG_any (i := 17) (v := .bool true) rfl (by kernel_rfl) (by kernel_rfl) (by kernel_rfl) (fun _ _ _ h => h) (by kernel_rfl) (fun _ => hS) (by kernel_rfl) ?_ ?_
        · intro _; go_simp
        simp only [Act.put, List.setIfInBounds_toArray, List.set_cons_zero, List.set_cons_succ]
        refine wpAnyG_one (i := 18) rfl (by kernel_rfl) (by kernel_rfl) (fun K hK => ?_)
        go_simp
        refine hK.out _ _ (fun h => absurd (show true = false from h) (by decide)) ?_
        clear hK K
        refine wpAnyG_done (by kernel_rfl) ?_ _
        go_wp2
        go_ret
        exact ⟨rfl, hB.trans (hB5.mono hB.size)⟩
      · have eF2 : (TA.toList == TC.toList) = false := eF
        clear eF
        go_upto_region 6 with fail
        refine wp_region_gate (fun w' => w'.cell? ⟨w.heap.size, 0, none⟩ = some (.slice xa ma ca) ∧ w'.cell? ⟨w.heap.size, 1, none⟩ = some (.slice xb mb cb) ∧ w'.cell? ⟨w.heap.size + 1, 0, none⟩ = some (.slice xc mc cc) ∧ w'.cell? ⟨w.heap.size + 1, 1, none⟩ = some (.slice xd md cd)) 18 (by kernel_rfl) ?_
        refine wpAnyG_one (i := 0) rfl (by kernel_rfl) (by kernel_rfl) (fun K hK => ?_)
        go_wp2_with (go_at_call 7; refine (live5_any _).mono ?_; rintro e w3 ⟨rfl, hb3⟩)
        have hB3 : Below wr.heap.size wr w3 := ((Below.refl _ _).drew).trans hb3
        have hS := keep _ hB3
        refine hK.out _ _ (fun _ => hS) ?_
        clear hK K
        refine wpAnyG_any (i := 1) (v := ?_) rfl (by kernel_rfl) (by kernel_rfl) (by kernel_rfl) (fun _ _ _ h => h) (by kernel_rfl) (fun _ => hS) (by kernel_rfl) ?_ ?_
        rotate_left
        · intro _; go_simp; try with_reducible rfl
        simp only [Act.put, List.setIfInBounds_toArray, List.set_cons_zero, List.set_cons_succ]
        refine wpAnyG_any (i := 2) (v := ?_) rfl (by kernel_rfl) (by kernel_rfl) (by kernel_rfl) (fun _ _ _ h => h) (by kernel_rfl) (fun _ => hS) (by kernel_rfl) ?_ ?_
        rotate_left
        · intro _; go_simp; try with_reducible rfl
        simp only [Act.put, List.setIfInBounds_toArray, List.set_cons_zero, List.set_cons_succ]
        refine wpAnyG_read (i := 3) (v := ?_) rfl (by kernel_rfl) (by kernel_rfl) (by kernel_rfl) (fun _ _ _ h => h) (by kernel_rfl) (by kernel_rfl) (by kernel_rfl) hS (by kernel_rfl) ?_ ?_
        rotate_left
        · intro wx hSw; go_split_ands; go_simp; try with_reducible rfl
        simp only [Act.put, List.setIfInBounds_toArray, List.set_cons_zero, List.set_cons_succ]
        refine wpAnyG_any (i := 4) (v := ?_) rfl (by kernel_rfl) (by kernel_rfl) (by kernel_rfl) (fun _ _ _ h => h) (by kernel_rfl) (fun _ => hS) (by kernel_rfl) ?_ ?_
        rotate_left
        · intro _; go_simp; try with_reducible rfl
        simp only [Act.put, List.setIfInBounds_toArray, List.set_cons_zero, List.set_cons_succ]
        refine wpAnyG_read (i := 5) (v := ?_) rfl (by kernel_rfl) (by kernel_rfl) (by kernel_rfl) (fun _ _ _ h => h) (by kernel_rfl) (by kernel_rfl) (by kernel_rfl) hS (by kernel_rfl) ?_ ?_
        rotate_left
        · intro wx hSw; go_split_ands; go_simp; try with_reducible rfl
        simp only [Act.put, List.setIfInBounds_toArray, List.set_cons_zero, List.set_cons_succ]
        refine wpAnyG_any (i := 8) (v := ?_) rfl (by kernel_rfl) (by kernel_rfl) (by kernel_rfl) (fun _ _ _ h => h) (by kernel_rfl) (fun _ => hS) (by kernel_rfl) ?_ ?_
        rotate_left
        · intro _; go_simp; try with_reducible rfl
        simp only [Act.put, List.setIfInBounds_toArray, List.set_cons_zero, List.set_cons_succ]
        refine wpAnyG_read (i := 9) (v := ?_) rfl (by kernel_rfl) (by kernel_rfl) (by kernel_rfl) (fun _ _ _ h => h) (by kernel_rfl) (by kernel_rfl) (by kernel_rfl) hS (by kernel_rfl) ?_ ?_
        rotate_left
        · intro wx hSw; go_split_ands; go_simp; try with_reducible rfl
        simp only [Act.put, List.setIfInBounds_toArray, List.set_cons_zero, List.set_cons_succ]
        refine wpAnyG_any (i := 10) (v := ?_) rfl (by kernel_rfl) (by kernel_rfl) (by kernel_rfl) (fun _ _ _ h => h) (by kernel_rfl) (fun _ => hS) (by kernel_rfl) ?_ ?_
        rotate_left
        · intro _; go_simp; try with_reducible rfl
        simp only [Act.put, List.setIfInBounds_toArray, List.set_cons_zero, List.set_cons_succ]
        refine wpAnyG_read (i := 11) (v := ?_) rfl (by kernel_rfl) (by kernel_rfl) (by kernel_rfl) (fun _ _ _ h => h) (by kernel_rfl) (by kernel_rfl) (by kernel_rfl) hS (by kernel_rfl) ?_ ?_
        rotate_left
        · intro wx hSw; go_split_ands; go_simp; try with_reducible rfl
        simp only [Act.put, List.setIfInBounds_toArray, List.set_cons_zero, List.set_cons_succ]
        refine wpAnyG_any (i := 15) (v := ?_) rfl (by kernel_rfl) (by kernel_rfl) (by kernel_rfl) (fun _ _ _ h => h) (by kernel_rfl) (fun _ => hS) (by kernel_rfl) ?_ ?_
        rotate_left
        · intro _; go_simp; try with_reducible rfl
        simp only [Act.put, List.setIfInBounds_toArray, List.set_cons_zero, List.set_cons_succ]
        refine wpAnyG_one (i := 6) rfl (by kernel_rfl) (by kernel_rfl) (fun K hK => ?_)
        go_wp2_with (go_at_call 8; refine (hg1 _ hB3).mono ?_; rintro e w4 ⟨x4, n4, c4, rfl, hY4, hb4⟩)
        have hB4 : Below wr.heap.size wr w4 := hB3.trans (hb4.mono hB3.size)
        replace hS := keep _ hB4
        refine hK.out _ _ (fun _ => hS) ?_
        clear hK K
        refine wpAnyG_more (S' := fun w' => (w'.cell? ⟨w.heap.size, 0, none⟩ = some (.slice xa ma ca) ∧ w'.cell? ⟨w.heap.size, 1, none⟩ = some (.slice xb mb cb) ∧ w'.cell? ⟨w.heap.size + 1, 0, none⟩ = some (.slice xc mc cc) ∧ w'.cell? ⟨w.heap.size + 1, 1, none⟩ = some (.slice xd md cd)) ∧ (convert 26 9 (.slice x4 n4 c4)).run Try.prog w' = .ok (.string TA) w') (fun _ h => h.1) _ _ _ _ ?_
        have keep4 : ∀ w', Below w4.heap.size w4 w' → (w'.cell? ⟨w.heap.size, 0, none⟩ = some (.slice xa ma ca) ∧ w'.cell? ⟨w.heap.size, 1, none⟩ = some (.slice xb mb cb) ∧ w'.cell? ⟨w.heap.size + 1, 0, none⟩ = some (.slice xc mc cc) ∧ w'.cell? ⟨w.heap.size + 1, 1, none⟩ = some (.slice xd md cd)) ∧ (convert 26 9 (.slice x4 n4 c4)).run Try.prog w' = .ok (.string TA) w' := fun w' hb => ⟨keep _ (hB4.trans (hb.mono hB4.size)), by rw [← HTA.out]; exact conv_bytes (hY4.below hb)⟩
        replace hS := keep4 _ (Below.refl _ _)
        refine wpAnyG_read (i := 7) (v := ?_) rfl (by kernel_rfl) (by kernel_rfl) (by kernel_rfl) (fun _ _ _ h => h) (by kernel_rfl) (by kernel_rfl) (by kernel_rfl) hS (by kernel_rfl) ?_ ?_
        rotate_left
        · intro wx hSw; go_split_ands; go_simp; try with_reducible rfl
        simp only [Act.put, List.setIfInBounds_toArray, List.set_cons_zero, List.set_cons_succ]
        refine wpAnyG_one (i := 12) rfl (by kernel_rfl) (by kernel_rfl) (fun K hK => ?_)
        go_wp2_with (go_at_call 8; refine (hg2 _ hB4).mono ?_; rintro e w5 ⟨x5, n5, c5, rfl, hY5, hb5⟩)
        replace hS := keep4 _ hb5
        have hB5 : Below wr.heap.size wr w5 := hB4.trans (hb5.mono hB4.size)
        have hcv : (convert 26 9 (.slice x5 n5 c5)).run Try.prog w5 = .ok (.string TC) w5 := by rw [← HTC.out]; exact conv_bytes hY5
        refine hK.out _ _ (fun _ => hS) ?_
        clear hK K
        refine wpAnyG_one (i := 13) rfl (by kernel_rfl) (by kernel_rfl) (fun K hK => ?_)
        go_simp
        refine hK.out _ _ (fun _ => hS) ?_
        clear hK K
        refine wpAnyG_any (i := 14) (v := .bool false) rfl (by kernel_rfl) (by kernel_rfl) (by kernel_rfl) (fun _ _ _ h => h) (by kernel_rfl) (fun _ => hS) (by kernel_rfl) ?_ ?_
        · intro _; go_simp
        simp only [Act.put, List.setIfInBounds_toArray, List.set_cons_zero, List.set_cons_succ]
        refine wpAnyG_any (i := 16) (v := .bool true) rfl (by kernel_rfl) (by kernel_rfl) (by kernel_rfl) (fun _ _ _ h => h) (by kernel_rfl) (fun _ => hS) (by kernel_rfl) ?_ ?_
        · intro _; go_simp
        simp only [Act.put, List.setIfInBounds_toArray, List.set_cons_zero, List.set_cons_succ]
        refine wpAnyG_any (i := 17) (v := .bool true) rfl (by kernel_rfl) (by kernel_rfl) (by kernel_rfl) (fun _ _ _ h => h) (by kernel_rfl) (fun _ => hS) (by kernel_rfl) ?_ ?_
        · intro _; go_simp
        simp only [Act.put, List.setIfInBounds_toArray, List.set_cons_zero, List.set_cons_succ]
        refine wpAnyG_one (i := 18) rfl (by kernel_rfl) (by kernel_rfl) (fun K hK => ?_)
        go_simp
        refine hK.out _ _ (fun h => absurd (show true = false from h) (by decide)) ?_
        clear hK K
        refine wpAnyG_done (by kernel_rfl) ?_ _
        go_wp2
        go_ret
        exact ⟨rfl, hB.trans (hB5.mono hB.size)⟩
      · have eF2 : (TA.toList == TC.toList) = false := eF
        clear eF
        go_upto_region 6 with fail
        refine wp_region_gate (fun w' => w'.cell? ⟨w.heap.size, 0, none⟩ = some (.slice xa ma ca) ∧ w'.cell? ⟨w.heap.size, 1, none⟩ = some (.slice xb mb cb) ∧ w'.cell? ⟨w.heap.size + 1, 0, none⟩ = some (.slice xc mc cc) ∧ w'.cell? ⟨w.heap.size + 1, 1, none⟩ = some (.slice xd md cd)) 18 (by kernel_rfl) ?_
        refine wpAnyG_one (i := 0) rfl (by kernel_rfl) (by kernel_rfl) (fun K hK => ?_)
        go_wp2_with (go_at_call 7; refine (live5_any _).mono ?_; rintro e w3 ⟨rfl, hb3⟩)
        have hB3 : Below wr.heap.size wr w3 := ((Below.refl _ _).drew).trans hb3
        have hS := keep _ hB3
        refine hK.out _ _ (fun _ => hS) ?_
        clear hK K
        refine wpAnyG_any (i := 1) (v := ?_) rfl (by kernel_rfl) (by kernel_rfl) (by kernel_rfl) (fun _ _ _ h => h) (by kernel_rfl) (fun _ => hS) (by kernel_rfl) ?_ ?_
        rotate_left
        · intro _; go_simp; try with_reducible rfl
        simp only [Act.put, List.setIfInBounds_toArray, List.set_cons_zero, List.set_cons_succ]
        refine wpAnyG_any (i := 2) (v := ?_) rfl (by kernel_rfl) (by kernel_rfl) (by kernel_rfl) (fun _ _ _ h => h) (by kernel_rfl) (fun _ => hS) (by kernel_rfl) ?_ ?_
        rotate_left
        · intro _; go_simp; try with_reducible rfl
        simp only [Act.put, List.setIfInBounds_toArray, List.set_cons_zero, List.set_cons_succ]
        refine wpAnyG_read (i := 3) (v := ?_) rfl (by kernel_rfl) (by kernel_rfl) (by kernel_rfl) (fun _ _ _ h => h) (by kernel_rfl) (by kernel_rfl) (by kernel_rfl) hS (by kernel_rfl) ?_ ?_
        rotate_left
        · intro wx hSw; go_split_ands; go_simp; try with_reducible rfl
        simp only [Act.put, List.setIfInBounds_toArray, List.set_cons_zero, List.set_cons_succ]
        refine wpAnyG_any (i := 4) (v := ?_) rfl (by kernel_rfl) (by kernel_rfl) (by kernel_rfl) (fun _ _ _ h => h) (by kernel_rfl) (fun _ => hS) (by kernel_rfl) ?_ ?_
        rotate_left
        · intro _; go_simp; try with_reducible rfl
        simp only [Act.put, List.setIfInBounds_toArray, List.set_cons_zero, List.set_cons_succ]
        refine wpAnyG_read (i := 5) (v := ?_) rfl (by kernel_rfl) (by kernel_rfl) (by kernel_rfl) (fun _ _ _ h => h) (by kernel_rfl) (by kernel_rfl) (by kernel_rfl) hS (by kernel_rfl) ?_ ?_
        rotate_left
        · intro wx hSw; go_split_ands; go_simp; try with_reducible rfl
        simp only [Act.put, List.setIfInBounds_toArray, List.set_cons_zero, List.set_cons_succ]
        refine wpAnyG_any (i := 8) (v := ?_) rfl (by kernel_rfl) (by kernel_rfl) (by kernel_rfl) (fun _ _ _ h => h) (by kernel_rfl) (fun _ => hS) (by kernel_rfl) ?_ ?_
        rotate_left
        · intro _; go_simp; try with_reducible rfl
        simp only [Act.put, List.setIfInBounds_toArray, List.set_cons_zero, List.set_cons_succ]
        refine wpAnyG_read (i := 9) (v := ?_) rfl (by kernel_rfl) (by kernel_rfl) (by kernel_rfl) (fun _ _ _ h => h) (by kernel_rfl) (by kernel_rfl) (by kernel_rfl) hS (by kernel_rfl) ?_ ?_
        rotate_left
        · intro wx hSw; go_split_ands; go_simp; try with_reducible rfl
        simp only [Act.put, List.setIfInBounds_toArray, List.set_cons_zero, List.set_cons_succ]
        refine wpAnyG_any (i := 10) (v := ?_) rfl (by kernel_rfl) (by kernel_rfl) (by kernel_rfl) (fun _ _ _ h => h) (by kernel_rfl) (fun _ => hS) (by kernel_rfl) ?_ ?_
        rotate_left
        · intro _; go_simp; try with_reducible rfl
        simp only [Act.put, List.setIfInBounds_toArray, List.set_cons_zero, List.set_cons_succ]
        refine wpAnyG_read (i := 11) (v := ?_) rfl (by kernel_rfl) (by kernel_rfl) (by kernel_rfl) (fun _ _ _ h => h) (by kernel_rfl) (by kernel_rfl) (by kernel_rfl) hS (by kernel_rfl) ?_ ?_
        rotate_left
        · intro wx hSw; go_split_ands; go_simp; try with_reducible rfl
        simp only [Act.put, List.setIfInBounds_toArray, List.set_cons_zero, List.set_cons_succ]
        refine wpAnyG_any (i := 15) (v := ?_) rfl (by kernel_rfl) (by kernel_rfl) (by kernel_rfl) (fun _ _ _ h => h) (by kernel_rfl) (fun _ => hS) (by kernel_rfl) ?_ ?_
        rotate_left
        · intro _; go_simp; try with_reducible rfl
        simp only [Act.put, List.setIfInBounds_toArray, List.set_cons_zero, List.set_cons_succ]
        refine wpAnyG_one (i := 6) rfl (by kernel_rfl) (by kernel_rfl) (fun K hK => ?_)
        go_wp2_with (go_at_call 8; refine (hg1 _ hB3).mono ?_; rintro e w4 ⟨x4, n4, c4, rfl, hY4, hb4⟩)
        have hB4 : Below wr.heap.size wr w4 := hB3.trans (hb4.mono hB3.size)
        replace hS := keep _ hB4
        refine hK.out _ _ (fun _ => hS) ?_
        clear hK K
        refine wpAnyG_more (S' := fun w' => (w'.cell? ⟨w.heap.size, 0, none⟩ = some (.slice xa ma ca) ∧ w'.cell? ⟨w.heap.size, 1, none⟩ = some (.slice xb mb cb) ∧ w'.cell? ⟨w.heap.size + 1, 0, none⟩ = some (.slice xc mc cc) ∧ w'.cell? ⟨w.heap.size + 1, 1, none⟩ = some (.slice xd md cd)) ∧ (convert 26 9 (.slice x4 n4 c4)).run Try.prog w' = .ok (.string TA) w') (fun _ h => h.1) _ _ _ _ ?_
        have keep4 : ∀ w', Below w4.heap.size w4 w' → (w'.cell? ⟨w.heap.size, 0, none⟩ = some (.slice xa ma ca) ∧ w'.cell? ⟨w.heap.size, 1, none⟩ = some (.slice xb mb cb) ∧ w'.cell? ⟨w.heap.size + 1, 0, none⟩ = some (.slice xc mc cc) ∧ w'.cell? ⟨w.heap.size + 1, 1, none⟩ = some (.slice xd md cd)) ∧ (convert 26 9 (.slice x4 n4 c4)).run Try.prog w' = .ok (.string TA) w' := fun w' hb => ⟨keep _ (hB4.trans (hb.mono hB4.size)), by rw [← HTA.out]; exact conv_bytes (hY4.below hb)⟩
        replace hS := keep4 _ (Below.refl _ _)
        refine wpAnyG_read (i := 7) (v := ?_) rfl (by kernel_rfl) (by kernel_rfl) (by kernel_rfl) (fun _ _ _ h => h) (by kernel_rfl) (by kernel_rfl) (by kernel_rfl) hS (by kernel_rfl) ?_ ?_
        rotate_left
        · intro wx hSw; go_split_ands; go_simp; try with_reducible rfl
        simp only [Act.put, List.setIfInBounds_toArray, List.set_cons_zero, List.set_cons_succ]
        refine wpAnyG_one (i := 12) rfl (by kernel_rfl) (by kernel_rfl) (fun K hK => ?_)
        go_wp2_with (go_at_call 8; refine (hg2 _ hB4).mono ?_; rintro e w5 ⟨x5, n5, c5, rfl, hY5, hb5⟩)
        replace hS := keep4 _ hb5
        have hB5 : Below wr.heap.size wr w5 := hB4.trans (hb5.mono hB4.size)
        have hcv : (convert 26 9 (.slice x5 n5 c5)).run Try.prog w5 = .ok (.string TC) w5 := by rw [← HTC.out]; exact conv_bytes hY5
        refine hK.out _ _ (fun _ => hS) ?_
        clear hK K
        refine wpAnyG_one (i := 13) rfl (by kernel_rfl) (by kernel_rfl) (fun K hK => ?_)
        go_simp
        refine hK.out _ _ (fun _ => hS) ?_
        clear hK K
        refine wpAnyG_any (i := 14) (v := .bool false) rfl (by kernel_rfl) (by kernel_rfl) (by kernel_rfl) (fun _ _ _ h => h) (by kernel_rfl) (fun _ => hS) (by kernel_rfl) ?_ ?_
        · intro _; go_simp
        simp only [Act.put, List.setIfInBounds_toArray, List.set_cons_zero, List.set_cons_succ]
        refine wpAnyG_any (i := 16) (v := .bool true) rfl (by kernel_rfl) (by kernel_rfl) (by kernel_rfl) (fun _ _ _ h => h) (by kernel_rfl) (fun _ => hS) (by kernel_rfl) ?_ ?_
        · intro _; go_simp
        simp only [Act.put, List.setIfInBounds_toArray, List.set_cons_zero, List.set_cons_succ]
        refine wpAnyG_any (i := 17) (v := .bool true) rfl (by kernel_rfl) (by kernel_rfl) (by kernel_rfl) (fun _ _ _ h => h) (by kernel_rfl) (fun _ => hS) (by kernel_rfl) ?_ ?_
        · intro _; go_simp
        simp only [Act.put, List.setIfInBounds_toArray, List.set_cons_zero, List.set_cons_succ]
        refine wpAnyG_one (i := 18) rfl (by kernel_rfl) (by kernel_rfl) (fun K hK => ?_)
        go_simp
        refine hK.out _ _ (fun h => absurd (show true = false from h) (by decide)) ?_
        clear hK K
        refine wpAnyG_done (by kernel_rfl) ?_ _
        go_wp2
        go_ret
        exact ⟨rfl, hB.trans (hB5.mono hB.size)⟩
      · have eF2 : (TA.toList == TC.toList) = true := eF
        clear eF
        go_upto_region 6 with fail
        refine wp_region_gate (fun w' => w'.cell? ⟨w.heap.size, 0, none⟩ = some (.slice xa ma ca) ∧ w'.cell? ⟨w.heap.size, 1, none⟩ = some (.slice xb mb cb) ∧ w'.cell? ⟨w.heap.size + 1, 0, none⟩ = some (.slice xc mc cc) ∧ w'.cell? ⟨w.heap.size + 1, 1, none⟩ = some (.slice xd md cd)) 18 (by kernel_rfl) ?_
        refine wpAnyG_one (i := 0) rfl (by kernel_rfl) (by kernel_rfl) (fun K hK => ?_)
        go_wp2_with (go_at_call 7; refine (live5_any _).mono ?_; rintro e w3 ⟨rfl, hb3⟩)
        have hB3 : Below wr.heap.size wr w3 := ((Below.refl _ _).drew).trans hb3
        have hS := keep _ hB3
        refine hK.out _ _ (fun _ => hS) ?_
        clear hK K
        refine wpAnyG_any (i := 1) (v := ?_) rfl (by kernel_rfl) (by kernel_rfl) (by kernel_rfl) (fun _ _ _ h => h) (by kernel_rfl) (fun _ => hS) (by kernel_rfl) ?_ ?_
        rotate_left
        · intro _; go_simp; try with_reducible rfl
        simp only [Act.put, List.setIfInBounds_toArray, List.set_cons_zero, List.set_cons_succ]
        refine wpAnyG_any (i := 2) (v := ?_) rfl (by kernel_rfl) (by kernel_rfl) (by kernel_rfl) (fun _ _ _ h => h) (by kernel_rfl) (fun _ => hS) (by kernel_rfl) ?_ ?_
        rotate_left
        · intro _; go_simp; try with_reducible rfl
        simp only [Act.put, List.setIfInBounds_toArray, List.set_cons_zero, List.set_cons_succ]
        refine wpAnyG_read (i := 3) (v := ?_) rfl (by kernel_rfl) (by kernel_rfl) (by kernel_rfl) (fun _ _ _ h => h) (by kernel_rfl) (by kernel_rfl) (by kernel_rfl) hS (by kernel_rfl) ?_ ?_
        rotate_left
        · intro wx hSw; go_split_ands; go_simp; try with_reducible rfl
        simp only [Act.put, List.setIfInBounds_toArray, List.set_cons_zero, List.set_cons_succ]
        refine wpAnyG_any (i := 4) (v := ?_) rfl (by kernel_rfl) (by kernel_rfl) (by kernel_rfl) (fun _ _ _ h => h) (by kernel_rfl) (fun _ => hS) (by kernel_rfl) ?_ ?_
        rotate_left
        · intro _; go_simp; try with_reducible rfl
        simp only [Act.put, List.setIfInBounds_toArray, List.set_cons_zero, List.set_cons_succ]
        refine wpAnyG_read (i := 5) (v := ?_) rfl (by kernel_rfl) (by kernel_rfl) (by kernel_rfl) (fun _ _ _ h => h) (by kernel_rfl) (by kernel_rfl) (by kernel_rfl) hS (by kernel_rfl) ?_ ?_
        rotate_left
        · intro wx hSw; go_split_ands; go_simp; try with_reducible rfl
        simp only [Act.put, List.setIfInBounds_toArray, List.set_cons_zero, List.set_cons_succ]
        refine wpAnyG_any (i := 8) (v := ?_) rfl (by kernel_rfl) (by kernel_rfl) (by kernel_rfl) (fun _ _ _ h => h) (by kernel_rfl) (fun _ => hS) (by kernel_rfl) ?_ ?_
        rotate_left
        · intro _; go_simp; try with_reducible rfl
        simp only [Act.put, List.setIfInBounds_toArray, List.set_cons_zero, List.set_cons_succ]
        refine wpAnyG_read (i := 9) (v := ?_) rfl (by kernel_rfl) (by kernel_rfl) (by kernel_rfl) (fun _ _ _ h => h) (by kernel_rfl) (by kernel_rfl) (by kernel_rfl) hS (by kernel_rfl) ?_ ?_
        rotate_left
        · intro wx hSw; go_split_ands; go_simp; try with_reducible rfl
        simp only [Act.put, List.setIfInBounds_toArray, List.set_cons_zero, List.set_cons_succ]
        refine wpAnyG_any (i := 10) (v := ?_) rfl (by kernel_rfl) (by kernel_rfl) (by kernel_rfl) (fun _ _ _ h => h) (by kernel_rfl) (fun _ => hS) (by kernel_rfl) ?_ ?_
        rotate_left
        · intro _; go_simp; try with_reducible rfl
        simp only [Act.put, List.setIfInBounds_toArray, List.set_cons_zero, List.set_cons_succ]
        refine wpAnyG_read (i := 11) (v := ?_) rfl (by kernel_rfl) (by kernel_rfl) (by kernel_rfl) (fun _ _ _ h => h) (by kernel_rfl) (by kernel_rfl) (by kernel_rfl) hS (by kernel_rfl) ?_ ?_
        rotate_left
        · intro wx hSw; go_split_ands; go_simp; try with_reducible rfl
        simp only [Act.put, List.setIfInBounds_toArray, List.set_cons_zero, List.set_cons_succ]
        refine wpAnyG_any (i := 15) (v := ?_) rfl (by kernel_rfl) (by kernel_rfl) (by kernel_rfl) (fun _ _ _ h => h) (by kernel_rfl) (fun _ => hS) (by kernel_rfl) ?_ ?_
        rotate_left
        · intro _; go_simp; try with_reducible rfl
        simp only [Act.put, List.setIfInBounds_toArray, List.set_cons_zero, List.set_cons_succ]
        refine wpAnyG_one (i := 6) rfl (by kernel_rfl) (by kernel_rfl) (fun K hK => ?_)
        go_wp2_with (go_at_call 8; refine (hg1 _ hB3).mono ?_; rintro e w4 ⟨x4, n4, c4, rfl, hY4, hb4⟩)
        have hB4 : Below wr.heap.size wr w4 := hB3.trans (hb4.mono hB3.size)
        replace hS := keep _ hB4
        refine hK.out _ _ (fun _ => hS) ?_
        clear hK K
        refine wpAnyG_more (S' := fun w' => (w'.cell? ⟨w.heap.size, 0, none⟩ = some (.slice xa ma ca) ∧ w'.cell? ⟨w.heap.size, 1, none⟩ = some (.slice xb mb cb) ∧ w'.cell? ⟨w.heap.size + 1, 0, none⟩ = some (.slice xc mc cc) ∧ w'.cell? ⟨w.heap.size + 1, 1, none⟩ = some (.slice xd md cd)) ∧ (convert 26 9 (.slice x4 n4 c4)).run Try.prog w' = .ok (.string TA) w') (fun _ h => h.1) _ _ _ _ ?_
        have keep4 : ∀ w', Below w4.heap.size w4 w' → (w'.cell? ⟨w.heap.size, 0, none⟩ = some (.slice xa ma ca) ∧ w'.cell? ⟨w.heap.size, 1, none⟩ = some (.slice xb mb cb) ∧ w'.cell? ⟨w.heap.size + 1, 0, none⟩ = some (.slice xc mc cc) ∧ w'.cell? ⟨w.heap.size + 1, 1, none⟩ = some (.slice xd md cd)) ∧ (convert 26 9 (.slice x4 n4 c4)).run Try.prog w' = .ok (.string TA) w' := fun w' hb => ⟨keep _ (hB4.trans (hb.mono hB4.size)), by rw [← HTA.out]; exact conv_bytes (hY4.below hb)⟩
        replace hS := keep4 _ (Below.refl _ _)
        refine wpAnyG_read (i := 7) (v := ?_) rfl (by kernel_rfl) (by kernel_rfl) (by kernel_rfl) (fun _ _ _ h => h) (by kernel_rfl) (by kernel_rfl) (by kernel_rfl) hS (by kernel_rfl) ?_ ?_
        rotate_left
        · intro wx hSw; go_split_ands; go_simp; try with_reducible rfl
        simp only [Act.put, List.setIfInBounds_toArray, List.set_cons_zero, List.set_cons_succ]
        refine wpAnyG_one (i := 12) rfl (by kernel_rfl) (by kernel_rfl) (fun K hK => ?_)
        go_wp2_with (go_at_call 8; refine (hg2 _ hB4).mono ?_; rintro e w5 ⟨x5, n5, c5, rfl, hY5, hb5⟩)
        replace hS := keep4 _ hb5
        have hB5 : Below wr.heap.size wr w5 := hB4.trans (hb5.mono hB4.size)
        have hcv : (convert 26 9 (.slice x5 n5 c5)).run Try.prog w5 = .ok (.string TC) w5 := by rw [← HTC.out]; exact conv_bytes hY5
        refine hK.out _ _ (fun _ => hS) ?_
        clear hK K
        refine wpAnyG_one (i := 13) rfl (by kernel_rfl) (by kernel_rfl) (fun K hK => ?_)
        go_simp
        refine hK.out _ _ (fun _ => hS) ?_
        clear hK K
        refine wpAnyG_any (i := 14) (v := .bool true) rfl (by kernel_rfl) (by kernel_rfl) (by kernel_rfl) (fun _ _ _ h => h) (by kernel_rfl) (fun _ => hS) (by kernel_rfl) ?_ ?_
        · intro _; go_simp
        simp only [Act.put, List.setIfInBounds_toArray, List.set_cons_zero, List.set_cons_succ]
        refine wpAnyG_any (i := 16) (v := .bool true) rfl (by kernel_rfl) (by kernel_rfl) (by kernel_rfl) (fun _ _ _ h => h) (by kernel_rfl) (fun _ => hS) (by kernel_rfl) ?_ ?_
        · intro _; go_simp
        simp only [Act.put, List.setIfInBounds_toArray, List.set_cons_zero, List.set_cons_succ]
        refine wpAnyG_any (i := 17) (v := .bool true) rfl (by kernel_rfl) (by kernel_rfl) (by kernel_rfl) (fun _ _ _ h => h) (by kernel_rfl) (fun _ => hS) (by kernel_rfl) ?_ ?_
        · intro _; go_simp
        simp only [Act.put, List.setIfInBounds_toArray, List.set_cons_zero, List.set_cons_succ]
        refine wpAnyG_one (i := 18) rfl (by kernel_rfl) (by kernel_rfl) (fun K hK => ?_)
        go_simp
        refine hK.out _ _ (fun h => absurd (show true = false from h) (by decide)) ?_
        clear hK K
        refine wpAnyG_done (by kernel_rfl) ?_ _
        go_wp2
        go_ret
        exact ⟨rfl, hB.trans (hB5.mono hB.size)⟩
end Go.Proofs.Ytnblcdpahpcglab
