/- The statement PolyNone, walked. -/
import Derived.Test.YteolgonoodfniabPz
import Derived.Test.YteolgonoodfniabFew4
namespace Go.Proofs.Yteolgonoodfniab
open Go.RowKit
set_option maxRecDepth 20000
set_option linter.unusedSimpArgs false

set_option maxHeartbeats 4000000 in
theorem none_walk (k : List Int) (y : Option Addr) (lb cb : Nat) (z0 : List Int) (w : World) (hk : k.length = 32) (hu : ∀ v ∈ k, 0 ≤ v ∧ v ≤ 255) (hy : Bytes w y lb cb z0) (huz : ∀ v ∈ z0, 0 ≤ v ∧ v ≤ 255) :
    Calls Try.prog 5 #[.agg (row .u8 k), .slice y lb cb] w fun e w' => e = .returned (.bool true) ∧ Below w.heap.size w w' := by
  have hy6 := hy.few 300
  have huz6 : ∀ v ∈ z0.take 300, isB v := fun v hv => huz v (List.mem_of_mem_take hv)
  obtain ⟨m, hm⟩ : ∃ q, min lb 300 = q := ⟨_, rfl⟩
  obtain ⟨z, hz⟩ : ∃ q, z0.take 300 = q := ⟨_, rfl⟩
  have hm6 : m ≤ 300 := by omega
  have hf1 : ∀ wx, Below w.heap.size w wx → Calls Try.prog 8 #[.slice y lb cb, .int .i64 300] wx (fun e w' => e = .returned (.slice y m cb) ∧ wx = w') := fun wx hb' => by
    rw [← hm]; exact few4_any y lb cb 300 z0 wx (hy.below hb') (by omega) (by omega)
  rw [hm, hz] at hy6
  rw [hz] at huz6
  clear hm hz hy huz
  have hZl : (List.replicate 16 0 ++ k.drop 16).length = 32 := by rw [List.length_append, List.length_drop, List.length_replicate]; omega
  have hZu : ∀ v ∈ List.replicate 16 0 ++ k.drop 16, isB v := fun v hv => by
    rcases List.mem_append.1 hv with h | h
    · have := (List.mem_replicate.1 h).2; subst this; exact ⟨by omega, by omega⟩
    · exact hu v (List.mem_of_mem_drop h)
  have hZt : (List.replicate 16 0 ++ k.drop 16).take 16 = List.replicate 16 0 := by rw [List.take_append_of_le_length (by simp), List.take_of_length_le (by simp)]
  have hZd : (List.replicate 16 0 ++ k.drop 16).drop 16 = k.drop 16 := by rw [List.drop_append_of_le_length (by simp), List.drop_of_length_le (by simp), List.nil_append]
  have p1 := poly_none k hk hu
  have p2 := poly_zero _ z hZl hZu huz6 hZt
  rw [hZd] at p2
  have hs1 : ∀ wx, Calls Try.prog 10 #[.agg (List.map (Value.int .u8) k).toArray, .slice none 0 0] wx fun e w' => e = .returned (.agg (row .u8 (k.drop 16))) ∧ Below wx.heap.size wx w' := fun wx => by
    have := psum_any k none 0 0 [] wx hk (bytes_nil wx) (by omega)
    rw [p1] at this
    exact this
  have hs2 : ∀ wx, Below w.heap.size w wx → Calls Try.prog 10 #[.agg (List.map (Value.int .u8) (List.replicate 16 0 ++ k.drop 16)).toArray, .slice y m cb] wx fun e w' => e = .returned (.agg (row .u8 (k.drop 16))) ∧ Below wx.heap.size wx w' := fun wx hx => by
    have := psum_any _ y m cb z wx hZl (hy6.below hx) (by omega)
    rw [p2] at this
    exact this
  have hh : ∀ wx, Calls Try.prog 14 #[.agg (List.map (Value.int .u8) k).toArray] wx fun e w' => e = .returned (.agg (row .u8 (k.drop 16))) ∧ Below wx.heap.size wx w' := fun wx => half4_any k wx hk
  have hsl : (k.drop 16).length = 16 := by rw [List.length_drop]; omega
  have HZS : Veil (∀ i, i < 16 → (List.replicate i 0 ++ k.drop i).set i 0 = List.replicate (i + 1) 0 ++ k.drop (i + 1)) := ⟨fun i hi => zeroK_set k i (by omega)⟩
  have HZL : Veil (∀ i, i ≤ 16 → (List.replicate i 0 ++ k.drop i).length = 32) := ⟨fun i hi => by rw [List.length_append, List.length_drop, List.length_replicate]; omega⟩
  obtain ⟨Z, hZ⟩ : ∃ Z : Nat → List Int, (fun i => List.replicate i 0 ++ k.drop i) = Z := ⟨_, rfl⟩
  have hZi : ∀ i, List.replicate i 0 ++ k.drop i = Z i := fun i => by rw [← hZ]
  rw [hZi 16] at hs2 hZl
  have HZS' : Veil (∀ i, i < 16 → (Z i).set i 0 = Z (i + 1)) := ⟨fun i hi => by rw [← hZi, ← hZi]; exact HZS.out i hi⟩
  have HZL' : Veil (∀ i, i ≤ 16 → (Z i).length = 32) := ⟨fun i hi => by rw [← hZi]; exact HZL.out i hi⟩
  have HZ0 : Veil (Z 0 = k) := ⟨by rw [← hZi]; rfl⟩
  obtain ⟨S, hS⟩ : ∃ q, k.drop 16 = q := ⟨_, rfl⟩
  rw [hS] at hs1 hs2 hh hsl
  have hE : ∀ wx, (Op.equalIn 10000 28 (.agg (row .u8 S)) (.agg (row .u8 S))).run Try.prog wx = .ok true wx := fun wx => by
    have := eqTag S S hsl hsl wx
    rw [beq_self_eq_true] at this
    exact this
  have hgd := guardTag
  have uTyK := Try.underlying23
  have iTyK : (Try.prog.info? 23).map (·.size) = some (k.map (Value.int .u8)).length := by rw [List.length_map, hk]; exact sizeKeyP
  have iTyZ : (Try.prog.info? 23).map (·.size) = some ((Z 16).map (Value.int .u8)).length := by rw [List.length_map, hZl]; exact sizeKeyP
  have hN := Holds.new w .u8 23 k
  clear p1 p2 hZd hZt hZu hZ hZi HZS HZL hS hu huz6
  go_enter Try.func5, Try.ntmps5
  go_upto_region 1 with fail
  refine forget (p := fun y => Code.wp _ _ _ _ y) (fun W0 => Below w.heap.size w W0 ∧ W0.heap.size = w.heap.size + 1 ∧ Holds W0 w.heap.size .u8 23 k) ⟨(Below.refl _ _).alloc (Nat.le_refl _) _, by simp, hN⟩ ?_
  clear hN
  rintro W0 ⟨hB0, hsz0, hK0⟩
  have hN3 := Holds.new W0 .u8 23 (List.replicate 32 0)
  rw [hsz0] at hN3
  go_upto_region 3 with (first
    | (go_at_call 8; refine (hf1 _ hB0).mono ?_; rintro e w' ⟨rfl, rfl⟩)
    | (refine wpList_ld rfl 23 _ rfl _ rfl hK0 Try.underlying23 sizeKeyP hk ?_)
    | (refine wpList_st rfl 23 _ _ rfl _ rfl rfl hN3 (by rw [hk]; exact sizeKeyP) (by simp [hk]) ?_))
  refine forget (p := fun y => Code.wp _ _ _ _ y) (fun W1 => Below w.heap.size w W1 ∧ Holds W1 w.heap.size .u8 23 k ∧ Holds W1 (w.heap.size + 1) .u8 23 k) ⟨below_setRow (g := w.heap.size + 1) (hB0.alloc hB0.size _) (by omega) _, (hK0.alloc _).setRowOther _ (by omega), hN3.setRow _⟩ ?_
  clear hN3 hB0 hK0 hsz0 hf1
  rintro W1 ⟨hB1, hK1, hZ1⟩
  simp only [Act.put]
  go_wp2_with fail
  go_loopw [6] (fun q wr => ∃ i : Nat, i ≤ 16 ∧ q = .int .i64 i ∧ Below w.heap.size w wr ∧ Holds wr w.heap.size .u8 23 k ∧ Holds wr (w.heap.size + 1) .u8 23 (Z i)) (fun q _ => 16 - (intOf q).toNat)
  case atStart => exact ⟨0, by omega, rfl, hB1, hK1, by rw [HZ0.out]; exact hZ1⟩
  case round =>
    clear hB1 hK1 hZ1
    obtain ⟨i, hi, rfl, hB, hKy, hZy⟩ := hrel
    by_cases hlt : i < 16
    · have HS : Veil ((Z i).set i 0 = Z (i + 1)) := ⟨HZS'.out i hlt⟩
      have hAl := HZL'.out i hi
      obtain ⟨A, hAe⟩ : ∃ q, Z i = q := ⟨_, rfl⟩
      rw [hAe] at hZy HS hAl
      have c2 := hZy.cell i (by omega)
      have f2 := hZy.frozen i
      have hi0 : (0 : Int) ≤ (i : Int) := by omega
      have hi6 : (i : Int) < 32 := by omega
      clear hAe
      go_wp2
      go_roundw
      case rel => exact ⟨i + 1, by omega, by go_num, hB.setCell (by simp) _, hKy.setOther _ _ (by simp), by rw [← HS.out]; exact hZy.set i _⟩
      case measure => simp [intOf]; omega
    · obtain rfl : i = 16 := by omega
      rw [show ((16 : Nat) : Int) = 16 from rfl]
      obtain ⟨Y, hYe⟩ : ∃ q, Z 16 = q := ⟨_, rfl⟩
      rw [hYe] at hZy iTyZ hs2
      clear hYe HZS' HZL' HZ0
      go_upto_region 7 with fail
      refine wp_region_gate (fun w' => w'.rangeAt w.heap.size 0 (k.map (Value.int .u8)) ∧ w'.rangeAt (w.heap.size + 1) 0 (Y.map (Value.int .u8))) 16 (by kernel_rfl) ?_
      refine wpAnyG_one (i := 0) rfl (by kernel_rfl) (by kernel_rfl) (fun K hK => ?_)
      go_wp2_with (go_at_call 9; refine (live4_any _).mono ?_; rintro e w4 ⟨rfl, hb4⟩)
      have hb4' : Below wr.heap.size wr w4 := ((Below.refl _ _).drew).trans hb4
      have hS := And.intro (hKy.below hb4' hKy.lt).rangeAll (hZy.below hb4' hZy.lt).rangeAll
      refine hK.out _ _ (fun _ => hS) ?_
      clear hK K
      refine wpAnyG_any (i := 1) (v := ?_) rfl (by kernel_rfl) (by kernel_rfl) (by kernel_rfl) (fun _ _ _ h => h) (by kernel_rfl) (fun _ => hS) (by kernel_rfl) ?_ ?_
      rotate_left
      · intro _; go_simp; try with_reducible rfl
      simp only [Act.put, List.setIfInBounds_toArray, List.set_cons_zero, List.set_cons_succ]
      refine wpAnyG_load (i := 2) (dst := some 18) (ty := 23) (x := .tmp 2) (b := w.heap.size) (o := 0) (cs := (k.map (Value.int .u8))) (by kernel_rfl) (by kernel_rfl) (by kernel_rfl) (by kernel_rfl) (by kernel_rfl) (fun _ _ _ h => h) (by kernel_rfl) (by kernel_rfl) (by kernel_rfl) hS (by kernel_rfl) (fun _ h => h.1) uTyK rfl iTyK ?_
      simp only [Act.put, List.setIfInBounds_toArray, List.set_cons_zero, List.set_cons_succ]
      refine wpAnyG_load (i := 4) (dst := some 20) (ty := 23) (x := .tmp 2) (b := w.heap.size) (o := 0) (cs := (k.map (Value.int .u8))) (by kernel_rfl) (by kernel_rfl) (by kernel_rfl) (by kernel_rfl) (by kernel_rfl) (fun _ _ _ h => h) (by kernel_rfl) (by kernel_rfl) (by kernel_rfl) hS (by kernel_rfl) (fun _ h => h.1) uTyK rfl iTyK ?_
      simp only [Act.put, List.setIfInBounds_toArray, List.set_cons_zero, List.set_cons_succ]
      refine wpAnyG_one (i := 3) rfl (by kernel_rfl) (by kernel_rfl) (fun K hK => ?_)
      go_wp2_with (go_at_call 10; refine (hs1 _).mono ?_; rintro e w5 ⟨rfl, hb5⟩)
      have hb5' : Below wr.heap.size wr w5 := hb4'.trans (hb5.mono hb4'.size)
      replace hS := And.intro (hKy.below hb5' hKy.lt).rangeAll (hZy.below hb5' hZy.lt).rangeAll
      refine hK.out _ _ (fun _ => hS) ?_
      clear hK K
      refine wpAnyG_one (i := 5) rfl (by kernel_rfl) (by kernel_rfl) (fun K hK => ?_)
      go_wp2_with (go_at_call 14; refine (hh _).mono ?_; rintro e w6 ⟨rfl, hb6⟩)
      have hb6' : Below wr.heap.size wr w6 := hb5'.trans (hb6.mono hb5'.size)
      have hB6 : Below w.heap.size w w6 := hB.trans (hb6'.mono hB.size)
      replace hS := And.intro (hKy.below hb6' hKy.lt).rangeAll (hZy.below hb6' hZy.lt).rangeAll
      refine hK.out _ _ (fun _ => hS) ?_
      clear hK K
      refine wpAnyG_any (i := 6) (v := .bool true) rfl (by kernel_rfl) (by kernel_rfl) (by kernel_rfl) (fun _ _ _ h => h) (by kernel_rfl) (fun _ => hS) (by kernel_rfl) ?_ ?_
      · intro _; go_simp
      simp only [Act.put, List.setIfInBounds_toArray, List.set_cons_zero, List.set_cons_succ]
      refine wpAnyG_any (i := 7) (v := .bool true) rfl (by kernel_rfl) (by kernel_rfl) (by kernel_rfl) (fun _ _ _ h => h) (by kernel_rfl) (fun _ => hS) (by kernel_rfl) ?_ ?_
      · intro _; go_simp
      simp only [Act.put, List.setIfInBounds_toArray, List.set_cons_zero, List.set_cons_succ]
      refine wpAnyG_any (i := 8) (v := ?_) rfl (by kernel_rfl) (by kernel_rfl) (by kernel_rfl) (fun _ _ _ h => h) (by kernel_rfl) (fun _ => hS) (by kernel_rfl) ?_ ?_
      rotate_left
      · intro _; go_simp; try with_reducible rfl
      simp only [Act.put, List.setIfInBounds_toArray, List.set_cons_zero, List.set_cons_succ]
      refine wpAnyG_load (i := 9) (dst := some 25) (ty := 23) (x := .tmp 5) (b := (w.heap.size + 1)) (o := 0) (cs := (Y.map (Value.int .u8))) (by kernel_rfl) (by kernel_rfl) (by kernel_rfl) (by kernel_rfl) (by kernel_rfl) (fun _ _ _ h => h) (by kernel_rfl) (by kernel_rfl) (by kernel_rfl) hS (by kernel_rfl) (fun _ h => h.2) uTyK rfl iTyZ ?_
      simp only [Act.put, List.setIfInBounds_toArray, List.set_cons_zero, List.set_cons_succ]
      refine wpAnyG_any (i := 10) (v := ?_) rfl (by kernel_rfl) (by kernel_rfl) (by kernel_rfl) (fun _ _ _ h => h) (by kernel_rfl) (fun _ => hS) (by kernel_rfl) ?_ ?_
      rotate_left
      · intro _; go_simp; try with_reducible rfl
      simp only [Act.put, List.setIfInBounds_toArray, List.set_cons_zero, List.set_cons_succ]
      refine wpAnyG_load (i := 12) (dst := some 28) (ty := 23) (x := .tmp 2) (b := w.heap.size) (o := 0) (cs := (k.map (Value.int .u8))) (by kernel_rfl) (by kernel_rfl) (by kernel_rfl) (by kernel_rfl) (by kernel_rfl) (fun _ _ _ h => h) (by kernel_rfl) (by kernel_rfl) (by kernel_rfl) hS (by kernel_rfl) (fun _ h => h.1) uTyK rfl iTyK ?_
      simp only [Act.put, List.setIfInBounds_toArray, List.set_cons_zero, List.set_cons_succ]
      refine wpAnyG_one (i := 11) rfl (by kernel_rfl) (by kernel_rfl) (fun K hK => ?_)
      go_wp2_with (go_at_call 10; refine (hs2 _ hB6).mono ?_; rintro e w7 ⟨rfl, hb7⟩)
      have hb7' : Below wr.heap.size wr w7 := hb6'.trans (hb7.mono hb6'.size)
      replace hS := And.intro (hKy.below hb7' hKy.lt).rangeAll (hZy.below hb7' hZy.lt).rangeAll
      refine hK.out _ _ (fun _ => hS) ?_
      clear hK K
      refine wpAnyG_one (i := 13) rfl (by kernel_rfl) (by kernel_rfl) (fun K hK => ?_)
      go_wp2_with (go_at_call 14; refine (hh _).mono ?_; rintro e w8 ⟨rfl, hb8⟩)
      have hb8' : Below wr.heap.size wr w8 := hb7'.trans (hb8.mono hb7'.size)
      replace hS := And.intro (hKy.below hb8' hKy.lt).rangeAll (hZy.below hb8' hZy.lt).rangeAll
      refine hK.out _ _ (fun _ => hS) ?_
      clear hK K
      refine wpAnyG_any (i := 14) (v := .bool true) rfl (by kernel_rfl) (by kernel_rfl) (by kernel_rfl) (fun _ _ _ h => h) (by kernel_rfl) (fun _ => hS) (by kernel_rfl) ?_ ?_
      · intro _; go_simp
      simp only [Act.put, List.setIfInBounds_toArray, List.set_cons_zero, List.set_cons_succ]
      refine wpAnyG_any (i := 15) (v := .bool true) rfl (by kernel_rfl) (by kernel_rfl) (by kernel_rfl) (fun _ _ _ h => h) (by kernel_rfl) (fun _ => hS) (by kernel_rfl) ?_ ?_
      · intro _; go_simp
      simp only [Act.put, List.setIfInBounds_toArray, List.set_cons_zero, List.set_cons_succ]
      refine wpAnyG_one (i := 16) rfl (by kernel_rfl) (by kernel_rfl) (fun K hK => ?_)
      go_simp
      refine hK.out _ _ (fun h => absurd (show true = false from h) (by decide)) ?_
      clear hK K
      refine wpAnyG_done (by kernel_rfl) ?_ _
      go_wp2
      go_ret
      exact ⟨rfl, hB.trans (hb8'.mono hB.size)⟩
end Go.Proofs.Yteolgonoodfniab
