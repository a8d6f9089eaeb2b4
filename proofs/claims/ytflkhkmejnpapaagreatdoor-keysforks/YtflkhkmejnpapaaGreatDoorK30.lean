/- Ky8 Ky9 -/
import Derived.Test.YtflkhkmejnpapaaGreatDoorK28
import Derived.Test.YtflkhkmejnpapaaGreatDoorK29
import Derived.Test.YtflkhkmejnpapaaGreatDoorK26
import Derived.Test.YtflkhkmejnpapaaGreatDoorK27
namespace Go.Proofs.YtflkhkmejnpapaaGreatDoor
open Go.RowKit
set_option maxRecDepth 20000
set_option linter.unusedSimpArgs false
def wz : Wp := ⟨0, 0, 0, List.replicate 48 0⟩
theorem wz_built (w : World) : (Instr.build 36 #[]).run Tryz.prog w = .ok (.agg wz.cells.toArray) w := by kernel_rfl
theorem wz_info : (Tryz.prog.info? 36).map (·.zero) = some (some (.agg wz.cells.toArray)) := by kernel_rfl
theorem sizeWrapK : (Tryz.prog.info? 36).map (·.size) = some 51 := by kernel_rfl
theorem wp_cells_length (e : Wp) (h : e.data.length = 48) : e.cells.length = 51 := by simp [Wp.cells, dotC, h]
theorem wp_cells_one (e : Wp) : ∀ u ∈ e.cells, u.oneCell' = true := by
 intro u hu
 unfold Wp.cells dotC at hu
 simp only [List.mem_append, List.mem_cons, List.not_mem_nil, or_false, List.mem_map] at hu
 rcases hu with (rfl | rfl | rfl) | ⟨_, _, rfl⟩ <;> rfl
theorem wrap_to (t a s : Int) (w : World) : (Instr.build 36 #[(0, .int .u8 t), (1, .agg (dotC a s).toArray)]).run Tryz.prog w = .ok (.agg (⟨t, a, s, List.replicate 48 0⟩ : Wp).cells.toArray) w := by
 refine run_build w _ _ _ ?_
 rw [built_of wz_info Tryz.underlying36 (by kernel_rfl) (places := [(0, 1), (1, 2), (3, 48)])]
 rw [fill_cons _ _ [.int .u8 t] 0 0 1 _ _ rfl rfl rfl (by decide), show wz.cells.take 0 ++ [.int .u8 t] ++ wz.cells.drop (0 + 1) = (⟨t, 0, 0, List.replicate 48 0⟩ : Wp).cells from rfl]
 rw [fill_cons _ _ (dotC a s) 1 1 2 _ _ rfl rfl rfl (Nat.le_of_ble_eq_true rfl), Instr.fill]
 rfl
def wrapOf (seed : List Int) (own t a s : Int) (k : List Int) : Wp := ⟨t, a, s, sealL (pairL seed own t) (wrapNL own t a s) [] k⟩
section
variable (base H : Nat) (own : Int) (seed : List Int) (b : Nat) (M : Int → Int → Option (List Int)) (v : Value) (L : List (Int × Int)) (w : World)
set_option maxHeartbeats 4000000 in
theorem wrap_no (t a s : Int) (hR : RingAt w base H own seed b M v L) (hE : refuseE own t ≠ 0) :
    Calls Tryz.prog 13 #[.pointer (some ⟨H, 0, none⟩), .int .u8 t, .agg (dotC a s).toArray] w fun e w' => e = .returned (.tuple #[.agg wz.cells.toArray, .int .i64 (refuseE own t)]) ∧ Below w.heap.size w w' := by
 obtain ⟨Z, hZl, hZ1, hZ, hZb⟩ : ∃ Z : List Value, Z.length = 51 ∧ (∀ u ∈ Z, u.oneCell' = true) ∧ Z = wz.cells ∧ ∀ wx, (Instr.build 36 #[]).run Tryz.prog wx = .ok (.agg Z.toArray) wx := ⟨_, rfl, wp_cells_one wz, rfl, wz_built⟩
 have hB : Below w.heap.size w ((w.alloc (.cells (dotC a s).toArray 33)).alloc (.cells Z.toArray 36)) := ((Below.refl _ _).alloc (Nat.le_refl _) _).alloc (by simp) _
 have hr0 := CellsAt.new (w.alloc (.cells (dotC a s).toArray 33)) 36 Z
 rw [World.size_alloc] at hr0
 obtain ⟨E, hEE⟩ : ∃ E, refuseE own t = E := ⟨_, rfl⟩
 rw [hEE] at hE
 have HE := Veil.mk hEE
 have HZ := Veil.mk hZ
 have HZb := Veil.mk hZb
 have hE0 : (E == 0) = false := by simpa using hE
 go_enter Tryz.func13, Tryz.ntmps13
 go_upto_region 1 with fail
 refine forget (p := fun y => Code.wp _ _ _ _ y) (fun W => Below w.heap.size w W ∧ CellsAt W (w.heap.size + 1) 36 Z) ⟨by rw [hZ] at hB; exact hB, by rw [hZ] at hr0 ⊢; exact hr0⟩ ?_
 clear hB hr0 hZ hZb
 rintro W ⟨hB, hr0⟩
 have hf := refuse_any base H own seed b M v L W t (hR.far hB)
 rw [hEE] at hf
 clear hEE hR
 go_wp2_with (first
  | (go_at_call 35; refine hf.mono ?_; rintro e w1 ⟨rfl, rfl⟩)
  | (refine wpList_bldx rfl 36 _ rfl #[] (by first | rfl | kernel_rfl) _ (HZb.out _) ?_)
  | (refine wpList_stv rfl 36 _ _ rfl _ rfl rfl hr0 (by rw [hZl]; exact sizeWrapK) rfl hZ1 ?_))
 refine bodyPost_ret (results_ct (Tryz.results13) _ rfl rfl (hr0.setRow Z) Tryz.underlying36 rfl (by rw [hZl]; exact sizeWrapK)) rfl ⟨?_, ?_⟩
 · rw [HE.out, ← HZ.out]; rfl
 · exact below_setRow hB (by omega) _
end
section
variable (base H : Nat) (own : Int) (seed : List Int) (b : Nat) (M : Int → Int → Option (List Int)) (v : Value) (L : List (Int × Int)) (w : World)
set_option maxHeartbeats 4000000 in
theorem wrap_nokey (t a s : Int) (ho : okD a s) (hR : RingAt w base H own seed b M v L) (hE : refuseE own t = 0) (hm : M a s = none) :
    Calls Tryz.prog 13 #[.pointer (some ⟨H, 0, none⟩), .int .u8 t, .agg (dotC a s).toArray] w fun e w' => e = .returned (.tuple #[.agg wz.cells.toArray, .int .i64 9]) ∧ Below w.heap.size w w' := by
 obtain ⟨Z, hZl, hZ1, hZ, hZb⟩ : ∃ Z : List Value, Z.length = 51 ∧ (∀ u ∈ Z, u.oneCell' = true) ∧ Z = wz.cells ∧ ∀ wx, (Instr.build 36 #[]).run Tryz.prog wx = .ok (.agg Z.toArray) wx := ⟨_, rfl, wp_cells_one wz, rfl, wz_built⟩
 have hB : Below w.heap.size w ((w.alloc (.cells (dotC a s).toArray 33)).alloc (.cells Z.toArray 36)) := ((Below.refl _ _).alloc (Nat.le_refl _) _).alloc (by simp) _
 have hr0 := CellsAt.new (w.alloc (.cells (dotC a s).toArray 33)) 36 Z
 rw [World.size_alloc] at hr0
 have hd0 := (CellsAt.new w 33 (dotC a s)).alloc (.cells Z.toArray 36)
 have HZ := Veil.mk hZ
 have HZb := Veil.mk hZb
 have hKl := keyAt_length base H own seed b M v L w hR a s
 have HK : Veil (∀ W, Below w.heap.size w W → Calls Tryz.prog 21 #[.pointer (some ⟨H, 0, none⟩), .agg (dotC a s).toArray] W fun e w' => e = .returned (.tuple #[.agg (row .u8 (keyAt M a s)), .bool false]) ∧ Below W.heap.size W w') := ⟨fun W hb => by
  have := rKey_any base H own seed b M v L W a s ho (hR.far hb)
  rw [hm] at this
  exact this⟩
 obtain ⟨KA, hKA⟩ : ∃ q, keyAt M a s = q := ⟨_, rfl⟩
 rw [hKA] at HK hKl
 clear hKA
 go_enter Tryz.func13, Tryz.ntmps13
 go_upto_region 1 with fail
 refine forget (p := fun y => Code.wp _ _ _ _ y) (fun W => Below w.heap.size w W ∧ CellsAt W (w.heap.size + 1) 36 Z ∧ CellsAt W w.heap.size 33 (dotC a s)) ⟨by rw [hZ] at hB; exact hB, by rw [hZ] at hr0 ⊢; exact hr0, by rw [hZ] at hd0; exact hd0⟩ ?_
 clear hB hr0 hZ hZb hd0
 rintro W ⟨hB, hr0, hd0⟩
 have hf := refuse_any base H own seed b M v L W t (hR.far hB)
 rw [hE] at hf
 have hk := HK.out W hB
 have rD := hd0.range 0 2
 rw [show ((dotC a s).drop 0).take 2 = dotC a s from rfl] at rD
 clear hE hR HK
 go_upto_region 6 with (first
  | (go_at_call 35; refine hf.mono ?_; rintro e w1 ⟨rfl, rfl⟩)
  | (refine wpList_ldv rfl 33 _ rfl _ _ rfl (dotC a s) rD Tryz.underlying33 rfl sizeDotK ?_)
  | (go_at_call 21; refine hk.mono ?_; rintro e w2 ⟨rfl, hb2⟩; have hA1 := Holds.new w2 .u8 23 (List.replicate 32 0); have hr1 := (hr0.congr (hb2.block _ hr0.lt)).alloc (.cells (row .u8 (List.replicate 32 0)) 23))
  | (refine wpList_st rfl 23 _ _ rfl _ rfl rfl hA1 (by rw [hKl]; exact sizeKeyD) (by rw [hKl]; rfl) ?_))
 have hB2 := hB.trans (hb2.mono hB.size)
 have hlt := hr0.lt
 have hne : w.heap.size + 1 ≠ w2.heap.size := by have := hb2.size; omega
 refine forget (p := fun y => Code.wp _ _ _ _ y) (fun V => Below w.heap.size w V ∧ CellsAt V (w.heap.size + 1) 36 Z) ⟨below_setRow (hB2.alloc hB2.size _) hB2.size _, hr1.congr (setRow_other _ _ _ _ hne)⟩ ?_
 clear hA1 hr1 hr0 hd0 hf hk rD hB hb2 hB2
 rintro V ⟨hB, hr0⟩
 go_wp2_with (first
  | (refine wpList_bldx rfl 36 _ rfl #[] (by first | rfl | kernel_rfl) _ (HZb.out _) ?_)
  | (refine wpList_stv rfl 36 _ _ rfl _ rfl rfl hr0 (by rw [hZl]; exact sizeWrapK) rfl hZ1 ?_))
 refine bodyPost_ret (results_ct (Tryz.results13) _ rfl rfl (hr0.setRow Z) Tryz.underlying36 rfl (by rw [hZl]; exact sizeWrapK)) rfl ⟨?_, ?_⟩
 · rw [← HZ.out]; rfl
 · exact below_setRow hB (by omega) _
set_option maxHeartbeats 4000000 in
theorem wrap_ok (t a s : Int) (k : List Int) (ho : okD a s) (hR : RingAt w base H own seed b M v L) (hE : refuseE own t = 0) (hm : M a s = some k) (hKT : S.KTab w) :
    Calls Tryz.prog 13 #[.pointer (some ⟨H, 0, none⟩), .int .u8 t, .agg (dotC a s).toArray] w fun e w' => e = .returned (.tuple #[.agg (wrapOf seed own t a s k).cells.toArray, .int .i64 0]) ∧ Below w.heap.size w w' := by
 obtain ⟨Z, hZl, hZ1, hZ, hZb⟩ : ∃ Z : List Value, Z.length = 51 ∧ (∀ u ∈ Z, u.oneCell' = true) ∧ Z = wz.cells ∧ ∀ wx, (Instr.build 36 #[]).run Tryz.prog wx = .ok (.agg Z.toArray) wx := ⟨_, rfl, wp_cells_one wz, rfl, wz_built⟩
 have hB : Below w.heap.size w ((w.alloc (.cells (dotC a s).toArray 33)).alloc (.cells Z.toArray 36)) := ((Below.refl _ _).alloc (Nat.le_refl _) _).alloc (by simp) _
 have hr0 := CellsAt.new (w.alloc (.cells (dotC a s).toArray 33)) 36 Z
 rw [World.size_alloc] at hr0
 have hd0 := (CellsAt.new w 33 (dotC a s)).alloc (.cells Z.toArray 36)
 have HZ := Veil.mk hZ
 have HZb := Veil.mk hZb
 have hKl := keyAt_length base H own seed b M v L w hR a s
 have HK : Veil (∀ W, Below w.heap.size w W → Calls Tryz.prog 21 #[.pointer (some ⟨H, 0, none⟩), .agg (dotC a s).toArray] W fun e w' => e = .returned (.tuple #[.agg (row .u8 (keyAt M a s)), .bool true]) ∧ Below W.heap.size W w') := ⟨fun W hb => by
  have := rKey_any base H own seed b M v L W a s ho (hR.far hb)
  rw [hm] at this
  exact this⟩
 obtain ⟨KA, hKA⟩ : ∃ q, keyAt M a s = q := ⟨_, rfl⟩
 have HKA : Veil (KA = k) := ⟨by rw [← hKA]; unfold keyAt; rw [hm]; rfl⟩
 rw [hKA] at HK hKl
 clear hKA
 go_enter Tryz.func13, Tryz.ntmps13
 go_upto_region 1 with fail
 refine forget (p := fun y => Code.wp _ _ _ _ y) (fun W => Below w.heap.size w W ∧ CellsAt W (w.heap.size + 1) 36 Z ∧ CellsAt W w.heap.size 33 (dotC a s)) ⟨by rw [hZ] at hB; exact hB, by rw [hZ] at hr0 ⊢; exact hr0, by rw [hZ] at hd0; exact hd0⟩ ?_
 clear hB hr0 hZ hZb hd0
 rintro W ⟨hB, hr0, hd0⟩
 have hf := refuse_any base H own seed b M v L W t (hR.far hB)
 rw [hE] at hf
 have hk := HK.out W hB
 have rD := hd0.range 0 2
 rw [show ((dotC a s).drop 0).take 2 = dotC a s from rfl] at rD
 have hR0 := hR.far hB
 have HIN : Veil (∀ g, ringP H b v g → g < w.heap.size) := ⟨fun g hg => (hR.inside g hg).1⟩
 clear hE hR HK
 have hm0 := hm
 clear hm hm0
 go_upto_region 7 with (first
  | (go_at_call 35; refine hf.mono ?_; rintro e w1 ⟨rfl, rfl⟩)
  | (refine wpList_ldv rfl 33 _ rfl _ _ rfl (dotC a s) rD Tryz.underlying33 rfl sizeDotK ?_)
  | (go_at_call 21; refine hk.mono ?_; rintro e w2 ⟨rfl, hb2⟩; have hA1 := Holds.new w2 .u8 23 (List.replicate 32 0); have hr1 := (hr0.congr (hb2.block _ hr0.lt)).alloc (.cells (row .u8 (List.replicate 32 0)) 23); have hd1 := (hd0.congr (hb2.block _ hd0.lt)).alloc (.cells (row .u8 (List.replicate 32 0)) 23))
  | (refine wpList_st rfl 23 _ _ rfl _ rfl rfl hA1 (by rw [hKl]; exact sizeKeyD) (by rw [hKl]; rfl) ?_))
 have hB2 := hB.trans (hb2.mono hB.size)
 have hlt := hr0.lt
 have hsz := hb2.size
 have hne : w.heap.size + 1 ≠ w2.heap.size := by omega
 have hR2 := hR0.far (hb2.trans ((below_setRow ((Below.refl _ _).alloc (Nat.le_refl _) (.cells (row .u8 (List.replicate 32 0)) 23)) (Nat.le_refl _) (row .u8 KA)).mono hsz))
 refine forget (p := fun y => Code.wp _ _ _ _ y) (fun V => Below w.heap.size w V ∧ RingAt V base H own seed b M v L ∧ CellsAt V (w.heap.size + 1) 36 Z ∧ CellsAt V w.heap.size 33 (dotC a s) ∧ Holds V w2.heap.size .u8 23 KA) ⟨below_setRow (hB2.alloc hB2.size _) hB2.size _, hR2, hr1.congr (setRow_other _ _ _ _ hne), hd1.congr (setRow_other _ _ _ _ (by omega)), hA1.setRow _⟩ ?_
 clear hA1 hr1 hr0 hd0 hf hk rD hB hb2 hB2 hR2 hd1 hR0
 obtain ⟨G, hG⟩ : ∃ q, w2.heap.size = q := ⟨_, rfl⟩
 rw [hG] at hne hsz ⊢
 clear hG
 have hG2 : w.heap.size + 1 < G := by omega
 clear hlt hsz hne
 rintro V ⟨hB, hR0, hr0, hd0, hk0⟩
 have rD := hd0.range 0 2
 rw [show ((dotC a s).drop 0).take 2 = dotC a s from rfl] at rD
 have HWT : Veil (∀ wx, (Instr.build 36 #[(0, .int .u8 t), (1, .agg (dotC a s).toArray)]).run Tryz.prog wx = .ok (.agg (⟨t, a, s, List.replicate 48 0⟩ : Wp).cells.toArray) wx) := ⟨wrap_to t a s⟩
 have hw1 := CellsAt.new V 36 wz.cells
 obtain ⟨WC, hWC⟩ : ∃ q, (⟨t, a, s, List.replicate 48 0⟩ : Wp).cells = q := ⟨_, rfl⟩
 have hWCl : WC.length = 51 := by rw [← hWC]; rfl
 have hWC1 : ∀ u ∈ WC, u.oneCell' = true := by rw [← hWC]; exact wp_cells_one _
 have HWC := Veil.mk hWC
 rw [hWC] at HWT
 clear hWC
 go_upto_region 8 with (first
  | (refine wpList_ldv rfl 33 _ rfl _ _ rfl (dotC a s) rD Tryz.underlying33 rfl sizeDotK ?_)
  | (refine wpList_bldx rfl 36 _ rfl #[(0, .int .u8 t), (1, .agg (dotC a s).toArray)] (by first | rfl | kernel_rfl) _ (HWT.out _) ?_)
  | (refine wpList_stv rfl 36 _ _ rfl _ rfl rfl hw1 (by rw [hWCl]; exact sizeWrapK) (by rw [hWCl]; rfl) hWC1 ?_))
 have hb3 : Below V.heap.size V ((V.alloc (.cells wz.cells.toArray 36)).setRow V.heap.size WC.toArray) := below_setRow ((Below.refl _ _).alloc (Nat.le_refl _) _) (Nat.le_refl _) _
 have hkl := hk0.lt
 refine forget (p := fun y => Code.wp _ _ _ _ y) (fun V' => Below w.heap.size w V' ∧ RingAt V' base H own seed b M v L ∧ CellsAt V' (w.heap.size + 1) 36 Z ∧ CellsAt V' w.heap.size 33 (dotC a s) ∧ Holds V' G .u8 23 KA ∧ CellsAt V' V.heap.size 36 WC) ⟨hB.trans (hb3.mono hB.size), hR0.far hb3, hr0.congr (hb3.block _ hr0.lt), hd0.congr (hb3.block _ hd0.lt), hk0.below hb3 hk0.lt, hw1.setRow _⟩ ?_
 clear hb3 hw1 HWT rD hB hR0 hr0 hd0 hk0
 obtain ⟨GW, hGW⟩ : ∃ q, V.heap.size = q := ⟨_, rfl⟩
 rw [hGW] at hkl ⊢
 clear hGW
 clear V
 rintro V ⟨hB, hR0, hr0, hd0, hk0, hw0⟩
 have hH : H ≠ GW ∧ (∀ g, ringP H b v g → g < w.heap.size) := ⟨fun e => by have := (HIN.out H (.inl rfl)); omega, HIN.out⟩
 have uD : Tryz.prog.underlying 33 = _ := Tryz.underlying33
 have iD : (Tryz.prog.info? 33).map (·.size) = some (dotC a s).length := sizeDotK
 have HT : ∀ W' : World, RingAt W' base H own seed b M v L → CellsAt W' w.heap.size 33 (dotC a s) → (fun w' : World => w'.cell? ⟨H, 0, none⟩ = some (.int .u8 own) ∧ w'.rangeAt w.heap.size 0 (dotC a s)) W' := fun W' h1 h2 => ⟨by have := h1.box.cell 0; rw [ringC_own] at this; exact this, h2.range 0 2⟩
 have hPl : (pairL seed own t).length = 32 := derL_length _ _
 have hNl : (wrapNL own t a s).length = 12 := rfl
 have hSl : (sealL (pairL seed own t) (wrapNL own t a s) [] KA).length = 48 := by rw [sealL_length, hKl]
 have HSE : Veil (wrapOf seed own t a s k = ⟨t, a, s, sealL (pairL seed own t) (wrapNL own t a s) [] KA⟩) := ⟨by unfold wrapOf; rw [HKA.out]⟩
 have HPAIR : ∀ W, RingAt W base H own seed b M v L → Below w.heap.size w W → Calls Tryz.prog 37 #[.pointer (some ⟨H, 0, none⟩), .int .u8 own, .int .u8 t] W fun e w' => e = .returned (.agg (row .u8 (pairL seed own t))) ∧ Below W.heap.size W w' := fun W h1 h2 => rPair_any base H own seed b M v L W own t h1 (hKT.below h2)
 have HNON : ∀ W, Calls Tryz.prog 38 #[.int .u8 own, .int .u8 t, .agg (dotC a s).toArray] W fun e w' => e = .returned (.agg (row .u8 (wrapNL own t a s))) ∧ Below W.heap.size W w' := fun W => wnonce_any own t a s W
 have HSEAL : ∀ W, Holds W G .u8 23 KA → Calls Tryz.prog 36 #[.agg (row .u8 (pairL seed own t)), .agg (row .u8 (wrapNL own t a s)), .slice none 0 0, .slice (some ⟨G, 0, none⟩) 32 32] W fun e w' => ∃ v, e = .returned v ∧ OwnB w' W.heap.size v (sealL (pairL seed own t) (wrapNL own t a s) [] KA) ∧ Below W.heap.size W w' := fun W h => seal_any _ _ none 0 0 [] _ 32 32 KA W hPl hNl (bytes_nil W) (h.bytes hKl.symm (by omega)) (by omega) (by omega)
 obtain ⟨PL, hPL⟩ : ∃ q, pairL seed own t = q := ⟨_, rfl⟩
 obtain ⟨NL, hNL⟩ : ∃ q, wrapNL own t a s = q := ⟨_, rfl⟩
 rw [hPL] at HPAIR HSEAL HSE hSl
 rw [hNL] at HNON HSEAL HSE hSl
 obtain ⟨SE, hSE⟩ : ∃ q, sealL PL NL [] KA = q := ⟨_, rfl⟩
 rw [hSE] at HSEAL HSE hSl
 clear hPL hNL hSE hPl hNl
 have HSE' := HSE
 obtain ⟨V0, hV0⟩ : ∃ q, V.drew = q := ⟨_, rfl⟩
 have hB0 : Below w.heap.size w V0 := by rw [← hV0]; exact hB.drew
 have hR1 : RingAt V0 base H own seed b M v L := by rw [← hV0]; exact hR0.congr fun _ _ => rfl
 have hr1 : CellsAt V0 (w.heap.size + 1) 36 Z := by rw [← hV0]; exact hr0
 have hd1 : CellsAt V0 w.heap.size 33 (dotC a s) := by rw [← hV0]; exact hd0
 have hk1 : Holds V0 G .u8 23 KA := by rw [← hV0]; exact hk0
 have hw1 : CellsAt V0 GW 36 WC := by rw [← hV0]; exact hw0
 refine wp_region_gateT (fun w' => w'.cell? ⟨H, 0, none⟩ = some (.int .u8 own) ∧ w'.rangeAt w.heap.size 0 (dotC a s)) (fun _ => True) 18 (by kernel_rfl) ?_
 rw [hV0]
 clear hV0 hB hR0 hr0 hd0 hk0 hw0
 have hT := HT V0 hR1 hd1
 have hS : (fun _ : World => True) V0 := trivial
 refine ghA 0 _ hT hS ?_
 simp only [Act.put, gA, gS, gZ, sI, sZ, sS]
 refine ghA 1 _ hT hS ?_
 simp only [Act.put, gA, gS, gZ, sI, sZ, sS]
 refine ghA 2 _ hT hS ?_
 simp only [Act.put, gA, gS, gZ, sI, sZ, sS]
 refine ghA 3 _ hT hS ?_
 simp only [Act.put, gA, gS, gZ, sI, sZ, sS]
 refine ghA 4 _ hT hS ?_
 simp only [Act.put, gA, gS, gZ, sI, sZ, sS]
 refine ghA 5 _ hT hS ?_
 simp only [Act.put, gA, gS, gZ, sI, sZ, sS]
 refine ghA 6 _ hT hS ?_
 simp only [Act.put, gA, gS, gZ, sI, sZ, sS]
 refine ghA 7 _ hT hS ?_
 simp only [Act.put, gA, gS, gZ, sI, sZ, sS]
 refine ghA 9 _ hT hS ?_
 simp only [Act.put, gA, gS, gZ, sI, sZ, sS]
 refine ghA 10 _ hT hS ?_
 simp only [Act.put, gA, gS, gZ, sI, sZ, sS]
 refine ghA 11 _ hT hS ?_
 simp only [Act.put, gA, gS, gZ, sI, sZ, sS]
 refine ghA 12 _ hT hS ?_
 simp only [Act.put, gA, gS, gZ, sI, sZ, sS]
 refine ghA 13 _ hT hS ?_
 simp only [Act.put, gA, gS, gZ, sI, sZ, sS]
 refine gl 14 45 33 5 w.heap.size 0 (dotC a s) (by kernel_rfl) (by kernel_rfl) (by kernel_rfl) (fun _ _ _ h => h) hT hS (by kernel_rfl) (fun _ h => h.2) uD rfl iD ?_
 simp only [Act.put, gA, gS, gZ, sI, sZ, sS]
 refine ghA 16 _ hT hS ?_
 simp only [Act.put, gA, gS, gZ, sI, sZ, sS]
 refine wpAnyT_one (i := 8) rfl (by kernel_rfl) (by kernel_rfl) (fun K hK => ?_)
 refine wpx_call _ _ (by kernel_rfl) ((HPAIR V0 hR1 hB0).mono ?_)
 rintro e V1 ⟨rfl, hb1⟩
 refine ⟨_, rfl, ?_⟩
 have hB1 := hB0.trans (hb1.mono hB0.size)
 have hR2 := hR1.far hb1
 have hr2 := hr1.congr (hb1.block _ hr1.lt)
 have hd2 := hd1.congr (hb1.block _ hd1.lt)
 have hk2 := hk1.below hb1 hk1.lt
 have hw2 := hw1.congr (hb1.block _ hw1.lt)
 replace hT := HT V1 hR2 hd2
 clear hR1 hr1 hd1 hk1 hw1 hb1 hB0
 refine hK.out _ _ hT (fun _ => hS) ?_
 clear hK K
 try simp only [Act.put, gA, gS, gZ, sI, sZ, sS]
 refine wpAnyT_one (i := 15) rfl (by kernel_rfl) (by kernel_rfl) (fun K hK => ?_)
 refine wpx_call _ _ (by kernel_rfl) ((HNON V1).mono ?_)
 rintro e V2 ⟨rfl, hb1⟩
 refine ⟨_, rfl, ?_⟩
 have hB2 := hB1.trans (hb1.mono hB1.size)
 have hR1 := hR2.far hb1
 have hr1 := hr2.congr (hb1.block _ hr2.lt)
 have hd1 := hd2.congr (hb1.block _ hd2.lt)
 have hk1 := hk2.below hb1 hk2.lt
 have hw1 := hw2.congr (hb1.block _ hw2.lt)
 replace hT := HT V2 hR1 hd1
 clear hR2 hr2 hd2 hk2 hw2 hb1 hB1
 refine hK.out _ _ hT (fun _ => hS) ?_
 clear hK K
 try simp only [Act.put, gA, gS, gZ, sI, sZ, sS]
 refine wpAnyT_one (i := 17) rfl (by kernel_rfl) (by kernel_rfl) (fun K hK => ?_)
 refine wpx_call _ _ (by kernel_rfl) ((HSEAL V2 hk1).mono ?_)
 rintro e V3 ⟨vs, rfl, hos, hb1⟩
 refine ⟨_, rfl, ?_⟩
 have hB3 := hB2.trans (hb1.mono hB2.size)
 have hR2 := hR1.far hb1
 have hr2 := hr1.congr (hb1.block _ hr1.lt)
 have hd2 := hd1.congr (hb1.block _ hd1.lt)
 have hw2 := hw1.congr (hb1.block _ hw1.lt)
 obtain ⟨gs, cs, rfl, hgs⟩ := hos.slice (by omega)
 have hrg := hos.bytes.2.rangeK
 rw [hSl]
 replace hT := HT V3 hR2 hd2
 clear hR1 hr1 hd1 hk1 hw1 hb1 hB2 HSEAL HNON HPAIR hos
 refine hK.out _ _ hT (fun _ => hS) ?_
 clear hK K
 try simp only [Act.put, gA, gS, gZ, sI, sZ, sS]
 refine wpAnyT_one (i := 18) rfl (by kernel_rfl) (by kernel_rfl) (fun K hK => ?_)
 have hcp := run_copy_row (P := Tryz.prog) V3 74 74 3 5 GW 3 48 48 ⟨gs, 0, none⟩ 48 cs WC.toArray 36 (SE.map (Value.int .u8)) Tryz.underlying74 size1u8 hw2 (by simp [hSl]) (fun j u hu => by rw [Addr.add_mid']; exact hrg j u hu) (by simp [hSl, hWCl]) (fun u hu => by simp only [List.mem_map] at hu; obtain ⟨_, _, rfl⟩ := hu; rfl)
 have hWE : (WC.toArray.toList.take 3 ++ SE.map (Value.int .u8) ++ WC.toArray.toList.drop (3 + (SE.map (Value.int .u8)).length)) = (⟨t, a, s, SE⟩ : Wp).cells := by
  rw [← HWC.out]
  simp [Wp.cells, dotC, hSl]
 rw [hWE] at hcp
 refine wpx_copy _ _ _ _ rfl _ _ _ _ rfl rfl hcp ?_
 have hB4 := below_setRow (g := GW) hB3 (by omega) (⟨t, a, s, SE⟩ : Wp).cells.toArray
 have hR3 := hR2.congr (w' := V3.setRow GW (⟨t, a, s, SE⟩ : Wp).cells.toArray) fun g hg => setRow_other _ _ _ _ (by have := hH.2 g hg; omega)
 have hr3 := hr2.congr (w' := V3.setRow GW (⟨t, a, s, SE⟩ : Wp).cells.toArray) (setRow_other _ _ _ _ (by omega))
 have hd3 := hd2.congr (w' := V3.setRow GW (⟨t, a, s, SE⟩ : Wp).cells.toArray) (setRow_other _ _ _ _ (by omega))
 have hw3 := hw2.setRow (⟨t, a, s, SE⟩ : Wp).cells
 replace hT := HT _ hR3 hd3
 refine hK.out _ _ hT (fun h => absurd (show true = false from h) (by decide)) ?_
 clear hK K
 try simp only [Act.put, gA, gS, gZ, sI, sZ, sS]
 refine wpAnyT_done (by kernel_rfl) ?_ _
 have hWl := wp_cells_length ⟨t, a, s, SE⟩ hSl
 have hW1 := wp_cells_one ⟨t, a, s, SE⟩
 refine forget (p := fun y => Exit.then _ _ _ _ y) (fun V' => Below w.heap.size w V' ∧ CellsAt V' (w.heap.size + 1) 36 Z ∧ CellsAt V' GW 36 (⟨t, a, s, SE⟩ : Wp).cells) ⟨hB4, hr3, hw3⟩ ?_
 obtain ⟨WE, hWE2⟩ : ∃ q, (⟨t, a, s, SE⟩ : Wp).cells = q := ⟨_, rfl⟩
 have HWE := Veil.mk hWE2
 rw [hWE2] at hWl hW1 ⊢
 clear hWE2 hB4 hR3 hr3 hd3 hw3 hT hcp hWE hB3 hR2 hr2 hd2 hw2 hrg HT
 rintro V' ⟨hB, hr, hw⟩
 have rW := hw.range 0 51
 rw [List.drop_zero, List.take_of_length_le (by omega)] at rW
 go_wp2_with (first
  | (refine wpList_ldv rfl 36 _ rfl _ _ rfl WE rW Tryz.underlying36 rfl (by rw [hWl]; exact sizeWrapK) ?_)
  | (refine wpList_stv rfl 36 _ _ rfl _ rfl rfl hr (by rw [hWl]; exact sizeWrapK) (by rw [hZl, hWl]) hW1 ?_))
 refine bodyPost_ret (results_ct (Tryz.results13) _ rfl rfl (hr.setRow WE) Tryz.underlying36 rfl (by rw [hWl]; exact sizeWrapK)) rfl ⟨?_, ?_⟩
 · rw [HSE'.out, HWE.out]; rfl
 · exact below_setRow hB (by omega) _
end
end Go.Proofs.YtflkhkmejnpapaaGreatDoor
