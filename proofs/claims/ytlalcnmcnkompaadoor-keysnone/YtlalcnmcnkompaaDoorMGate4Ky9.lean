/- Gate3: the read of a long row that is held all along. keys: 'Wrap', of an epoch that is not there, and of one that is. -/
import Derived.Test.YtlalcnmcnkompaaDoorMAn6Gate3
import Derived.Deep.MidRow
import Derived.Test.YtlalcnmcnkompaaDoorMKy7Ky8
namespace Go.Proofs.YtlalcnmcnkompaaDoor
open Go Go.RowKit

section
variable {P : Program} {ops : Array Oper} {Q : Exit → Act → World → Prop} {md : Region.Mode} {T S : World → Prop} {D : Nat}
theorem wpAnyT_load {i : Nat} {dst : Option Tmp} {ty : TypeId} {x : Operand} {b o : Nat} {cs : List Value} {d : TypeDesc} {fuel : Nat} {listed : Array Bool} {a : Act} {w : World}
    (hop : (ops[i]?).map (fun o => (o.dst, o.op)) = some (dst, .load ty x)) (hw : (ops[i]?).map (fun o => Region.wanted o (yielded ops a.tmps)) = some true)
    (hs : Region.noSelect ops = true) (hf : Region.free md ops listed i = true) (hr : (Region.ready md ops listed).contains i = true)
    (hQ : ∀ c a w, Q (.panic c) (a.put dst (.agg cs.toArray)) w → Q (.panic c) a w) (hD : (i == D) = false) (hT : T w) (hS : listed.getD D true = false → S w)
    (hx : a.eval x = .pointer (some ⟨b, o, none⟩)) (hc : ∀ w, T w → w.rangeAt b o cs) (hu : P.underlying ty = some d) (hd : d.isRow = true) (hi : (P.info? ty).map (·.size) = some cs.length)
    (h : wpAnyT P md ops Q T S D fuel (listed.setIfInBounds i true) (a.put dst (.agg cs.toArray)) w) : wpAnyT P md ops Q T S D (fuel + 1) listed a w := by
  cases ho : ops[i]? with
  | none => rw [ho] at hop; cases hop
  | some oi =>
    rw [ho] at hop hw
    simp only [Option.map_some, Option.some.injEq, Prod.mk.injEq] at hop hw
    obtain ⟨rfl, hop⟩ := hop
    exact wpAnyT_first (U := T) ho (Region.noSelect_spec hs) hQ (by simpa using hD) (.inl fun _ h => h) fuel listed a w (Region.free_spec ho hf) (by simpa using hr) (.inl fun _ h => h) (yieldsIf_load_mid hw ty x hop b o hx cs d hc hu hd hi) hT hS h
end
end Go.Proofs.YtlalcnmcnkompaaDoor

namespace Go.Proofs.YtlalcnmcnkompaaDoor
open Go.RowKit
set_option maxRecDepth 20000
set_option linter.unusedSimpArgs false
section
variable (base H : Nat) (own : Int) (seed : List Int) (b : Nat) (M : Int → Int → Option (List Int)) (v : Value) (L : List (Int × Int)) (w : World)
set_option maxHeartbeats 4000000 in
theorem wrap_nokey (t a s : Int) (ho : okD a s) (hR : RingAt w base H own seed b M v L) (hE : refuseE own t = 0) (hm : M a s = none) :
    Calls Tryd.prog 18 #[.pointer (some ⟨H, 0, none⟩), .int .u8 t, .agg (dotC a s).toArray] w fun e w' => e = .returned (.tuple #[.agg wz.cells.toArray, .int .i64 9]) ∧ Below w.heap.size w w' := by
  obtain ⟨Z, hZl, hZ1, hZ, hZb⟩ : ∃ Z : List Value, Z.length = 51 ∧ (∀ u ∈ Z, u.oneCell' = true) ∧ Z = wz.cells ∧ ∀ wx, (Instr.build 39 #[]).run Tryd.prog wx = .ok (.agg Z.toArray) wx := ⟨_, rfl, wp_cells_one wz, rfl, wz_built⟩
  have hB : Below w.heap.size w ((w.alloc (.cells (dotC a s).toArray 36)).alloc (.cells Z.toArray 39)) := ((Below.refl _ _).alloc (Nat.le_refl _) _).alloc (by simp) _
  have hr0 := CellsAt.new (w.alloc (.cells (dotC a s).toArray 36)) 39 Z
  rw [World.size_alloc] at hr0
  have hd0 := (CellsAt.new w 36 (dotC a s)).alloc (.cells Z.toArray 39)
  have HZ := Veil.mk hZ
  have HZb := Veil.mk hZb
  have hKl := keyAt_length base H own seed b M v L w hR a s
  have HK : Veil (∀ W, Below w.heap.size w W → Calls Tryd.prog 19 #[.pointer (some ⟨H, 0, none⟩), .agg (dotC a s).toArray] W fun e w' => e = .returned (.tuple #[.agg (row .u8 (keyAt M a s)), .bool false]) ∧ Below W.heap.size W w') := ⟨fun W hb => by
    have := rKey_any base H own seed b M v L W a s ho (hR.far hb)
    rw [hm] at this
    exact this⟩
  obtain ⟨KA, hKA⟩ : ∃ q, keyAt M a s = q := ⟨_, rfl⟩
  rw [hKA] at HK hKl
  clear hKA
  go_enter Tryd.func18, Tryd.ntmps18
  go_upto_region 1 with fail
  refine forget (p := fun y => Code.wp _ _ _ _ y) (fun W => Below w.heap.size w W ∧ CellsAt W (w.heap.size + 1) 39 Z ∧ CellsAt W w.heap.size 36 (dotC a s)) ⟨by rw [hZ] at hB; exact hB, by rw [hZ] at hr0 ⊢; exact hr0, by rw [hZ] at hd0; exact hd0⟩ ?_
  clear hB hr0 hZ hZb hd0
  rintro W ⟨hB, hr0, hd0⟩
  have hf := refuse_any base H own seed b M v L W t (hR.far hB)
  rw [hE] at hf
  have hk := HK.out W hB
  have rD := hd0.range 0 2
  rw [show ((dotC a s).drop 0).take 2 = dotC a s from rfl] at rD
  clear hE hR HK
  go_upto_region 6 with (first
    | (go_at_call 31; refine hf.mono ?_; rintro e w1 ⟨rfl, rfl⟩)
    | (refine wpList_ldv rfl 36 _ rfl _ _ rfl (dotC a s) rD Tryd.underlying36 rfl sizeDotK ?_)
    | (go_at_call 19; refine hk.mono ?_; rintro e w2 ⟨rfl, hb2⟩; have hA1 := Holds.new w2 .u8 23 (List.replicate 32 0); have hr1 := (hr0.congr (hb2.block _ hr0.lt)).alloc (.cells (row .u8 (List.replicate 32 0)) 23))
    | (refine wpList_st rfl 23 _ _ rfl _ rfl rfl hA1 (by rw [hKl]; exact sizeKeyD) (by rw [hKl]; rfl) ?_))
  have hB2 := hB.trans (hb2.mono hB.size)
  have hlt := hr0.lt
  have hne : w.heap.size + 1 ≠ w2.heap.size := by have := hb2.size; omega
  refine forget (p := fun y => Code.wp _ _ _ _ y) (fun V => Below w.heap.size w V ∧ CellsAt V (w.heap.size + 1) 39 Z) ⟨below_setRow (hB2.alloc hB2.size _) hB2.size _, hr1.congr (setRow_other _ _ _ _ hne)⟩ ?_
  clear hA1 hr1 hr0 hd0 hf hk rD hB hb2 hB2
  rintro V ⟨hB, hr0⟩
  go_wp2_with (first
    | (refine wpList_bldx rfl 39 _ rfl #[] (by first | rfl | kernel_rfl) _ (HZb.out _) ?_)
    | (refine wpList_stv rfl 39 _ _ rfl _ rfl rfl hr0 (by rw [hZl]; exact sizeWrapK) rfl hZ1 ?_))
  refine bodyPost_ret (results_ct (Tryd.results18) _ rfl rfl (hr0.setRow Z) Tryd.underlying39 rfl (by rw [hZl]; exact sizeWrapK)) rfl ⟨?_, ?_⟩
  · rw [← HZ.out]; rfl
  · exact below_setRow hB (by omega) _
set_option maxHeartbeats 4000000 in
theorem wrap_ok (t a s : Int) (k : List Int) (ho : okD a s) (hR : RingAt w base H own seed b M v L) (hE : refuseE own t = 0) (hm : M a s = some k) (hKT : S.KTab w) :
    Calls Tryd.prog 18 #[.pointer (some ⟨H, 0, none⟩), .int .u8 t, .agg (dotC a s).toArray] w fun e w' => e = .returned (.tuple #[.agg (wrapOf seed own t a s k).cells.toArray, .int .i64 0]) ∧ Below w.heap.size w w' := by
  obtain ⟨Z, hZl, hZ1, hZ, hZb⟩ : ∃ Z : List Value, Z.length = 51 ∧ (∀ u ∈ Z, u.oneCell' = true) ∧ Z = wz.cells ∧ ∀ wx, (Instr.build 39 #[]).run Tryd.prog wx = .ok (.agg Z.toArray) wx := ⟨_, rfl, wp_cells_one wz, rfl, wz_built⟩
  have hB : Below w.heap.size w ((w.alloc (.cells (dotC a s).toArray 36)).alloc (.cells Z.toArray 39)) := ((Below.refl _ _).alloc (Nat.le_refl _) _).alloc (by simp) _
  have hr0 := CellsAt.new (w.alloc (.cells (dotC a s).toArray 36)) 39 Z
  rw [World.size_alloc] at hr0
  have hd0 := (CellsAt.new w 36 (dotC a s)).alloc (.cells Z.toArray 39)
  have HZ := Veil.mk hZ
  have HZb := Veil.mk hZb
  have hKl := keyAt_length base H own seed b M v L w hR a s
  have HK : Veil (∀ W, Below w.heap.size w W → Calls Tryd.prog 19 #[.pointer (some ⟨H, 0, none⟩), .agg (dotC a s).toArray] W fun e w' => e = .returned (.tuple #[.agg (row .u8 (keyAt M a s)), .bool true]) ∧ Below W.heap.size W w') := ⟨fun W hb => by
    have := rKey_any base H own seed b M v L W a s ho (hR.far hb)
    rw [hm] at this
    exact this⟩
  obtain ⟨KA, hKA⟩ : ∃ q, keyAt M a s = q := ⟨_, rfl⟩
  have HKA : Veil (KA = k) := ⟨by rw [← hKA]; unfold keyAt; rw [hm]; rfl⟩
  rw [hKA] at HK hKl
  clear hKA
  go_enter Tryd.func18, Tryd.ntmps18
  go_upto_region 1 with fail
  refine forget (p := fun y => Code.wp _ _ _ _ y) (fun W => Below w.heap.size w W ∧ CellsAt W (w.heap.size + 1) 39 Z ∧ CellsAt W w.heap.size 36 (dotC a s)) ⟨by rw [hZ] at hB; exact hB, by rw [hZ] at hr0 ⊢; exact hr0, by rw [hZ] at hd0; exact hd0⟩ ?_
  clear hB hr0 hZ hZb hd0
  rintro W ⟨hB, hr0, hd0⟩
  have hf := refuse_any base H own seed b M v L W t (hR.far hB)
  rw [hE] at hf
  have hk := HK.out W hB
  have rD := hd0.range 0 2
  rw [show ((dotC a s).drop 0).take 2 = dotC a s from rfl] at rD
  have hR0 := hR.far hB
  have HIN : Veil (∀ g, ringP H b v g → g < w.heap.size) := ⟨fun g hg => (hR.inside g hg).1⟩
  clear hE hR HK
  have hm0 := hm
  clear hm hm0
  go_upto_region 7 with (first
    | (go_at_call 31; refine hf.mono ?_; rintro e w1 ⟨rfl, rfl⟩)
    | (refine wpList_ldv rfl 36 _ rfl _ _ rfl (dotC a s) rD Tryd.underlying36 rfl sizeDotK ?_)
    | (go_at_call 19; refine hk.mono ?_; rintro e w2 ⟨rfl, hb2⟩; have hA1 := Holds.new w2 .u8 23 (List.replicate 32 0); have hr1 := (hr0.congr (hb2.block _ hr0.lt)).alloc (.cells (row .u8 (List.replicate 32 0)) 23); have hd1 := (hd0.congr (hb2.block _ hd0.lt)).alloc (.cells (row .u8 (List.replicate 32 0)) 23))
    | (refine wpList_st rfl 23 _ _ rfl _ rfl rfl hA1 (by rw [hKl]; exact sizeKeyD) (by rw [hKl]; rfl) ?_))
  have hB2 := hB.trans (hb2.mono hB.size)
  have hlt := hr0.lt
  have hsz := hb2.size
  have hne : w.heap.size + 1 ≠ w2.heap.size := by omega
  have hR2 := hR0.far (hb2.trans ((below_setRow ((Below.refl _ _).alloc (Nat.le_refl _) (.cells (row .u8 (List.replicate 32 0)) 23)) (Nat.le_refl _) (row .u8 KA)).mono hsz))
  refine forget (p := fun y => Code.wp _ _ _ _ y) (fun V => Below w.heap.size w V ∧ RingAt V base H own seed b M v L ∧ CellsAt V (w.heap.size + 1) 39 Z ∧ CellsAt V w.heap.size 36 (dotC a s) ∧ Holds V w2.heap.size .u8 23 KA) ⟨below_setRow (hB2.alloc hB2.size _) hB2.size _, hR2, hr1.congr (setRow_other _ _ _ _ hne), hd1.congr (setRow_other _ _ _ _ (by omega)), hA1.setRow _⟩ ?_
  clear hA1 hr1 hr0 hd0 hf hk rD hB hb2 hB2 hR2 hd1 hR0
  obtain ⟨G, hG⟩ : ∃ q, w2.heap.size = q := ⟨_, rfl⟩
  rw [hG] at hne hsz ⊢
  clear hG
  have hG2 : w.heap.size + 1 < G := by omega
  clear hlt hsz hne
  rintro V ⟨hB, hR0, hr0, hd0, hk0⟩
  have rD := hd0.range 0 2
  rw [show ((dotC a s).drop 0).take 2 = dotC a s from rfl] at rD
  have HWT : Veil (∀ wx, (Instr.build 39 #[(0, .int .u8 t), (1, .agg (dotC a s).toArray)]).run Tryd.prog wx = .ok (.agg (⟨t, a, s, List.replicate 48 0⟩ : Wp).cells.toArray) wx) := ⟨wrap_to t a s⟩
  have hw1 := CellsAt.new V 39 wz.cells
  obtain ⟨WC, hWC⟩ : ∃ q, (⟨t, a, s, List.replicate 48 0⟩ : Wp).cells = q := ⟨_, rfl⟩
  have hWCl : WC.length = 51 := by rw [← hWC]; rfl
  have hWC1 : ∀ u ∈ WC, u.oneCell' = true := by rw [← hWC]; exact wp_cells_one _
  have HWC := Veil.mk hWC
  rw [hWC] at HWT
  clear hWC
  go_upto_region 8 with (first
    | (refine wpList_ldv rfl 36 _ rfl _ _ rfl (dotC a s) rD Tryd.underlying36 rfl sizeDotK ?_)
    | (refine wpList_bldx rfl 39 _ rfl #[(0, .int .u8 t), (1, .agg (dotC a s).toArray)] (by first | rfl | kernel_rfl) _ (HWT.out _) ?_)
    | (refine wpList_stv rfl 39 _ _ rfl _ rfl rfl hw1 (by rw [hWCl]; exact sizeWrapK) (by rw [hWCl]; rfl) hWC1 ?_))
  have hb3 : Below V.heap.size V ((V.alloc (.cells wz.cells.toArray 39)).setRow V.heap.size WC.toArray) := below_setRow ((Below.refl _ _).alloc (Nat.le_refl _) _) (Nat.le_refl _) _
  have hkl := hk0.lt
  refine forget (p := fun y => Code.wp _ _ _ _ y) (fun V' => Below w.heap.size w V' ∧ RingAt V' base H own seed b M v L ∧ CellsAt V' (w.heap.size + 1) 39 Z ∧ CellsAt V' w.heap.size 36 (dotC a s) ∧ Holds V' G .u8 23 KA ∧ CellsAt V' V.heap.size 39 WC) ⟨hB.trans (hb3.mono hB.size), hR0.far hb3, hr0.congr (hb3.block _ hr0.lt), hd0.congr (hb3.block _ hd0.lt), hk0.below hb3 hk0.lt, hw1.setRow _⟩ ?_
  clear hb3 hw1 HWT rD hB hR0 hr0 hd0 hk0
  obtain ⟨GW, hGW⟩ : ∃ q, V.heap.size = q := ⟨_, rfl⟩
  rw [hGW] at hkl ⊢
  clear hGW
  clear V
  rintro V ⟨hB, hR0, hr0, hd0, hk0, hw0⟩
  have hH : H ≠ GW ∧ (∀ g, ringP H b v g → g < w.heap.size) := ⟨fun e => by have := (HIN.out H (.inl rfl)); omega, HIN.out⟩
  have uD : Tryd.prog.underlying 36 = _ := Tryd.underlying36
  have iD : (Tryd.prog.info? 36).map (·.size) = some (dotC a s).length := sizeDotK
  have HT : ∀ W' : World, RingAt W' base H own seed b M v L → CellsAt W' w.heap.size 36 (dotC a s) → (fun w' : World => w'.cell? ⟨H, 0, none⟩ = some (.int .u8 own) ∧ w'.rangeAt w.heap.size 0 (dotC a s)) W' := fun W' h1 h2 => ⟨by have := h1.box.cell 0; rw [ringC_own] at this; exact this, h2.range 0 2⟩
  have hPl : (pairL seed own t).length = 32 := derL_length _ _
  have hNl : (wrapNL own t a s).length = 12 := rfl
  have hSl : (sealL (pairL seed own t) (wrapNL own t a s) [] KA).length = 48 := by rw [sealL_length, hKl]
  have HSE : Veil (wrapOf seed own t a s k = ⟨t, a, s, sealL (pairL seed own t) (wrapNL own t a s) [] KA⟩) := ⟨by unfold wrapOf; rw [HKA.out]⟩
  have HPAIR : ∀ W, RingAt W base H own seed b M v L → Below w.heap.size w W → Calls Tryd.prog 13 #[.pointer (some ⟨H, 0, none⟩), .int .u8 own, .int .u8 t] W fun e w' => e = .returned (.agg (row .u8 (pairL seed own t))) ∧ Below W.heap.size W w' := fun W h1 h2 => rPair_any base H own seed b M v L W own t h1 (hKT.below h2)
  have HNON : ∀ W, Calls Tryd.prog 33 #[.int .u8 own, .int .u8 t, .agg (dotC a s).toArray] W fun e w' => e = .returned (.agg (row .u8 (wrapNL own t a s))) ∧ Below W.heap.size W w' := fun W => wnonce_any own t a s W
  have HSEAL : ∀ W, Holds W G .u8 23 KA → Calls Tryd.prog 32 #[.agg (row .u8 (pairL seed own t)), .agg (row .u8 (wrapNL own t a s)), .slice none 0 0, .slice (some ⟨G, 0, none⟩) 32 32] W fun e w' => ∃ v, e = .returned v ∧ OwnB w' W.heap.size v (sealL (pairL seed own t) (wrapNL own t a s) [] KA) ∧ Below W.heap.size W w' := fun W h => seal_any _ _ none 0 0 [] _ 32 32 KA W hPl hNl (bytes_nil W) (h.bytes hKl.symm (by omega)) (by omega) (by omega)
  obtain ⟨PL, hPL⟩ : ∃ q, pairL seed own t = q := ⟨_, rfl⟩
  obtain ⟨NL, hNL⟩ : ∃ q, wrapNL own t a s = q := ⟨_, rfl⟩
  rw [hPL] at HPAIR HSEAL HSE hSl
  rw [hNL] at HNON HSEAL HSE hSl
  obtain ⟨SE, hSE⟩ : ∃ q, sealL PL NL [] KA = q := ⟨_, rfl⟩
  rw [hSE] at HSEAL HSE hSl
  clear hPL hNL hSE hPl hNl
  have HSE' := HSE
  obtain ⟨V0, hV0⟩ : ∃ q, V.drew = q := ⟨_, rfl⟩
  have hB0 : Below w.heap.size w V0 := by rw [← hV0]; exact hB.drew
  have hR1 : RingAt V0 base H own seed b M v L := by rw [← hV0]; exact hR0.congr fun _ _ => rfl
  have hr1 : CellsAt V0 (w.heap.size + 1) 39 Z := by rw [← hV0]; exact hr0
  have hd1 : CellsAt V0 w.heap.size 36 (dotC a s) := by rw [← hV0]; exact hd0
  have hk1 : Holds V0 G .u8 23 KA := by rw [← hV0]; exact hk0
  have hw1 : CellsAt V0 GW 39 WC := by rw [← hV0]; exact hw0
  refine wp_region_gateT (fun w' => w'.cell? ⟨H, 0, none⟩ = some (.int .u8 own) ∧ w'.rangeAt w.heap.size 0 (dotC a s)) (fun _ => True) 18 (by kernel_rfl) ?_
  rw [hV0]
  clear hV0 hB hR0 hr0 hd0 hk0 hw0
  have hT := HT V0 hR1 hd1
  have hS : (fun _ : World => True) V0 := trivial
  refine wpAnyT_held (i := 0) (v := ?_) rfl (by kernel_rfl) (by kernel_rfl) (by kernel_rfl) (fun _ _ _ h => h) (by kernel_rfl) hT (fun _ => hS) (by kernel_rfl) ?_ ?_
  rotate_left
  · intro wx hSw; go_split_ands; go_simp; try with_reducible rfl
  simp only [Act.put, List.getElem_toArray, List.getElem_cons_succ, List.getElem_cons_zero, List.setIfInBounds_toArray, List.set_cons_zero, List.set_cons_succ]
  refine wpAnyT_held (i := 1) (v := ?_) rfl (by kernel_rfl) (by kernel_rfl) (by kernel_rfl) (fun _ _ _ h => h) (by kernel_rfl) hT (fun _ => hS) (by kernel_rfl) ?_ ?_
  rotate_left
  · intro wx hSw; go_split_ands; go_simp; try with_reducible rfl
  simp only [Act.put, List.getElem_toArray, List.getElem_cons_succ, List.getElem_cons_zero, List.setIfInBounds_toArray, List.set_cons_zero, List.set_cons_succ]
  refine wpAnyT_held (i := 2) (v := ?_) rfl (by kernel_rfl) (by kernel_rfl) (by kernel_rfl) (fun _ _ _ h => h) (by kernel_rfl) hT (fun _ => hS) (by kernel_rfl) ?_ ?_
  rotate_left
  · intro wx hSw; go_split_ands; go_simp; try with_reducible rfl
  simp only [Act.put, List.getElem_toArray, List.getElem_cons_succ, List.getElem_cons_zero, List.setIfInBounds_toArray, List.set_cons_zero, List.set_cons_succ]
  refine wpAnyT_held (i := 3) (v := ?_) rfl (by kernel_rfl) (by kernel_rfl) (by kernel_rfl) (fun _ _ _ h => h) (by kernel_rfl) hT (fun _ => hS) (by kernel_rfl) ?_ ?_
  rotate_left
  · intro wx hSw; go_split_ands; go_simp; try with_reducible rfl
  simp only [Act.put, List.getElem_toArray, List.getElem_cons_succ, List.getElem_cons_zero, List.setIfInBounds_toArray, List.set_cons_zero, List.set_cons_succ]
  refine wpAnyT_held (i := 4) (v := ?_) rfl (by kernel_rfl) (by kernel_rfl) (by kernel_rfl) (fun _ _ _ h => h) (by kernel_rfl) hT (fun _ => hS) (by kernel_rfl) ?_ ?_
  rotate_left
  · intro wx hSw; go_split_ands; go_simp; try with_reducible rfl
  simp only [Act.put, List.getElem_toArray, List.getElem_cons_succ, List.getElem_cons_zero, List.setIfInBounds_toArray, List.set_cons_zero, List.set_cons_succ]
  refine wpAnyT_held (i := 5) (v := ?_) rfl (by kernel_rfl) (by kernel_rfl) (by kernel_rfl) (fun _ _ _ h => h) (by kernel_rfl) hT (fun _ => hS) (by kernel_rfl) ?_ ?_
  rotate_left
  · intro wx hSw; go_split_ands; go_simp; try with_reducible rfl
  simp only [Act.put, List.getElem_toArray, List.getElem_cons_succ, List.getElem_cons_zero, List.setIfInBounds_toArray, List.set_cons_zero, List.set_cons_succ]
  refine wpAnyT_held (i := 6) (v := ?_) rfl (by kernel_rfl) (by kernel_rfl) (by kernel_rfl) (fun _ _ _ h => h) (by kernel_rfl) hT (fun _ => hS) (by kernel_rfl) ?_ ?_
  rotate_left
  · intro wx hSw; go_split_ands; go_simp; try with_reducible rfl
  simp only [Act.put, List.getElem_toArray, List.getElem_cons_succ, List.getElem_cons_zero, List.setIfInBounds_toArray, List.set_cons_zero, List.set_cons_succ]
  refine wpAnyT_held (i := 7) (v := ?_) rfl (by kernel_rfl) (by kernel_rfl) (by kernel_rfl) (fun _ _ _ h => h) (by kernel_rfl) hT (fun _ => hS) (by kernel_rfl) ?_ ?_
  rotate_left
  · intro wx hSw; go_split_ands; go_simp; try with_reducible rfl
  simp only [Act.put, List.getElem_toArray, List.getElem_cons_succ, List.getElem_cons_zero, List.setIfInBounds_toArray, List.set_cons_zero, List.set_cons_succ]
  refine wpAnyT_held (i := 9) (v := ?_) rfl (by kernel_rfl) (by kernel_rfl) (by kernel_rfl) (fun _ _ _ h => h) (by kernel_rfl) hT (fun _ => hS) (by kernel_rfl) ?_ ?_
  rotate_left
  · intro wx hSw; go_split_ands; go_simp; try with_reducible rfl
  simp only [Act.put, List.getElem_toArray, List.getElem_cons_succ, List.getElem_cons_zero, List.setIfInBounds_toArray, List.set_cons_zero, List.set_cons_succ]
  refine wpAnyT_held (i := 10) (v := ?_) rfl (by kernel_rfl) (by kernel_rfl) (by kernel_rfl) (fun _ _ _ h => h) (by kernel_rfl) hT (fun _ => hS) (by kernel_rfl) ?_ ?_
  rotate_left
  · intro wx hSw; go_split_ands; go_simp; try with_reducible rfl
  simp only [Act.put, List.getElem_toArray, List.getElem_cons_succ, List.getElem_cons_zero, List.setIfInBounds_toArray, List.set_cons_zero, List.set_cons_succ]
  refine wpAnyT_held (i := 11) (v := ?_) rfl (by kernel_rfl) (by kernel_rfl) (by kernel_rfl) (fun _ _ _ h => h) (by kernel_rfl) hT (fun _ => hS) (by kernel_rfl) ?_ ?_
  rotate_left
  · intro wx hSw; go_split_ands; go_simp; try with_reducible rfl
  simp only [Act.put, List.getElem_toArray, List.getElem_cons_succ, List.getElem_cons_zero, List.setIfInBounds_toArray, List.set_cons_zero, List.set_cons_succ]
  refine wpAnyT_held (i := 12) (v := ?_) rfl (by kernel_rfl) (by kernel_rfl) (by kernel_rfl) (fun _ _ _ h => h) (by kernel_rfl) hT (fun _ => hS) (by kernel_rfl) ?_ ?_
  rotate_left
  · intro wx hSw; go_split_ands; go_simp; try with_reducible rfl
  simp only [Act.put, List.getElem_toArray, List.getElem_cons_succ, List.getElem_cons_zero, List.setIfInBounds_toArray, List.set_cons_zero, List.set_cons_succ]
  refine wpAnyT_held (i := 13) (v := ?_) rfl (by kernel_rfl) (by kernel_rfl) (by kernel_rfl) (fun _ _ _ h => h) (by kernel_rfl) hT (fun _ => hS) (by kernel_rfl) ?_ ?_
  rotate_left
  · intro wx hSw; go_split_ands; go_simp; try with_reducible rfl
  simp only [Act.put, List.getElem_toArray, List.getElem_cons_succ, List.getElem_cons_zero, List.setIfInBounds_toArray, List.set_cons_zero, List.set_cons_succ]
  refine wpAnyT_load (i := 14) (dst := some 45) (ty := 36) (x := .tmp 5) (b := w.heap.size) (o := (0)) (cs := (dotC a s)) (by kernel_rfl) (by kernel_rfl) (by kernel_rfl) (by kernel_rfl) (by kernel_rfl) (fun _ _ _ h => h) (by kernel_rfl) hT (fun _ => hS) (by kernel_rfl) (fun _ h => h.2) uD rfl iD ?_
  simp only [Act.put, List.getElem_toArray, List.getElem_cons_succ, List.getElem_cons_zero, List.setIfInBounds_toArray, List.set_cons_zero, List.set_cons_succ]
  refine wpAnyT_held (i := 16) (v := ?_) rfl (by kernel_rfl) (by kernel_rfl) (by kernel_rfl) (fun _ _ _ h => h) (by kernel_rfl) hT (fun _ => hS) (by kernel_rfl) ?_ ?_
  rotate_left
  · intro wx hSw; go_split_ands; go_simp; try with_reducible rfl
  simp only [Act.put, List.getElem_toArray, List.getElem_cons_succ, List.getElem_cons_zero, List.setIfInBounds_toArray, List.set_cons_zero, List.set_cons_succ]
  refine wpAnyT_one (i := 8) rfl (by kernel_rfl) (by kernel_rfl) (fun K hK => ?_)
  refine wpx_call _ _ (by kernel_rfl) ((HPAIR V0 hR1 hB0).mono ?_)
  rintro e V1 ⟨rfl, hb1⟩
  refine ⟨_, rfl, ?_⟩
  have hB1 := hB0.trans (hb1.mono hB0.size)
  have hR2 := hR1.far hb1
  have hr2 := hr1.congr (hb1.block _ hr1.lt)
  have hd2 := hd1.congr (hb1.block _ hd1.lt)
  have hk2 := hk1.below hb1 hk1.lt
  have hw2 := hw1.congr (hb1.block _ hw1.lt)
  replace hT := HT V1 hR2 hd2
  clear hR1 hr1 hd1 hk1 hw1 hb1 hB0
  refine hK.out _ _ hT (fun _ => hS) ?_
  clear hK K
  try simp only [Act.put, List.getElem_toArray, List.getElem_cons_succ, List.getElem_cons_zero, List.setIfInBounds_toArray, List.set_cons_zero, List.set_cons_succ]
  refine wpAnyT_one (i := 15) rfl (by kernel_rfl) (by kernel_rfl) (fun K hK => ?_)
  refine wpx_call _ _ (by kernel_rfl) ((HNON V1).mono ?_)
  rintro e V2 ⟨rfl, hb1⟩
  refine ⟨_, rfl, ?_⟩
  have hB2 := hB1.trans (hb1.mono hB1.size)
  have hR1 := hR2.far hb1
  have hr1 := hr2.congr (hb1.block _ hr2.lt)
  have hd1 := hd2.congr (hb1.block _ hd2.lt)
  have hk1 := hk2.below hb1 hk2.lt
  have hw1 := hw2.congr (hb1.block _ hw2.lt)
  replace hT := HT V2 hR1 hd1
  clear hR2 hr2 hd2 hk2 hw2 hb1 hB1
  refine hK.out _ _ hT (fun _ => hS) ?_
  clear hK K
  try simp only [Act.put, List.getElem_toArray, List.getElem_cons_succ, List.getElem_cons_zero, List.setIfInBounds_toArray, List.set_cons_zero, List.set_cons_succ]
  refine wpAnyT_one (i := 17) rfl (by kernel_rfl) (by kernel_rfl) (fun K hK => ?_)
  refine wpx_call _ _ (by kernel_rfl) ((HSEAL V2 hk1).mono ?_)
  rintro e V3 ⟨vs, rfl, hos, hb1⟩
  refine ⟨_, rfl, ?_⟩
  have hB3 := hB2.trans (hb1.mono hB2.size)
  have hR2 := hR1.far hb1
  have hr2 := hr1.congr (hb1.block _ hr1.lt)
  have hd2 := hd1.congr (hb1.block _ hd1.lt)
  have hw2 := hw1.congr (hb1.block _ hw1.lt)
  obtain ⟨gs, cs, rfl, hgs⟩ := hos.slice (by omega)
  have hrg := hos.bytes.2.rangeK
  rw [hSl]
  replace hT := HT V3 hR2 hd2
  clear hR1 hr1 hd1 hk1 hw1 hb1 hB2 HSEAL HNON HPAIR hos
  refine hK.out _ _ hT (fun _ => hS) ?_
  clear hK K
  try simp only [Act.put, List.getElem_toArray, List.getElem_cons_succ, List.getElem_cons_zero, List.setIfInBounds_toArray, List.set_cons_zero, List.set_cons_succ]
  refine wpAnyT_one (i := 18) rfl (by kernel_rfl) (by kernel_rfl) (fun K hK => ?_)
  have hcp := run_copy_row (P := Tryd.prog) V3 76 76 3 5 GW 3 48 48 ⟨gs, 0, none⟩ 48 cs WC.toArray 39 (SE.map (Value.int .u8)) Tryd.underlying76 size1u8 hw2 (by simp [hSl]) (fun j u hu => by rw [Addr.add_mid']; exact hrg j u hu) (by simp [hSl, hWCl]) (fun u hu => by simp only [List.mem_map] at hu; obtain ⟨_, _, rfl⟩ := hu; rfl)
  have hWE : (WC.toArray.toList.take 3 ++ SE.map (Value.int .u8) ++ WC.toArray.toList.drop (3 + (SE.map (Value.int .u8)).length)) = (⟨t, a, s, SE⟩ : Wp).cells := by
    rw [← HWC.out]
    simp [Wp.cells, dotC, hSl]
  rw [hWE] at hcp
  refine wpx_copy _ _ _ _ rfl _ _ _ _ rfl rfl hcp ?_
  have hB4 := below_setRow (g := GW) hB3 (by omega) (⟨t, a, s, SE⟩ : Wp).cells.toArray
  have hR3 := hR2.congr (w' := V3.setRow GW (⟨t, a, s, SE⟩ : Wp).cells.toArray) fun g hg => setRow_other _ _ _ _ (by have := hH.2 g hg; omega)
  have hr3 := hr2.congr (w' := V3.setRow GW (⟨t, a, s, SE⟩ : Wp).cells.toArray) (setRow_other _ _ _ _ (by omega))
  have hd3 := hd2.congr (w' := V3.setRow GW (⟨t, a, s, SE⟩ : Wp).cells.toArray) (setRow_other _ _ _ _ (by omega))
  have hw3 := hw2.setRow (⟨t, a, s, SE⟩ : Wp).cells
  replace hT := HT _ hR3 hd3
  refine hK.out _ _ hT (fun h => absurd (show true = false from h) (by decide)) ?_
  clear hK K
  try simp only [Act.put, List.getElem_toArray, List.getElem_cons_succ, List.getElem_cons_zero, List.setIfInBounds_toArray, List.set_cons_zero, List.set_cons_succ]
  refine wpAnyT_done (by kernel_rfl) ?_ _
  have hWl := wp_cells_length ⟨t, a, s, SE⟩ hSl
  have hW1 := wp_cells_one ⟨t, a, s, SE⟩
  refine forget (p := fun y => Exit.then _ _ _ _ y) (fun V' => Below w.heap.size w V' ∧ CellsAt V' (w.heap.size + 1) 39 Z ∧ CellsAt V' GW 39 (⟨t, a, s, SE⟩ : Wp).cells) ⟨hB4, hr3, hw3⟩ ?_
  obtain ⟨WE, hWE2⟩ : ∃ q, (⟨t, a, s, SE⟩ : Wp).cells = q := ⟨_, rfl⟩
  have HWE := Veil.mk hWE2
  rw [hWE2] at hWl hW1 ⊢
  clear hWE2 hB4 hR3 hr3 hd3 hw3 hT hcp hWE hB3 hR2 hr2 hd2 hw2 hrg HT
  rintro V' ⟨hB, hr, hw⟩
  have rW := hw.range 0 51
  rw [List.drop_zero, List.take_of_length_le (by omega)] at rW
  go_wp2_with (first
    | (refine wpList_ldv rfl 39 _ rfl _ _ rfl WE rW Tryd.underlying39 rfl (by rw [hWl]; exact sizeWrapK) ?_)
    | (refine wpList_stv rfl 39 _ _ rfl _ rfl rfl hr (by rw [hWl]; exact sizeWrapK) (by rw [hZl, hWl]) hW1 ?_))
  refine bodyPost_ret (results_ct (Tryd.results18) _ rfl rfl (hr.setRow WE) Tryd.underlying39 rfl (by rw [hWl]; exact sizeWrapK)) rfl ⟨?_, ?_⟩
  · rw [HSE'.out, HWE.out]; rfl
  · exact below_setRow hB (by omega) _
end
end Go.Proofs.YtlalcnmcnkompaaDoor
