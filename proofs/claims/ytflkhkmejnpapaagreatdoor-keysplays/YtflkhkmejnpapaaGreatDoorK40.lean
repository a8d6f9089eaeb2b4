/- Ao2b Kr8 -/
import Derived.Test.YtflkhkmejnpapaaGreatDoorK35
import Derived.Test.YtflkhkmejnpapaaGreatDoorK29
import Derived.Test.YtflkhkmejnpapaaGreatDoorK39
import Derived.Test.YtflkhkmejnpapaaGreatDoorK33
import Derived.Test.YtflkhkmejnpapaaGreatDoorK30
namespace Go.Proofs.YtflkhkmejnpapaaGreatDoor
open Go.RowKit
set_option maxRecDepth 20000
set_option linter.unusedSimpArgs false
theorem OwnB.afar {w w' : World} {base : Nat} {v : Value} {z : List Int} (h : OwnB w base v z) (hb : Below w.heap.size w w') : OwnB w' base v z := h.keep (fun g _ hg => hb.block g hg)
theorem refTag_any (k n o s : List Int) (v : Value) (base : Nat) (w : World) (ho : OwnB w base v (framedL o s)) (huo : ∀ v ∈ o, isB v) (hus : ∀ v ∈ s, isB v) (hl : (framedL o s).length ≤ 1000000) :
    Calls Tryz.prog 54 #[.agg (row .u8 (onceL k n)), v] w fun e w' => e = .returned (.agg (row .u8 (tagL k n o s))) ∧ Below w.heap.size w w' := by
 obtain ⟨x', n', c', rfl, hn'⟩ := ho.isSlice
 exact refSum_any (onceL k n) x' n' c' (framedL o s) w (onceL_length k n) (fun v hv => joinK_u8 _ 16 v (List.mem_of_mem_take hv)) ho.bytes.2 (framedL_in o s huo hus) (by rw [hn']; exact hl)
set_option maxHeartbeats 2000000 in
theorem refSeal_any (k n : List Int) (x : Option Addr) (len cap : Nat) (o : List Int) (y : Option Addr) (lb cb : Nat) (b : List Int) (w : World) (hk : k.length = 32) (hn : n.length = 12) (hx : Bytes w x len cap o) (hy : Bytes w y lb cb b) (hl1 : len ≤ 100000) (hl2 : lb ≤ 100000) (huo : ∀ v ∈ o, isB v) (hub : ∀ v ∈ b, isB v) :
    Calls Tryz.prog 40 #[.agg (row .u8 k), .agg (row .u8 n), .slice x len cap, .slice y lb cb] w fun e w' => ∃ v, e = .returned v ∧ OwnB w' w.heap.size v (sealL k n o b) ∧ Below w.heap.size w w' := by
 have hxor := fun wx (hb : Below w.heap.size w wx) => refXor_any k n 1 y lb cb b wx hk hn (hy.below hb) (by omega)
 have hXl : (xorL k n 1 b).length = lb := by rw [xorL_length]; exact hy.len_eq.symm
 have hXu := xorL_in k n 1 b hub
 have HSE : Veil (xorL k n 1 b ++ tagL k n o (xorL k n 1 b) = sealL k n o b) := ⟨rfl⟩
 have hTl : (tagL k n o (xorL k n 1 b)).length = 16 := polyL_length _ _
 have hon := fun wx => refOnce_any k n wx hk hn
 have HFL : Veil ((framedL o (xorL k n 1 b)).length ≤ 1000000) := ⟨by rw [framedL_length, ← hx.len_eq, hXl]; have := fillN_lt len; have := fillN_lt lb; omega⟩
 have hfr := fun (v : Option Addr) (c : Nat) wx (hb : Below w.heap.size w wx) (hh : Bytes wx v lb c (xorL k n 1 b)) => refFramed_any x len cap o v lb c (xorL k n 1 b) wx (hx.below hb) hh hl1 hl2
 have htg := fun (v : Value) (base : Nat) (wx : World) (ho : OwnB wx base v (framedL o (xorL k n 1 b))) => refTag_any k n o (xorL k n 1 b) v base wx ho huo hXu HFL.out
 obtain ⟨X, hX⟩ : ∃ q, xorL k n 1 b = q := ⟨_, rfl⟩
 rw [hX] at hxor hXl HSE hTl hfr htg
 obtain ⟨T, hT⟩ : ∃ q, tagL k n o X = q := ⟨_, rfl⟩
 rw [hT] at HSE hTl htg
 obtain ⟨F, hF⟩ : ∃ q, framedL o X = q := ⟨_, rfl⟩
 rw [hF] at hfr htg
 obtain ⟨OT, hOT⟩ : ∃ q, onceL k n = q := ⟨_, rfl⟩
 rw [hOT] at hon htg
 have HXL : Veil (X.length = lb) := ⟨hXl⟩
 have hK0 := (Holds.new w .u8 23 k).alloc (.cells (row .u8 n) 78)
 have hN0 := Holds.new (w.alloc (.cells (row .u8 k) 23)) .u8 78 n
 have hB0 : Below w.heap.size w ((w.alloc (.cells (row .u8 k) 23)).alloc (.cells (row .u8 n) 78)) := ((Below.refl _ _).alloc (Nat.le_refl _) _).alloc (by simp) _
 rw [World.size_alloc] at hN0
 clear hX hT hF hOT hx hy huo hub hXu HFL hXl
 go_enter Tryz.func40, Tryz.ntmps40
 go_upto_region 1 with fail
 refine forget (p := fun y => Code.wp _ _ _ _ y) (fun W0 => Below w.heap.size w W0 ∧ Holds W0 w.heap.size .u8 23 k ∧ Holds W0 (w.heap.size + 1) .u8 78 n) ⟨hB0, hK0, hN0⟩ ?_
 clear hK0 hN0 hB0
 rintro W0 ⟨hB0, hK0, hN0⟩
 go_upto_region 2 with (first
  | (refine wpList_ld rfl 23 _ rfl _ rfl hK0 Tryz.underlying23 sizeK hk ?_)
  | (refine wpList_ld rfl 78 _ rfl _ rfl hN0 Tryz.underlying78 sizeN hn ?_)
  | (go_at_call 53; refine (hxor _ hB0).mono ?_; rintro e w1 ⟨v1, rfl, ho1, hb1⟩))
 have hB1 : Below w.heap.size w w1 := hB0.trans (hb1.mono hB0.size)
 have hK1 := hK0.below hb1 hK0.lt
 have hN1 := hN0.below hb1 hN0.lt
 obtain ⟨x1, n1, c1, rfl, hn1⟩ := ho1.isSlice
 rw [HXL.out] at hn1
 have hn1' := hn1.symm
 clear hn1
 subst hn1'
 have hW0 := hB0.size
 have ho1' := ho1.lessG (base' := w.heap.size) hW0
 have hBy1 := ho1.bytes.2
 clear hxor hK0 hN0 ho1 hb1 hB0
 go_upto_region 3 with (first
  | (refine wpList_ld rfl 23 _ rfl _ rfl hK1 Tryz.underlying23 sizeK hk ?_)
  | (refine wpList_ld rfl 78 _ rfl _ rfl hN1 Tryz.underlying78 sizeN hn ?_)
  | (go_at_call 55; refine (hon _).mono ?_; rintro e w2 ⟨rfl, hb2⟩; have hB2 : Below w.heap.size w w2 := hB1.trans (hb2.mono hB1.size); have hfr2 := hfr x1 c1 w2 hB2 (hBy1.below hb2))
  | (go_at_call 56; refine hfr2.mono ?_; rintro e w3 ⟨v3, rfl, ho3, hb3⟩; have htg3 := htg v3 _ w3 ho3)
  | (go_at_call 54; refine htg3.mono ?_; rintro e w4 ⟨rfl, hb4⟩; have hA4 := Holds.new w4 .u8 87 (List.replicate 16 0))
  | (refine wpList_st rfl 87 _ _ rfl _ rfl rfl hA4 (by rw [hTl]; exact sizeT) (by simp [hTl]) ?_))
 have hb14 : Below w1.heap.size w1 w4 := (hb2.trans (hb3.mono hb2.size)).trans (hb4.mono (hb2.trans (hb3.mono hb2.size)).size)
 have hb15 : Below w1.heap.size w1 ((w4.alloc (.cells (row .u8 (List.replicate 16 0)) 87)).setRow w4.heap.size (row .u8 T)) := below_setRow (hb14.alloc hb14.size _) hb14.size _
 refine forget (p := fun y => Code.wp _ _ _ _ y) (fun W5 => Below w.heap.size w W5 ∧ Holds W5 w4.heap.size .u8 87 T ∧ OwnB W5 w.heap.size (.slice x1 lb c1) X) ⟨hB1.trans (hb15.mono hB1.size), hA4.setRow _, ho1'.afar hb15⟩ ?_
 obtain ⟨G, hG⟩ : ∃ q, w4.heap.size = q := ⟨_, rfl⟩
 rw [hG]
 clear hG hb14 hb15 hA4 hb4 htg3 ho3 hb3 hfr2 hB2 hb2 hBy1 ho1' hK1 hN1 hB1 hfr htg hon
 rintro W5 ⟨hB5, hG5, ho5⟩
 have hT5 : Bytes W5 (some ⟨G, 0, none⟩) 16 16 T := hG5.bytes hTl.symm (by omega)
 go_wp2_with (at_builtin; refine wpList_app rfl _ _ rfl w.heap.size _ X rfl ho5 (some ⟨G, 0, none⟩) 16 16 T rfl hT5 (by rw [HXL.out]; omega) hB5.size ?_; intro v6 w6 ho6 hg6)
 rw [HSE.out] at ho6
 go_ret
 exact ⟨_, rfl, ho6, below_grown hB5 ho5 hg6 hB5.size⟩
theorem wp_set (t a s : Int) (D : List Int) (i : Nat) (q : Int) : (⟨t, a, s, D⟩ : Wp).cells.set (3 + i) (.int .u8 q) = (⟨t, a, s, D.set i q⟩ : Wp).cells := by
 rw [Nat.add_comm]
 show ((Value.int .u8 t :: Value.int .u8 a :: Value.int .u32 s :: D.map (Value.int .u8)).set (i + 3) _) = _
 rw [sS, sS, sS, ← List.map_set]
 rfl
def rwrN (own : Int) (L : List Ep) (t a s : Int) : Int := if 8 ≤ t then 2 else if t = own then 12 else if (keyE L a s).isSome = true then 0 else 9
def rwrW (own : Int) (seed : List Int) (L : List Ep) (t a s : Int) : Wp := if 8 ≤ t then wz else if t = own then wz else match keyE L a s with | some k => wrapOf seed own t a s k | none => wz
section
variable (base O : Nat) (own : Int) (seed : List Int) (v : Value) (L : List Ep) (w : World)
set_option maxHeartbeats 8000000 in
theorem rrWrap_any (t a s : Int) (hR : RRing w base O own seed v L) (hKB : ∀ k, keyE L a s = some k → ∀ x ∈ k, isB x) :
    Calls Tryz.prog 23 #[.pointer (some ⟨O, 0, none⟩), .int .u8 t, .agg (dotC a s).toArray] w fun e w' => e = .returned (.tuple #[.agg (rwrW own seed L t a s).cells.toArray, .int .i64 (rwrN own L t a s)]) ∧ Below w.heap.size w w' := by
 obtain ⟨Z, hZl, hZ1, hZ, hZb⟩ : ∃ Z : List Value, Z.length = 51 ∧ (∀ u ∈ Z, u.oneCell' = true) ∧ Z = wz.cells ∧ ∀ wx, (Instr.build 36 #[]).run Tryz.prog wx = .ok (.agg Z.toArray) wx := ⟨_, rfl, wp_cells_one wz, rfl, wz_built⟩
 have hB : Below w.heap.size w ((w.alloc (.cells (dotC a s).toArray 33)).alloc (.cells Z.toArray 36)) := ((Below.refl _ _).alloc (Nat.le_refl _) _).alloc (by simp) _
 have hr0 := CellsAt.new (w.alloc (.cells (dotC a s).toArray 33)) 36 Z
 rw [World.size_alloc] at hr0
 have hd0 := (CellsAt.new w 33 (dotC a s)).alloc (.cells Z.toArray 36)
 have HZ := Veil.mk hZ
 have HZb := Veil.mk hZb
 have HK : Veil (∀ W, Below w.heap.size w W → Calls Tryz.prog 22 #[.pointer (some ⟨O, 0, none⟩), .agg (dotC a s).toArray] W fun e w' => ∃ k : List Int, k.length = 32 ∧ k = (keyE L a s).getD (List.replicate 32 0) ∧ e = .returned (.tuple #[.agg (row .u8 k), .bool (keyE L a s).isSome]) ∧ Below W.heap.size W w') := ⟨fun W h => rrKeyZ_any base O own seed v L W a s (hR.far h)⟩
 have HR := Veil.mk (fun W (hb : Below w.heap.size w W) => hR.far hb)
 have HKB := Veil.mk hKB
 have HOL : Veil (O < w.heap.size ∧ seed.length = 32) := ⟨hR.box.lt, hR.seed32⟩
 clear hKB hR
 obtain ⟨KS, hKS⟩ : ∃ q, (keyE L a s).isSome = q := ⟨_, rfl⟩
 rw [hKS] at HK
 have HKS := Veil.mk hKS
 clear hKS
 go_enter Tryz.func23, Tryz.ntmps23
 go_upto_region 1 with fail
 refine forget (p := fun y => Code.wp _ _ _ _ y) (fun W => Below w.heap.size w W ∧ CellsAt W (w.heap.size + 1) 36 Z ∧ CellsAt W w.heap.size 33 (dotC a s)) ⟨by rw [hZ] at hB; exact hB, by rw [hZ] at hr0 ⊢; exact hr0, by rw [hZ] at hd0; exact hd0⟩ ?_
 clear hB hr0 hZ hZb hd0
 rintro W ⟨hB, hr0, hd0⟩
 have hk := HK.out W hB
 have rD := hd0.wholeM
 have uD := Tryz.underlying33
 have iD : (Tryz.prog.info? 33).map (·.size) = some (dotC a s).length := sizeDot
 clear HK
 go_upto_region 2 with (first
  | (refine wpList_ldv rfl 33 _ rfl _ _ rfl (dotC a s) rD uD rfl iD ?_)
  | (go_at_call 22; refine hk.mono ?_; rintro e w2 ⟨KA, hKl, hke, rfl, hb2⟩; have HKE := Veil.mk hke; clear hke; have hA1 := Holds.new w2 .u8 23 (List.replicate 32 0); have hr1 := (hr0.congr (hb2.block _ hr0.lt)).alloc (.cells (row .u8 (List.replicate 32 0)) 23); have hd1 := (hd0.congr (hb2.block _ hd0.lt)).alloc (.cells (row .u8 (List.replicate 32 0)) 23))
  | (refine wpList_st rfl 23 _ _ rfl _ rfl rfl hA1 (by rw [hKl]; exact sizeKeyD) (by rw [hKl]; rfl) ?_))
 have hB2 := hB.trans (hb2.mono hB.size)
 have hlt := hr0.lt
 have hsz := hb2.size
 have hne : w.heap.size + 1 ≠ w2.heap.size := by omega
 refine forget (p := fun y => Code.wp _ _ _ _ y) (fun V => Below w.heap.size w V ∧ CellsAt V (w.heap.size + 1) 36 Z ∧ CellsAt V w.heap.size 33 (dotC a s) ∧ Holds V w2.heap.size .u8 23 KA) ⟨below_setRow (hB2.alloc hB2.size _) hB2.size _, hr1.congr (setRow_other _ _ _ _ hne), hd1.congr (setRow_other _ _ _ _ (by omega)), hA1.setRow _⟩ ?_
 clear hA1 hr1 hr0 hd0 hk rD hB hb2 hB2 hd1
 obtain ⟨G, hG⟩ : ∃ q, w2.heap.size = q := ⟨_, rfl⟩
 rw [hG] at hne hsz ⊢
 clear hG
 have hG2 : w.heap.size + 1 < G := by omega
 clear hlt hsz hne
 rintro V ⟨hB, hr0, hd0, hk0⟩
 have c0 : V.cell? ⟨O, 0, none⟩ = some (.int .u8 own) := (HR.out V hB).box.cell 0
 by_cases h8 : 8 ≤ t
 · have HE : Veil ((rwrW own seed L t a s).cells = Z ∧ rwrN own L t a s = 2) := ⟨by unfold rwrW; rw [if_pos h8]; exact HZ.out.symm, by unfold rwrN; rw [if_pos h8]⟩
   have h7 : t > 7 := by omega
   go_wp2_with (first
    | (refine wpList_bldx rfl 36 _ rfl #[] (by first | rfl | kernel_rfl) _ (HZb.out _) ?_)
    | (refine wpList_stv rfl 36 _ _ rfl _ rfl rfl hr0 (by rw [hZl]; exact sizeWrapK) rfl hZ1 ?_))
   refine bodyPost_ret (results_ct (Tryz.results23) _ rfl rfl (hr0.setRow Z) Tryz.underlying36 rfl (by rw [hZl]; exact sizeWrapK)) rfl ⟨?_, ?_⟩
   · rw [HE.out.1, HE.out.2]; rfl
   · exact below_setRow hB (by omega) _
 have h7 : ¬ t > 7 := by omega
 by_cases hto : t = own
 · subst hto
   have HE : Veil ((rwrW t seed L t a s).cells = Z ∧ rwrN t L t a s = 12) := ⟨by unfold rwrW; rw [if_neg h8, if_pos rfl]; exact HZ.out.symm, by unfold rwrN; rw [if_neg h8, if_pos rfl]⟩
   have hte : (t == t) = true := by simp
   go_wp2_with (first
    | (refine wpList_bldx rfl 36 _ rfl #[] (by first | rfl | kernel_rfl) _ (HZb.out _) ?_)
    | (refine wpList_stv rfl 36 _ _ rfl _ rfl rfl hr0 (by rw [hZl]; exact sizeWrapK) rfl hZ1 ?_))
   refine bodyPost_ret (results_ct (Tryz.results23) _ rfl rfl (hr0.setRow Z) Tryz.underlying36 rfl (by rw [hZl]; exact sizeWrapK)) rfl ⟨?_, ?_⟩
   · rw [HE.out.1, HE.out.2]; rfl
   · exact below_setRow hB (by omega) _
 have hte : (t == own) = false := by simpa using hto
 cases KS with
 | false =>
  have HKN : Veil (keyE L a s = none) := ⟨by have := HKS.out; cases hq : keyE L a s with | none => rfl | some _ => rw [hq] at this; cases this⟩
  have HE : Veil ((rwrW own seed L t a s).cells = Z ∧ rwrN own L t a s = 9) := ⟨by unfold rwrW; rw [if_neg h8, if_neg hto, HKN.out]; exact HZ.out.symm, by unfold rwrN; rw [if_neg h8, if_neg hto, HKN.out]; rfl⟩
  go_wp2_with (first
   | (refine wpList_bldx rfl 36 _ rfl #[] (by first | rfl | kernel_rfl) _ (HZb.out _) ?_)
   | (refine wpList_stv rfl 36 _ _ rfl _ rfl rfl hr0 (by rw [hZl]; exact sizeWrapK) rfl hZ1 ?_))
  refine bodyPost_ret (results_ct (Tryz.results23) _ rfl rfl (hr0.setRow Z) Tryz.underlying36 rfl (by rw [hZl]; exact sizeWrapK)) rfl ⟨?_, ?_⟩
  · rw [HE.out.1, HE.out.2]; rfl
  · exact below_setRow hB (by omega) _
 | true =>
  have HKN : Veil (keyE L a s = some KA) := ⟨by have := HKS.out; have h2 := HKE.out; cases hq : keyE L a s with | none => rw [hq] at this; cases this | some z => rw [hq] at h2; rw [h2]; rfl⟩
  have HE : Veil (rwrW own seed L t a s = wrapOf seed own t a s KA ∧ rwrN own L t a s = 0) := ⟨by unfold rwrW; rw [if_neg h8, if_neg hto, HKN.out], by unfold rwrN; rw [if_neg h8, if_neg hto, HKN.out]; rfl⟩
  have HB := Veil.mk (HKB.out KA HKN.out)
  clear HKB HKE HKS HKN
  have rD := hd0.wholeM
  have HWT : Veil (∀ wx, (Instr.build 36 #[(0, .int .u8 t), (1, .agg (dotC a s).toArray)]).run Tryz.prog wx = .ok (.agg (⟨t, a, s, List.replicate 48 0⟩ : Wp).cells.toArray) wx) := ⟨wrap_to t a s⟩
  have hw1 := CellsAt.new V 36 wz.cells
  obtain ⟨WC, hWC⟩ : ∃ q, (⟨t, a, s, List.replicate 48 0⟩ : Wp).cells = q := ⟨_, rfl⟩
  have hWCl : WC.length = 51 := by rw [← hWC]; rfl
  have hWC1 : ∀ u ∈ WC, u.oneCell' = true := by rw [← hWC]; exact wp_cells_one _
  have HWC := Veil.mk hWC
  rw [hWC] at HWT
  clear hWC
  go_upto_region 11 with (first
   | (refine wpList_ldv rfl 33 _ rfl _ _ rfl (dotC a s) rD uD rfl iD ?_)
   | (refine wpList_bldx rfl 36 _ rfl #[(0, .int .u8 t), (1, .agg (dotC a s).toArray)] (by first | rfl | kernel_rfl) _ (HWT.out _) ?_)
   | (refine wpList_stv rfl 36 _ _ rfl _ rfl rfl hw1 (by rw [hWCl]; exact sizeWrapK) (by rw [hWCl]; rfl) hWC1 ?_))
  have hb3 : Below V.heap.size V ((V.alloc (.cells wz.cells.toArray 36)).setRow V.heap.size WC.toArray) := below_setRow ((Below.refl _ _).alloc (Nat.le_refl _) _) (Nat.le_refl _) _
  have hkl := hk0.lt
  refine forget (p := fun y => Code.wp _ _ _ _ y) (fun V' => Below w.heap.size w V' ∧ CellsAt V' (w.heap.size + 1) 36 Z ∧ CellsAt V' w.heap.size 33 (dotC a s) ∧ Holds V' G .u8 23 KA ∧ CellsAt V' V.heap.size 36 WC) ⟨hB.trans (hb3.mono hB.size), hr0.congr (hb3.block _ hr0.lt), hd0.congr (hb3.block _ hd0.lt), hk0.below hb3 hk0.lt, hw1.setRow _⟩ ?_
  clear hb3 hw1 HWT rD hB hr0 hd0 hk0 c0
  obtain ⟨GW, hGW⟩ : ∃ q, V.heap.size = q := ⟨_, rfl⟩
  rw [hGW] at hkl ⊢
  clear hGW
  clear V
  rintro V ⟨hB, hr0, hd0, hk0, hw0⟩
  have HT : ∀ W' : World, Below w.heap.size w W' → CellsAt W' w.heap.size 33 (dotC a s) → (fun w' : World => w'.cell? ⟨O, 0, none⟩ = some (.int .u8 own) ∧ w'.rangeAt w.heap.size 0 (dotC a s)) W' := fun W' h1 h2 => ⟨(HR.out W' h1).box.cell 0, h2.wholeM⟩
  have hPl : (pairL seed own t).length = 32 := derL_length _ _
  have hNl : (wrapNL own t a s).length = 12 := rfl
  have hSl : (sealL (pairL seed own t) (wrapNL own t a s) [] KA).length = 48 := by rw [sealL_length, hKl]
  have HSE : Veil (wrapOf seed own t a s KA = ⟨t, a, s, sealL (pairL seed own t) (wrapNL own t a s) [] KA⟩) := ⟨rfl⟩
  have HPAIR : ∀ W, Below w.heap.size w W → Calls Tryz.prog 41 #[.pointer (some ⟨O, 0, none⟩), .int .u8 own, .int .u8 t] W fun e w' => e = .returned (.agg (row .u8 (pairL seed own t))) ∧ Below W.heap.size W w' := fun W h2 => refPair_any O own seed v W own t (HR.out W h2).box HOL.out.2
  have HNON : ∀ W, Calls Tryz.prog 42 #[.int .u8 own, .int .u8 t, .agg (dotC a s).toArray] W fun e w' => e = .returned (.agg (row .u8 (wrapNL own t a s))) ∧ Below W.heap.size W w' := fun W => rwnonce_any own t a s W
  have HSEAL : ∀ W, Holds W G .u8 23 KA → Calls Tryz.prog 40 #[.agg (row .u8 (pairL seed own t)), .agg (row .u8 (wrapNL own t a s)), .slice none 0 0, .slice (some ⟨G, 0, none⟩) 32 32] W fun e w' => ∃ v, e = .returned v ∧ OwnB w' W.heap.size v (sealL (pairL seed own t) (wrapNL own t a s) [] KA) ∧ Below W.heap.size W w' := fun W h => refSeal_any _ _ none 0 0 [] _ 32 32 KA W hPl hNl (bytes_nil W) (h.bytes hKl.symm (by omega)) (by omega) (by omega) (fun v hv => by cases hv) HB.out
  obtain ⟨PL, hPL⟩ : ∃ q, pairL seed own t = q := ⟨_, rfl⟩
  obtain ⟨NL, hNL⟩ : ∃ q, wrapNL own t a s = q := ⟨_, rfl⟩
  rw [hPL] at HPAIR HSEAL HSE hSl
  rw [hNL] at HNON HSEAL HSE hSl
  obtain ⟨SE, hSE⟩ : ∃ q, sealL PL NL [] KA = q := ⟨_, rfl⟩
  rw [hSE] at HSEAL HSE hSl
  clear hPL hNL hSE hPl hNl
  obtain ⟨V0, hV0⟩ : ∃ q, V.drew = q := ⟨_, rfl⟩
  have hB0 : Below w.heap.size w V0 := by rw [← hV0]; exact hB.drew
  have hr1 : CellsAt V0 (w.heap.size + 1) 36 Z := by rw [← hV0]; exact hr0
  have hd1 : CellsAt V0 w.heap.size 33 (dotC a s) := by rw [← hV0]; exact hd0
  have hk1 : Holds V0 G .u8 23 KA := by rw [← hV0]; exact hk0
  have hw1 : CellsAt V0 GW 36 WC := by rw [← hV0]; exact hw0
  refine wp_region_gateT (fun w' => w'.cell? ⟨O, 0, none⟩ = some (.int .u8 own) ∧ w'.rangeAt w.heap.size 0 (dotC a s)) (fun _ => True) 99 (by kernel_rfl) ?_
  rw [hV0]
  clear hV0 hB hr0 hd0 hk0 hw0
  have hT := HT V0 hB0 hd1
  have hS : (fun _ : World => True) V0 := trivial
  refine ghA 0 _ hT hS ?_
  simp only [Act.put, gA, gS, gZ, sI, sZ, sS]
  refine ghA 1 _ hT hS ?_
  simp only [Act.put, gA, gS, gZ, sI, sZ, sS]
  refine ghA 2 _ hT hS ?_
  simp only [Act.put, gA, gS, gZ, sI, sZ, sS]
  refine ghA 3 _ hT hS ?_
  simp only [Act.put, gA, gS, gZ, sI, sZ, sS]
  refine ghA 4 _ hT hS ?_
  simp only [Act.put, gA, gS, gZ, sI, sZ, sS]
  refine ghA 5 _ hT hS ?_
  simp only [Act.put, gA, gS, gZ, sI, sZ, sS]
  refine ghA 7 _ hT hS ?_
  simp only [Act.put, gA, gS, gZ, sI, sZ, sS]
  refine ghA 8 _ hT hS ?_
  simp only [Act.put, gA, gS, gZ, sI, sZ, sS]
  refine ghA 9 _ hT hS ?_
  simp only [Act.put, gA, gS, gZ, sI, sZ, sS]
  refine ghA 10 _ hT hS ?_
  simp only [Act.put, gA, gS, gZ, sI, sZ, sS]
  refine ghA 11 _ hT hS ?_
  simp only [Act.put, gA, gS, gZ, sI, sZ, sS]
  refine gl 12 54 33 5 w.heap.size 0 (dotC a s) (by kernel_rfl) (by kernel_rfl) (by kernel_rfl) (fun _ _ _ h => h) hT hS (by kernel_rfl) (fun _ h => h.2) uD rfl iD ?_
  simp only [Act.put, gA, gS, gZ, sI, sZ, sS]
  refine ghA 14 _ hT hS ?_
  simp only [Act.put, gA, gS, gZ, sI, sZ, sS]
  refine wpAnyT_one (i := 6) rfl (by kernel_rfl) (by kernel_rfl) (fun K hK => ?_)
  refine wpx_call _ _ (by kernel_rfl) ((HPAIR V0 hB0).mono ?_)
  rintro e V1 ⟨rfl, hb1⟩
  refine ⟨_, rfl, ?_⟩
  have hB1 := hB0.trans (hb1.mono hB0.size)
  have hr2 := hr1.congr (hb1.block _ hr1.lt)
  have hd2 := hd1.congr (hb1.block _ hd1.lt)
  have hk2 := hk1.below hb1 hk1.lt
  have hw2 := hw1.congr (hb1.block _ hw1.lt)
  replace hT := HT V1 hB1 hd2
  clear hr1 hd1 hk1 hw1 hb1 hB0
  refine hK.out _ _ hT (fun _ => hS) ?_
  clear hK K
  try simp only [Act.put, gA, gS, gZ, sI, sZ, sS]
  refine wpAnyT_one (i := 13) rfl (by kernel_rfl) (by kernel_rfl) (fun K hK => ?_)
  refine wpx_call _ _ (by kernel_rfl) ((HNON V1).mono ?_)
  rintro e V2 ⟨rfl, hb1⟩
  refine ⟨_, rfl, ?_⟩
  have hB2 := hB1.trans (hb1.mono hB1.size)
  have hr1 := hr2.congr (hb1.block _ hr2.lt)
  have hd1 := hd2.congr (hb1.block _ hd2.lt)
  have hk1 := hk2.below hb1 hk2.lt
  have hw1 := hw2.congr (hb1.block _ hw2.lt)
  replace hT := HT V2 hB2 hd1
  clear hr2 hd2 hk2 hw2 hb1 hB1
  refine hK.out _ _ hT (fun _ => hS) ?_
  clear hK K
  try simp only [Act.put, gA, gS, gZ, sI, sZ, sS]
  refine wpAnyT_one (i := 15) rfl (by kernel_rfl) (by kernel_rfl) (fun K hK => ?_)
  refine wpx_call _ _ (by kernel_rfl) ((HSEAL V2 hk1).mono ?_)
  rintro e V3 ⟨vs, rfl, hos, hb1⟩
  refine ⟨_, rfl, ?_⟩
  have hB3 := hB2.trans (hb1.mono hB2.size)
  have hr2 := hr1.congr (hb1.block _ hr1.lt)
  have hd2 := hd1.congr (hb1.block _ hd1.lt)
  have hw2 := hw1.congr (hb1.block _ hw1.lt)
  have hwl := hw1.lt
  obtain ⟨gs, cs, rfl, hgs⟩ := hos.slice (by omega)
  have hrg := hos.bytes.2.rangeK
  rw [hSl]
  replace hT := HT V3 hB3 hd2
  clear hr1 hd1 hk1 hw1 hb1 hB2 HSEAL HNON HPAIR hos
  refine hK.out _ _ hT (fun _ => hS) ?_
  clear hK K
  try simp only [Act.put, gA, gS, gZ, sI, sZ, sS]
  refine ghA 16 _ hT hS ?_
  simp only [Act.put, gA, gS, gZ, sI, sZ, sS]
  refine wpAnyT_done (by kernel_rfl) ?_ _
  have hgw : gs ≠ GW := by omega
  have hGW1 : w.heap.size + 1 < GW := by omega
  refine forget (p := fun y => Exit.then _ _ _ _ y) (fun V' => Below w.heap.size w V' ∧ CellsAt V' (w.heap.size + 1) 36 Z ∧ CellsAt V' GW 36 WC ∧ V'.rangeAt gs 0 (SE.map (Value.int .u8))) ⟨hB3, hr2, hw2, hrg⟩ ?_
  have HSL := Veil.mk hSl
  clear hB3 hr2 hw2 hrg hT hd2 HT hwl hgs hkl hSl hKl hG2
  rintro V' ⟨hB, hr, hw, hb⟩
  go_wp2_with fail
  go_loopw [12] (fun iv wr => ∃ i : Nat, i ≤ 48 ∧ iv = .int .i64 i ∧ Below w.heap.size w wr ∧ CellsAt wr (w.heap.size + 1) 36 Z ∧ CellsAt wr GW 36 (⟨t, a, s, SE.take i ++ List.replicate (48 - i) 0⟩ : Wp).cells ∧ wr.rangeAt gs 0 (SE.map (Value.int .u8))) (fun iv _ => 48 - (intOf iv).toNat)
  case atStart => exact ⟨0, by omega, rfl, hB, hr, by rw [List.take_zero, List.nil_append, HWC.out]; exact hw, hb⟩
  case round =>
   clear hB hr hw hb
   obtain ⟨i, hi, rfl, hB, hr, hw, hb⟩ := hrel
   by_cases hlt : i < 48
   · have hc1 : wr.cell? ⟨gs, i, none⟩ = some (.int .u8 (SE[i]?.getD 0)) := by
      have hl := HSL.out
      have := hb i (.int .u8 (SE[i]?.getD 0)) (by rw [List.getElem?_map, List.getElem?_eq_getElem (by omega)]; rfl)
      rw [Nat.zero_add] at this
      exact this
     have hgl : (SE.take i ++ List.replicate (48 - i) 0).length = 48 := by rw [List.length_append, List.length_take, List.length_replicate, HSL.out]; omega
     obtain ⟨u0, hc2⟩ : ∃ u0, wr.cell? ⟨GW, 3 + i, none⟩ = some u0 := by
      rw [hw.cell]
      have hl := wp_cells_length ⟨t, a, s, SE.take i ++ List.replicate (48 - i) 0⟩ hgl
      exact ⟨_, List.getElem?_eq_getElem (by omega)⟩
     have hf2 := hw.frozen (3 + i)
     have hi0 : (0 : Int) ≤ (i : Int) := by omega
     have hi1 : (i : Int) < 48 := by omega
     have HST : Veil ((SE.take i ++ List.replicate (48 - i) 0).set i (SE[i]?.getD 0) = SE.take (i + 1) ++ List.replicate (48 - (i + 1)) 0) := ⟨by
      have hl := HSL.out
      rw [take_next SE i (by omega), show 48 - i = (48 - (i + 1)) + 1 by omega]
      have := set_next (SE.take i) (48 - (i + 1)) (SE[i]?.getD 0)
      rw [List.length_take, show min i SE.length = i by omega] at this
      exact this⟩
     obtain ⟨q, hq⟩ : ∃ q, SE[i]?.getD 0 = q := ⟨_, rfl⟩
     rw [hq] at hc1 HST
     have hs1 := hw.set (3 + i) (.int .u8 q)
     rw [wp_set, HST.out] at hs1
     have hr1 := hr.congr (w' := wr.setCell ⟨GW, 3 + i, none⟩ (.int .u8 q)) (Below.heap_setCell wr _ _ _ (by show w.heap.size + 1 ≠ GW; omega))
     have hb1 : (wr.setCell ⟨GW, 3 + i, none⟩ (.int .u8 q)).rangeAt gs 0 (SE.map (Value.int .u8)) := fun j u hu => by
      rw [World.cell?_of_block (w := wr) (Below.heap_setCell wr _ _ _ hgw)]; exact hb j u hu
     have hB1 := hB.setCell (p := ⟨GW, 3 + i, none⟩) (by show w.heap.size ≤ GW; omega) (.int .u8 q)
     clear hq hb HST hw
     go_wp2
     go_roundw
     case rel => exact ⟨i + 1, by omega, by go_num, hB1, hr1, hs1, hb1⟩
     case measure => simp [intOf]; omega
   · obtain rfl : i = 48 := by omega
     have hl := HSL.out
     rw [show SE.take 48 ++ List.replicate (48 - 48) 0 = SE by rw [List.take_of_length_le (by omega)]; simp] at hw
     have hWl := wp_cells_length ⟨t, a, s, SE⟩ hl
     have hW1 := wp_cells_one ⟨t, a, s, SE⟩
     obtain ⟨WE, hWE2⟩ : ∃ q, (⟨t, a, s, SE⟩ : Wp).cells = q := ⟨_, rfl⟩
     have HWE := Veil.mk hWE2
     rw [hWE2] at hWl hW1 hw
     clear hWE2 hb hl
     have rW := hw.wholeM
     go_wp2_with (first
      | (refine wpList_ldv rfl 36 _ rfl _ _ rfl WE rW Tryz.underlying36 rfl (by rw [hWl]; exact sizeWrapK) ?_)
      | (refine wpList_stv rfl 36 _ _ rfl _ rfl rfl hr (by rw [hWl]; exact sizeWrapK) (by rw [hZl, hWl]) hW1 ?_))
     refine bodyPost_ret (results_ct (Tryz.results23) _ rfl rfl (hr.setRow WE) Tryz.underlying36 rfl (by rw [hWl]; exact sizeWrapK)) rfl ⟨?_, ?_⟩
     · rw [HE.out.1, HE.out.2, HSE.out, HWE.out]; rfl
     · exact below_setRow hB (by omega) _
end
end Go.Proofs.YtflkhkmejnpapaaGreatDoor
