/- Kr6 Kr7 Ao1 -/
import Derived.Test.YtflkhkmejnpapaaGreatDoorK27
import Derived.Test.YtflkhkmejnpapaaGreatDoorK32
import Derived.Test.YtflkhkmejnpapaaGreatDoorK21
import Derived.Test.YtflkhkmejnpapaaGreatDoorK15
namespace Go.Proofs.YtflkhkmejnpapaaGreatDoor
open Go.RowKit
set_option maxRecDepth 20000
set_option linter.unusedSimpArgs false
section
variable (base O : Nat) (own : Int) (seed : List Int) (v : Value) (L : List Ep) (w : World)
set_option maxHeartbeats 4000000 in
theorem rrNow_none (hR : RRing w base O own seed v []) :
    Calls Tryz.prog 20 #[.pointer (some ⟨O, 0, none⟩)] w fun e w' => e = .returned (.tuple #[.agg (dotC 0 0).toArray, .bool false]) ∧ Below w.heap.size w w' := by
 have hB : Below w.heap.size w (w.alloc (.cells (dotC 0 0).toArray 33)) := (Below.refl _ _).alloc (Nat.le_refl _) _
 have c33 := (hR.far hB).cell33
 obtain ⟨x, c, hv⟩ := hR.own.isSlice
 rw [List.map_nil] at hv
 subst hv
 have hr0 := CellsAt.new w 33 (dotC 0 0)
 clear hR
 go_enter Tryz.func20, Tryz.ntmps20
 go_upto_region 1 with fail
 refine forget (p := fun y => Code.wp _ _ _ _ y) (fun W => Below w.heap.size w W ∧ CellsAt W w.heap.size 33 (dotC 0 0) ∧ W.cell? ⟨O, 33, none⟩ = some (.slice x 0 c)) ⟨hB, hr0, c33⟩ ?_
 clear hB hr0 c33
 rintro W ⟨hB, hr0, c33⟩
 have hbz : ∀ wx, (Instr.build 33 #[]).run Tryz.prog wx = .ok (.agg (dotC 0 0).toArray) wx := fun wx => by kernel_rfl
 have HBZ := Veil.mk hbz
 clear hbz
 go_wp2_with (first
  | (refine wpList_bldx rfl 33 _ rfl #[] (by first | rfl | kernel_rfl) _ (HBZ.out _) ?_)
  | (refine wpList_stv rfl 33 _ _ rfl _ rfl rfl hr0 sizeDotK rfl (dot_oneK 0 0) ?_))
 refine bodyPost_ret (results_ct (Tryz.results20) _ rfl rfl (hr0.setRow (dotC 0 0)) Tryz.underlying33 rfl sizeDotK) rfl ⟨rfl, ?_⟩
 exact below_setRow hB (Nat.le_refl _) _
set_option maxHeartbeats 4000000 in
theorem rrNow_some (a s : Int) (k : List Int) (hR : RRing w base O own seed v (L ++ [((a, s), k)])) :
    Calls Tryz.prog 20 #[.pointer (some ⟨O, 0, none⟩)] w fun e w' => e = .returned (.tuple #[.agg (dotC a s).toArray, .bool true]) ∧ Below w.heap.size w w' := by
 have hB : Below w.heap.size w (w.alloc (.cells (dotC 0 0).toArray 33)) := (Below.refl _ _).alloc (Nat.le_refl _) _
 have hr0 := CellsAt.new w 33 (dotC 0 0)
 obtain ⟨x, c, hv⟩ := hR.own.isSlice
 rw [List.length_map] at hv
 have hR0 := hR.far hB
 have hl16 := hR.lenL
 subst hv
 obtain ⟨g, rfl, hn, hr⟩ := hR0.own.at_ L.length (by simp)
 have hge : ((L ++ [((a, s), k)]).map epD)[L.length]'(by simp) = epC a s k := by simp [epD]
 rw [hge] at hr
 have c33 := hR0.cell33
 simp only [List.length_append, List.length_cons, List.length_nil, Nat.zero_add] at c33 hl16
 obtain ⟨m, hm⟩ : ∃ m, L.length = m := ⟨_, rfl⟩
 rw [hm] at c33 hl16 hr
 have hrg : (w.alloc (.cells (dotC 0 0).toArray 33)).rangeAt g (m * 34) (dotC a s) := fun i u hu => by
  have hi := (List.getElem?_eq_some_iff.1 hu).1
  exact hr i u (by unfold epC; rw [List.getElem?_append_left hi]; exact hu)
 have hwr : IntKind.i64.wrap (((m + 1 : Nat) : Int) - 1) = (m : Int) := by rw [IntKind.wrap_i64]; omega
 have hwr2 : IntKind.i64.wrap ((m : Int) + 1 - 1) = (m : Int) := by rw [IntKind.wrap_i64]; omega
 have hwr3 : IntKind.i64.wrap (m : Int) = (m : Int) := by rw [IntKind.wrap_i64]; omega
 have hne : (((m + 1 : Nat) : Int) == 0) = false := by simp; omega
 have hne2 : ((m : Int) + 1 == 0) = false := by simp; omega
 have hne3 : ¬ ((m : Int) + 1 = 0) := by omega
 clear hm hn hge hR hR0 hr
 go_enter Tryz.func20, Tryz.ntmps20
 go_upto_region 1 with fail
 refine forget (p := fun y => Code.wp _ _ _ _ y) (fun W => Below w.heap.size w W ∧ CellsAt W w.heap.size 33 (dotC 0 0) ∧ W.cell? ⟨O, 33, none⟩ = some (.slice (some ⟨g, 0, none⟩) (m + 1) c) ∧ W.rangeAt g (m * 34) (dotC a s)) ⟨hB, hr0, c33, hrg⟩ ?_
 clear hB hr0 c33 hrg
 rintro W ⟨hB, hr0, c33, hrg⟩
 go_upto_region 3 with fail
 refine wp_region_gate (fun w' => w'.cell? ⟨O, 33, none⟩ = some (.slice (some ⟨g, 0, none⟩) (m + 1) c) ∧ w'.rangeAt g (m * 34) (dotC a s)) 13 (by kernel_rfl) ?_
 have hS : (fun w' : World => w'.cell? ⟨O, 33, none⟩ = some (.slice (some ⟨g, 0, none⟩) (m + 1) c) ∧ w'.rangeAt g (m * 34) (dotC a s)) W.drew := ⟨c33, hrg⟩
 have uD : Tryz.prog.underlying 33 = _ := Tryz.underlying33
 have iD : (Tryz.prog.info? 33).map (·.size) = some (dotC a s).length := sizeDotK
 have hm0 : (0 : Int) ≤ (m : Int) := by omega
 have hm1 : (m : Int) < (m : Int) + 1 := by omega
 have hm2 : (m : Int) < ((m + 1 : Nat) : Int) := by omega
 refine gaA 0 _ hS ?_
 simp only [Act.put, gA, gS, gZ, sI, sZ, sS]
 refine gaA 1 _ hS ?_
 simp only [Act.put, gA, gS, gZ, sI, sZ, sS]
 refine gaA 2 _ hS ?_
 simp only [Act.put, gA, gS, gZ, sI, sZ, sS]
 refine grA 3 _ hS ?_
 simp only [Act.put, gA, gS, gZ, sI, sZ, sS]
 refine gaA 4 _ hS ?_
 simp only [Act.put, gA, gS, gZ, sI, sZ, sS]
 refine gaA 5 _ hS ?_
 simp only [Act.put, gA, gS, gZ, sI, sZ, sS]
 refine gaA 6 _ hS ?_
 simp only [Act.put, gA, gS, gZ, sI, sZ, sS]
 refine grA 7 _ hS ?_
 simp only [Act.put, gA, gS, gZ, sI, sZ, sS]
 refine gaA 8 _ hS ?_
 simp only [Act.put, gA, gS, gZ, sI, sZ, sS]
 refine gaA 9 _ hS ?_
 simp only [Act.put, gA, gS, gZ, sI, sZ, sS]
 refine gaA 10 _ hS ?_
 simp only [Act.put, gA, gS, gZ, sI, sZ, sS]
 refine gaA 11 _ hS ?_
 simp only [Act.put, gA, gS, gZ, sI, sZ, sS]
 refine wpAnyG_load (i := 12) (dst := some 27) (ty := 33) (x := .tmp 26) (b := g) (o := ((m * 34))) (cs := (dotC a s)) (by kernel_rfl) (by kernel_rfl) (by kernel_rfl) (by kernel_rfl) (by kernel_rfl) (fun _ _ _ h => h) (by kernel_rfl) (by kernel_rfl) (by kernel_rfl) hS (by kernel_rfl) (fun _ h => h.2) uD rfl iD ?_
 simp only [Act.put, gA, gS, gZ, sI, sZ, sS]
 refine wpAnyG_one (i := 13) rfl (by kernel_rfl) (by kernel_rfl) (fun K hK => ?_)
 refine wp_stvE 33 _ _ rfl _ rfl (cs := dotC a s) rfl (hr0.congr (w' := W.drew) rfl) sizeDotK rfl (dot_oneK a s) ?_
 refine hK.out _ _ (fun h => absurd (show true = false from h) (by decide)) ?_
 clear hK K
 try simp only [Act.put, gA, gS, gZ, sI, sZ, sS]
 refine wpAnyG_any (i := 14) (v := ?_) rfl (by kernel_rfl) (by kernel_rfl) (by kernel_rfl) (fun _ _ _ h => h) (by kernel_rfl) (fun h => absurd (show true = false from h) (by decide)) (by kernel_rfl) ?_ ?_
 rotate_left
 · intro _; go_simp; try with_reducible rfl
 simp only [Act.put, gA, gS, gZ, sI, sZ, sS]
 refine wpAnyG_done (by kernel_rfl) ?_ _
 go_wp2
 refine bodyPost_ret (results_ct (Tryz.results20) _ rfl rfl ((hr0.congr (w' := W.drew) rfl).setRow (dotC a s)) Tryz.underlying33 rfl sizeDotK) rfl ⟨rfl, ?_⟩
 exact below_setRow hB.drew (Nat.le_refl _) _
def rfkN (L : List Ep) (a s p : Int) : Int := if 8 ≤ p then 2 else if (keyE L a s).isSome = true then 0 else 9
def rfkK (L : List Ep) (a s p : Int) : List Int := if 8 ≤ p then List.replicate 32 0 else match keyE L a s with | some k => fkeyL k p | none => List.replicate 32 0
set_option maxHeartbeats 4000000 in
theorem rrFk_any (a s p : Int) (hR : RRing w base O own seed v L) :
    Calls Tryz.prog 18 #[.pointer (some ⟨O, 0, none⟩), .agg (dotC a s).toArray, .int .u8 p] w fun e w' => e = .returned (.tuple #[.agg (row .u8 (rfkK L a s p)), .int .i64 (rfkN L a s p)]) ∧ Below w.heap.size w w' := by
 obtain ⟨Z, hZl, hZ, hZb⟩ : ∃ Z : List Int, Z.length = 32 ∧ z32 = Z ∧ ∀ wx, (Instr.build 23 #[]).run Tryz.prog wx = .ok (.agg (row .u8 Z)) wx := ⟨_, rfl, rfl, zkey_built⟩
 have HZb := Veil.mk hZb
 have HZZ : Veil (Z = List.replicate 32 0) := ⟨by rw [← hZ]; rfl⟩
 have hB : Below w.heap.size w ((w.alloc (.cells (dotC a s).toArray 33)).alloc (.cells (row .u8 z32) 23)) := ((Below.refl _ _).alloc (Nat.le_refl _) _).alloc (by simp) _
 have hd0 := (CellsAt.new w 33 (dotC a s)).alloc (.cells (row .u8 z32) 23)
 have hr0 := Holds.new (w.alloc (.cells (dotC a s).toArray 33)) .u8 23 z32
 rw [World.size_alloc] at hr0
 have HKK : Veil (∀ W, Below w.heap.size w W → Calls Tryz.prog 22 #[.pointer (some ⟨O, 0, none⟩), .agg (dotC a s).toArray] W fun e w' => ∃ k : List Int, k.length = 32 ∧ k = (keyE L a s).getD (List.replicate 32 0) ∧ e = .returned (.tuple #[.agg (row .u8 k), .bool (keyE L a s).isSome]) ∧ Below W.heap.size W w') := ⟨fun W h => rrKeyZ_any base O own seed v L W a s (hR.far h)⟩
 clear hZb hR
 go_enter Tryz.func18, Tryz.ntmps18
 go_upto_region 1 with fail
 refine forget (p := fun y => Code.wp _ _ _ _ y) (fun W => Below w.heap.size w W ∧ Holds W (w.heap.size + 1) .u8 23 Z ∧ CellsAt W w.heap.size 33 (dotC a s)) ⟨hB, by rw [← hZ]; exact hr0, hd0⟩ ?_
 clear hB hr0 hd0 hZ
 rintro W ⟨hB, hr0, hd0⟩
 have rD := hd0.wholeM
 have hk := HKK.out W hB
 clear HKK
 have iD : (Tryz.prog.info? 33).map (·.size) = some (dotC a s).length := sizeDot
 obtain ⟨KS, hKS⟩ : ∃ q, (keyE L a s).isSome = q := ⟨_, rfl⟩
 rw [hKS] at hk
 have HKS := Veil.mk hKS
 clear hKS
 go_upto_region 2 with (first
  | (refine wpList_ldv rfl 33 _ rfl _ _ rfl (dotC a s) rD Tryz.underlying33 rfl iD ?_)
  | (go_at_call 22; refine hk.mono ?_; rintro e W1 ⟨k1, hk1, hke, rfl, hb1⟩; have HKE := Veil.mk hke; clear hke; have hA1 := Holds.new W1 .u8 23 (List.replicate 32 0))
  | (refine wpList_st rfl 23 _ _ rfl _ rfl rfl hA1 (by rw [hk1]; exact sizeKeyD) (by rw [hk1]; rfl) ?_))
 have hb2 : Below W.heap.size W ((W1.alloc (.cells (row .u8 (List.replicate 32 0)) 23)).setRow W1.heap.size (row .u8 k1)) := hb1.trans ((below_setRow ((Below.refl _ _).alloc (Nat.le_refl _) _) (Nat.le_refl _) _).mono hb1.size)
 refine forget (p := fun y => Code.wp _ _ _ _ y) (fun V => Below w.heap.size w V ∧ Holds V (w.heap.size + 1) .u8 23 Z ∧ Holds V W1.heap.size .u8 23 k1) ⟨hB.trans (hb2.mono hB.size), hr0.below hb2 hr0.lt, hA1.setRow _⟩ ?_
 obtain ⟨G, hG⟩ : ∃ q, W1.heap.size = q := ⟨_, rfl⟩
 rw [hG]
 clear hB hr0 hd0 rD hb2 hA1 hb1 hk hG
 rintro V ⟨hB, hr0, hx⟩
 by_cases h8 : 8 ≤ p
 · have HE : Veil (rfkK L a s p = Z ∧ rfkN L a s p = 2) := ⟨by unfold rfkK; rw [if_pos h8, HZZ.out], by unfold rfkN; rw [if_pos h8]⟩
   have h7 : p > 7 := by omega
   go_wp2_with (first
    | (refine wpList_bldx rfl 23 _ rfl #[] (by first | rfl | kernel_rfl) _ (HZb.out _) ?_)
    | (refine wpList_st rfl 23 _ _ rfl _ rfl rfl hr0 (by rw [hZl]; exact sizeKeyD) rfl ?_))
   refine bodyPost_ret (results_ct (Tryz.results18) _ rfl rfl (hr0.setRow Z).cellsAt Tryz.underlying23 rfl (by rw [List.length_map, hZl]; exact sizeKeyD)) rfl ⟨?_, ?_⟩
   · rw [HE.out.1, HE.out.2]; rfl
   · exact below_setRow hB (by omega) _
 · have h7 : ¬ p > 7 := by omega
   cases KS with
   | false =>
    have HKN : Veil (keyE L a s = none) := ⟨by have := HKS.out; cases hq : keyE L a s with | none => rfl | some _ => rw [hq] at this; cases this⟩
    have HE : Veil (rfkK L a s p = Z ∧ rfkN L a s p = 9) := ⟨by unfold rfkK; rw [if_neg h8, HKN.out, HZZ.out], by unfold rfkN; rw [if_neg h8, HKN.out]; rfl⟩
    go_wp2_with (first
     | (refine wpList_bldx rfl 23 _ rfl #[] (by first | rfl | kernel_rfl) _ (HZb.out _) ?_)
     | (refine wpList_st rfl 23 _ _ rfl _ rfl rfl hr0 (by rw [hZl]; exact sizeKeyD) rfl ?_))
    refine bodyPost_ret (results_ct (Tryz.results18) _ rfl rfl (hr0.setRow Z).cellsAt Tryz.underlying23 rfl (by rw [List.length_map, hZl]; exact sizeKeyD)) rfl ⟨?_, ?_⟩
    · rw [HE.out.1, HE.out.2]; rfl
    · exact below_setRow hB (by omega) _
   | true =>
    have HKN : Veil (keyE L a s = some k1) := ⟨by have := HKS.out; have h2 := HKE.out; cases hq : keyE L a s with | none => rw [hq] at this; cases this | some z => rw [hq] at h2; rw [h2]; rfl⟩
    have HE : Veil (rfkK L a s p = fkeyL k1 p ∧ rfkN L a s p = 0) := ⟨by unfold rfkK; rw [if_neg h8, HKN.out], by unfold rfkN; rw [if_neg h8, HKN.out]; rfl⟩
    have HD : Veil (∀ W : World, Calls Tryz.prog 32 #[.agg (row .u8 k1), .string ⟨#[102, 114, 97, 109, 101]⟩, .slice (some ⟨W.heap.size, 0, none⟩) 1 1] (W.alloc (.cells (row .u8 [p]) 5)) fun e w' => e = .returned (.agg (row .u8 (fkeyL k1 p))) ∧ Below (W.alloc (.cells (row .u8 [p]) 5)).heap.size (W.alloc (.cells (row .u8 [p]) 5)) w') := ⟨fun W => rderive_any k1 ⟨#[102, 114, 97, 109, 101]⟩ _ 1 1 [p] _ hk1 (by decide) (newB W [p] 1 rfl (by simp)) (by omega)⟩
    have hPl : (fkeyL k1 p).length = 32 := derL_length _ _
    obtain ⟨PL, hPL⟩ : ∃ z, fkeyL k1 p = z := ⟨_, rfl⟩
    rw [hPL] at HD hPl HE
    clear hPL
    have hd := HD.out V
    have hB2 := hB.alloc hB.size (.cells (row .u8 [p]) 5)
    have hr2 := hr0.alloc (.cells (row .u8 [p]) 5)
    go_wp2_with (first
     | (refine wpList_ld rfl 23 _ rfl _ rfl hx Tryz.underlying23 sizeKeyD hk1 ?_)
     | (go_at_call 32; refine hd.mono ?_; rintro e w1 ⟨rfl, hb1⟩; have hr3 := hr2.below hb1 hr2.lt)
     | (refine wpList_st rfl 23 _ _ rfl _ rfl rfl hr3 (by rw [hPl]; exact sizeKeyD) (by rw [hZl, hPl]) ?_))
    refine bodyPost_ret (results_ct (Tryz.results18) _ rfl rfl (hr3.setRow PL).cellsAt Tryz.underlying23 rfl (by rw [List.length_map, hPl]; exact sizeKeyD)) rfl ⟨?_, ?_⟩
    · rw [HE.out.1, HE.out.2]; rfl
    · exact below_setRow (hB2.trans (hb1.mono hB2.size)) (by omega) _
end
set_option maxHeartbeats 2000000 in
theorem rwnonce_any (f t a s : Int) (w : World) :
    Calls Tryz.prog 42 #[.int .u8 f, .int .u8 t, .agg (dotC a s).toArray] w fun e w' => e = .returned (.agg (row .u8 (wrapNL f t a s))) ∧ Below w.heap.size w w' := by
 have e1 : IntKind.u8.wrap (s / 16777216) = s / 16777216 % 256 := by simp [IntKind.wrap, IntKind.bits, IntKind.signed]
 have e2 : IntKind.u8.wrap (s / 65536) = s / 65536 % 256 := by simp [IntKind.wrap, IntKind.bits, IntKind.signed]
 have e3 : IntKind.u8.wrap (s / 256) = s / 256 % 256 := by simp [IntKind.wrap, IntKind.bits, IntKind.signed]
 have e4 : IntKind.u8.wrap s = s % 256 := by simp [IntKind.wrap, IntKind.bits, IntKind.signed]
 obtain ⟨Z, hZl, hZ⟩ : ∃ Z : List Int, Z.length = 12 ∧ Z = List.replicate 12 0 := ⟨_, rfl, rfl⟩
 have hd0 := (CellsAt.new w 33 (dotC a s)).alloc (.cells (row .u8 Z) 78)
 have hr0 := Holds.new (w.alloc (.cells (dotC a s).toArray 33)) .u8 78 Z
 rw [World.size_alloc] at hr0
 have hB : Below w.heap.size w ((w.alloc (.cells (dotC a s).toArray 33)).alloc (.cells (row .u8 Z) 78)) := ((Below.refl _ _).alloc (Nat.le_refl _) _).alloc (by simp) _
 go_enter Tryz.func42, Tryz.ntmps42
 go_upto_region 1 with fail
 refine forget (p := fun y => Code.wp _ _ _ _ y) (fun W => Below w.heap.size w W ∧ Holds W (w.heap.size + 1) .u8 78 Z ∧ CellsAt W w.heap.size 33 (dotC a s)) ⟨by rw [hZ] at hB; exact hB, by rw [hZ] at hr0 ⊢; exact hr0, by rw [hZ] at hd0; exact hd0⟩ ?_
 clear hB hr0 hZ hd0
 rintro W ⟨hB, hr0, hd0⟩
 have c0 : W.cell? ⟨w.heap.size, 0, none⟩ = some (.int .u8 a) := hd0.cell 0
 have c1 : W.cell? ⟨w.heap.size, 1, none⟩ = some (.int .u32 s) := hd0.cell 1
 go_wp2_with (refine wpList_st rfl 78 _ _ rfl _ rfl (l := wrapNL f t a s) rfl hr0 sizeNonceD hZl ?_)
 refine bodyPost_ret (results_holds (Tryz.results42) _ rfl (hr0.setRow (wrapNL f t a s)) Tryz.underlying78 sizeNonceD rfl) rfl ⟨rfl, ?_⟩
 exact below_setRow hB (by omega) _
section
variable (base O : Nat) (own : Int) (seed : List Int) (v : Value) (L : List Ep) (w : World)
set_option maxHeartbeats 4000000 in
theorem rrEpochs_any (hR : RRing w base O own seed v L) :
    Calls Tryz.prog 27 #[.pointer (some ⟨O, 0, none⟩)] w fun e w' => ∃ v', e = .returned v' ∧ OwnI w' w.heap.size 33 2 v' (L.map fun e => dotC e.1.1 e.1.2) ∧ Below w.heap.size w w' := by
 have HR := Veil.mk (fun W (hb : Below w.heap.size w W) => hR.far hb)
 have hl16 := hR.lenL
 obtain ⟨x, c, hv⟩ := hR.own.isSlice
 rw [List.length_map] at hv
 obtain ⟨n, hn⟩ : ∃ q, L.length = q := ⟨_, rfl⟩
 rw [hn] at hv hl16
 subst hv
 have HN := Veil.mk hn
 obtain ⟨DL, hDL⟩ : ∃ q, (L.map fun e => dotC e.1.1 e.1.2) = q := ⟨_, rfl⟩
 have HDL := Veil.mk hDL
 have hDn : DL.length = n := by rw [← hDL, List.length_map, hn]
 have HDN := Veil.mk hDn
 clear hR hn hDn
 rw [hDL]
 clear hDL
 have uD := Tryz.underlying33
 go_enter Tryz.func27, Tryz.ntmps27
 go_wp2
 go_loopw [3, 4] (fun u q wr => ∃ j : Nat, j ≤ n ∧ q = .int .i64 j ∧ OwnI wr w.heap.size 33 2 u (DL.take j) ∧ Below w.heap.size w wr) (fun _ q _ => n - (intOf q).toNat)
 case atStart => exact ⟨0, Nat.zero_le _, rfl, OwnI.nil _ _ _ _, Below.refl _ _⟩
 case round =>
  obtain ⟨j, hj, rfl, ho, hb⟩ := hrel
  have hRR := HR.out wr hb
  have c33 := hRR.cell33
  by_cases hjn : j < n
  · have hji : (j : Int) < (n : Int) := by omega
    have hj0 : (0 : Int) ≤ (j : Int) := by omega
    have hjL : j < L.length := by rw [HN.out]; exact hjn
    obtain ⟨g, hxg, _, hr⟩ := hRR.own.at_ j (by rw [List.length_map]; exact hjL)
    subst hxg
    rw [List.getElem_map] at hr
    have r1 : wr.rangeAt g (j * 34) (dotC L[j].1.1 L[j].1.2) := fun i u hu => by
     have hi := (List.getElem?_eq_some_iff.1 hu).1
     exact hr i u (by unfold epD epC; rw [List.getElem?_append_left hi]; exact hu)
    have HTK : Veil (DL.take (j + 1) = DL.take j ++ [dotC L[j].1.1 L[j].1.2]) := ⟨by
     have hjd : j < DL.length := by rw [HDN.out]; exact hjn
     rw [List.take_add_one, List.getElem?_eq_getElem hjd]
     have := HDL.out
     subst this
     simp⟩
    have hDl : (dotC L[j].1.1 L[j].1.2).length = 2 := rfl
    have h1D := dot_oneK L[j].1.1 L[j].1.2
    have iDj : (Tryz.prog.info? 33).map (·.size) = some (dotC L[j].1.1 L[j].1.2).length := sizeDot
    generalize dotC L[j].1.1 L[j].1.2 = DJ at r1 HTK hDl h1D iDj
    clear hr hRR
    have hb2 : Below wr.heap.size wr (wr.alloc (.cells DJ.toArray 33)) := (Below.refl _ _).alloc (Nat.le_refl _) _
    have hB2 := hb.trans (hb2.mono hb.size)
    obtain ⟨u', w', hrun, ho', hg', _⟩ := (ho.far hb2).app (P := Tryz.prog) 58 58 Tryz.underlying58 infoDot (by rfl) (by decide) DJ hDl h1D wr.heap.size (CellsAt.new wr 33 DJ).wholeM (by rw [List.length_take]; omega) (by decide) hB2.size
    have HEND : Veil (OwnI w' w.heap.size 33 2 u' (DL.take (j + 1)) ∧ Below w.heap.size w w') := ⟨by rw [HTK.out]; exact ho', hB2.trans ((Turn.of_grown (p := fun k => w.heap.size ≤ k) hg' (fun k h => (ho.blockLt k h).2.1)).below hB2.size (fun k hk => hk))⟩
    have hw1 : IntKind.i64.wrap ((j : Int) + 1) = (j : Int) + 1 := by rw [IntKind.wrap_i64]; omega
    clear ho hb hb2 hB2 ho' hg'
    go_wp2_with (first
     | (refine wpList_ldv rfl 33 _ rfl _ _ rfl DJ r1 uD rfl iDj ?_)
     | (refine wpList_bs1 rfl 58 33 _ rfl DJ rfl Tryz.underlying58 infoDot (by decide) (by decide) hDl ?_)
     | (at_builtin; refine wpList_appx rfl _ _ 58 58 rfl _ _ _ _ rfl rfl hrun ?_))
    go_roundw
    case rel => exact ⟨j + 1, hjn, by push_cast; rfl, HEND.out.1, HEND.out.2⟩
    case measure => simp [intOf]; omega
  · have hji : ¬ (j : Int) < (n : Int) := by omega
    have HEND : Veil (DL.take j = DL) := ⟨List.take_of_length_le (by rw [HDN.out]; omega)⟩
    clear hRR
    go_wp2
    go_ret
    exact ⟨_, rfl, by rw [← HEND.out]; exact ho, hb⟩
end
theorem zerosL_succ (A : List Int) (j : Nat) : A ++ zerosL (j + 1) = (A ++ zerosL j) ++ [0] := by
 unfold zerosL; rw [List.replicate_succ', List.append_assoc]
theorem fill_stop (n j : Nat) (h : j ≤ fillN n) (hm : (n + j) % 16 = 0) : j = fillN n := by unfold fillN at h ⊢; omega
theorem fill_less (n j : Nat) (h : j ≤ fillN n) (hm : ¬ (n + j) % 16 = 0) : j < fillN n := by unfold fillN at h ⊢; omega
theorem le16b_get (m n i : Nat) (hi : i < 16) : (le8 m ++ le8 n)[i]?.getD 0 = ((if i < 8 then m else n : Nat) : Int) / 2 ^ (8 * (i % 8)) % 256 := by
 by_cases h : i < 8
 · rw [if_pos h, List.getElem?_append_left (by rw [le8_length]; exact h), le8_get m i h, Nat.mod_eq_of_lt h]
 · rw [if_neg h, List.getElem?_append_right (by rw [le8_length]; omega), le8_length, le8_get n (i - 8) (by omega), show i % 8 = i - 8 by omega]
set_option maxHeartbeats 4000000 in
theorem refFramed_any (x : Option Addr) (len cap : Nat) (o : List Int) (y : Option Addr) (lb cb : Nat) (s : List Int) (w : World) (hx : Bytes w x len cap o) (hy : Bytes w y lb cb s) (hl1 : len ≤ 100000) (hl2 : lb ≤ 100000) :
    Calls Tryz.prog 56 #[.slice x len cap, .slice y lb cb] w fun e w' => ∃ v, e = .returned v ∧ OwnB w' w.heap.size v (framedL o s) ∧ Below w.heap.size w w' := by
 have HOL : Veil (o.length = len) := ⟨hx.len_eq.symm⟩
 have HSL : Veil (s.length = lb) := ⟨hy.len_eq.symm⟩
 have HX : Veil (Bytes w x len cap o) := ⟨hx⟩
 have HY : Veil (Bytes w y lb cb s) := ⟨hy⟩
 have h64a : IntKind.u64.wrap (len : Int) = (len : Int) := by simp [IntKind.wrap, IntKind.bits, IntKind.signed]; omega
 have h64b : IntKind.u64.wrap (lb : Int) = (lb : Int) := by simp [IntKind.wrap, IntKind.bits, IntKind.signed]; omega
 clear hy
 go_enter Tryz.func56, Tryz.ntmps56
 have hx0 := HX.out
 go_wp2_with (at_builtin; refine wpList_app rfl _ _ rfl w.heap.size _ [] rfl (OwnB.nil _ _) x len cap o rfl hx0 (by simp; omega) (Nat.le_refl _) ?_; intro v1 w1 ho1 hg1)
 have hB1 : Below w.heap.size w w1 := below_grown (Below.refl _ _) (OwnB.nil _ _) hg1 (Nat.le_refl _)
 rw [List.nil_append] at ho1
 clear hg1 hx0 hx
 go_loopw [5] (fun v wr => ∃ j : Nat, j ≤ fillN len ∧ OwnB wr w.heap.size v (o ++ zerosL j) ∧ Below w.heap.size w wr) (fun v _ => len + 16 - lenOf v)
 case atStart => exact ⟨0, by omega, by simpa [zerosL] using ho1, hB1⟩
 case round =>
  clear ho1 hB1
  obtain ⟨j, hj, ho, hB⟩ := hrel
  obtain ⟨xv, nv, cv, hv, hnv⟩ := ho.isSlice
  rw [List.length_append, zerosL_length, HOL.out] at hnv
  subst hnv
  subst hv
  have hfl := fillN_lt len
  have hol := HOL.out
  have hln : (o ++ zerosL j).length = len + j := by rw [List.length_append, zerosL_length, hol]
  obtain ⟨r, hr⟩ : ∃ r : Nat, (len + j) % 16 = r := ⟨_, rfl⟩
  have hrt : ((len + j : Nat) : Int).tmod 16 = (r : Int) := by rw [Int.tmod_eq_emod_of_nonneg (by omega)]; omega
  have hrt2 : ((len : Int) + (j : Int)).tmod 16 = (r : Int) := by rw [Int.tmod_eq_emod_of_nonneg (by omega)]; omega
  by_cases hz : r = 0
  · subst hz
    have hjf := fill_stop len j hj hr
    have HJ : Veil (j = fillN len) := ⟨hjf⟩
    have HM : Veil ((len + j) % 16 = 0) := ⟨hr⟩
    have HZS : Veil (∀ q, (o ++ zerosL j ++ s) ++ zerosL (q + 1) = ((o ++ zerosL j ++ s) ++ zerosL q) ++ [0]) := ⟨zerosL_succ _⟩
    have HFR : Veil (∀ q, q = fillN lb → (o ++ zerosL j ++ s) ++ zerosL q ++ (le8 len ++ le8 lb) = framedL o s) := ⟨fun q hq => by
     unfold framedL
     rw [HOL.out, HSL.out, ← HJ.out, ← hq]
     simp only [List.append_assoc]⟩
    obtain ⟨P, hP⟩ : ∃ q, o ++ zerosL j = q := ⟨_, rfl⟩
    have hlnP := hln
    rw [hP] at ho HFR hlnP HZS
    have hPl : P.length ≤ 200000 := by omega
    have hyB := HY.out.below hB
    have HPL : Veil (P.length = len + j) := ⟨hlnP⟩
    clear hjf hr hP hln hlnP hol hrt hrt2
    have hrt : ((len + j : Nat) : Int).tmod 16 = 0 := by have := HM.out; rw [Int.tmod_eq_emod_of_nonneg (by omega)]; omega
    have hrt2 : ((len : Int) + (j : Int)).tmod 16 = 0 := by have := HM.out; rw [Int.tmod_eq_emod_of_nonneg (by omega)]; omega
    go_wp2_with (at_builtin; refine wpList_app rfl _ _ rfl w.heap.size _ P rfl ho y lb cb s rfl hyB (by omega) hB.size ?_; intro v2 w2 ho2 hg2)
    have hB2 : Below w.heap.size w w2 := below_grown hB ho hg2 hB.size
    clear hg2 ho hB hyB hrt hrt2
    obtain ⟨Q, hQ⟩ : ∃ q, P ++ s = q := ⟨_, rfl⟩
    rw [hQ] at ho2 HFR HZS
    have HQL : Veil (Q.length = len + j + lb) := ⟨by rw [← hQ, List.length_append, HPL.out, HSL.out]⟩
    clear hQ
    go_loopw [5] (fun v wr => ∃ q : Nat, q ≤ fillN lb ∧ OwnB wr w.heap.size v (Q ++ zerosL q) ∧ Below w.heap.size w wr) (fun v _ => len + j + lb + 16 - lenOf v)
    case atStart => exact ⟨0, by omega, by simpa [zerosL] using ho2, hB2⟩
    case round =>
     clear ho2 hB2
     obtain ⟨q, hq, ho, hB⟩ := hrel
     obtain ⟨xv, nv, cv, hv, hnv⟩ := ho.isSlice
     rw [List.length_append, zerosL_length, HQL.out] at hnv
     subst hnv
     subst hv
     have hfl := fillN_lt lb
     have hln : (Q ++ zerosL q).length = len + j + lb + q := by rw [List.length_append, zerosL_length, HQL.out]
     obtain ⟨r, hr⟩ : ∃ r : Nat, (len + j + lb + q) % 16 = r := ⟨_, rfl⟩
     have hrt : ((len + j + lb + q : Nat) : Int).tmod 16 = (r : Int) := by rw [Int.tmod_eq_emod_of_nonneg (by omega)]; omega
     have hrt2 : ((len : Int) + (j : Int) + (lb : Int) + (q : Int)).tmod 16 = (r : Int) := by rw [Int.tmod_eq_emod_of_nonneg (by omega)]; omega
     by_cases hz : r = 0
     · subst hz
       have hqf : q = fillN lb := fill_stop lb q hq (by have := HM.out; omega)
       have HQ : Veil (Q ++ zerosL q ++ (le8 len ++ le8 lb) = framedL o s) := ⟨HFR.out q hqf⟩
       have HG : Veil (∀ i, i < 16 → (le8 len ++ le8 lb)[i]?.getD 0 = ((if i < 8 then len else lb : Nat) : Int) / 2 ^ (8 * (i % 8)) % 256) := ⟨le16b_get len lb⟩
       have HLL : Veil ((le8 len ++ le8 lb).length = 16) := ⟨by rw [List.length_append, le8_length, le8_length]⟩
       obtain ⟨L, hL⟩ : ∃ q, le8 len ++ le8 lb = q := ⟨_, rfl⟩
       obtain ⟨S, hS⟩ : ∃ t, Q ++ zerosL q = t := ⟨_, rfl⟩
       rw [hL] at HQ HG HLL
       rw [hS] at HQ ho hln
       have HSN : Veil (S.length ≤ 500000) := ⟨by omega⟩
       clear hqf hr hS hln hL
       go_wp2_with fail
       go_loopw [5, 6] (fun v iv wr => ∃ i : Nat, i ≤ 16 ∧ iv = .int .i64 i ∧ OwnB wr w.heap.size v (S ++ L.take i) ∧ Below w.heap.size w wr) (fun _ iv _ => 16 - (intOf iv).toNat)
       case atStart => exact ⟨0, by omega, rfl, by simpa using ho, hB⟩
       case round =>
        clear ho hB hrt hrt2
        obtain ⟨i, hi, rfl, ho, hB⟩ := hrel
        by_cases hlt : i < 16
        · have hg := HG.out i hlt
          have ht := take_next L i (by rw [HLL.out]; exact hlt)
          obtain ⟨m, hm⟩ : ∃ m : Nat, 8 * (i % 8) = m := ⟨_, rfl⟩
          obtain ⟨r, hr⟩ : ∃ r : Nat, i % 8 = r := ⟨_, rfl⟩
          rw [hm] at hg
          have hlS : (S ++ L.take i).length ≤ 600000 := by rw [List.length_append, List.length_take]; have := HSN.out; omega
          have hi16 : (i : Int) < 16 := by omega
          have r5 : (i : Int).tmod 8 = (r : Int) := by rw [Int.tmod_eq_emod_of_nonneg (by omega)]; omega
          have r2 : (8 : Int) * (r : Int) = (m : Int) := by omega
          have r3 : IntKind.i64.wrap (m : Int) = (m : Int) := by rw [IntKind.wrap_i64]; omega
          have r4 : (m : Int) < 64 := by omega
          by_cases h8 : i < 8
          · have h8' : ¬ (i : Int) ≥ 8 := by omega
            rw [if_pos h8] at hg
            have HT : Veil (S ++ L.take (i + 1) = (S ++ L.take i) ++ [(len : Int) / 2 ^ m % 256]) := ⟨by rw [ht, hg, List.append_assoc]⟩
            obtain ⟨A, hA⟩ : ∃ q, S ++ L.take i = q := ⟨_, rfl⟩
            rw [hA] at HT ho hlS
            have r8 : IntKind.u8.wrap ((len : Int) / 2 ^ m) = (len : Int) / 2 ^ m % 256 := by simp [IntKind.wrap, IntKind.bits, IntKind.signed]
            clear hg ht hm hr hA
            go_wp2_with (at_builtin; refine wpList_app1 rfl _ _ rfl w.heap.size _ A rfl ((len : Int) / 2 ^ m % 256) (ho.alloc _) rfl (by omega) hB.size ?_; intro v3 w3 ho3 hg3)
            go_roundw
            case rel => exact ⟨i + 1, by omega, by go_num, by rw [HT.out]; exact ho3, below_grown (hB.alloc hB.size _) (ho.alloc _) hg3 (by have := hB.size; simp; omega)⟩
            case measure => simp [intOf]; omega
          · have h8' : (i : Int) ≥ 8 := by omega
            rw [if_neg h8] at hg
            have HT : Veil (S ++ L.take (i + 1) = (S ++ L.take i) ++ [(lb : Int) / 2 ^ m % 256]) := ⟨by rw [ht, hg, List.append_assoc]⟩
            obtain ⟨A, hA⟩ : ∃ q, S ++ L.take i = q := ⟨_, rfl⟩
            rw [hA] at HT ho hlS
            have r8 : IntKind.u8.wrap ((lb : Int) / 2 ^ m) = (lb : Int) / 2 ^ m % 256 := by simp [IntKind.wrap, IntKind.bits, IntKind.signed]
            clear hg ht hm hr hA
            go_wp2_with (at_builtin; refine wpList_app1 rfl _ _ rfl w.heap.size _ A rfl ((lb : Int) / 2 ^ m % 256) (ho.alloc _) rfl (by omega) hB.size ?_; intro v3 w3 ho3 hg3)
            go_roundw
            case rel => exact ⟨i + 1, by omega, by go_num, by rw [HT.out]; exact ho3, below_grown (hB.alloc hB.size _) (ho.alloc _) hg3 (by have := hB.size; simp; omega)⟩
            case measure => simp [intOf]; omega
        · obtain rfl : i = 16 := by omega
          rw [List.take_of_length_le (by rw [HLL.out]; omega), HQ.out] at ho
          rw [show ((16 : Nat) : Int) = 16 from rfl]
          go_wp2
          go_ret
          exact ⟨_, rfl, ho, hB⟩
     · have hlt := fill_less lb q hq (by have := HM.out; omega)
       have hrn : ¬ (r : Int) = 0 := by omega
       have HZ1 : Veil (Q ++ zerosL (q + 1) = (Q ++ zerosL q) ++ [0]) := ⟨HZS.out q⟩
       obtain ⟨A, hA⟩ : ∃ t, Q ++ zerosL q = t := ⟨_, rfl⟩
       rw [hA] at HZ1 ho hln
       have hAl : A.length ≤ 600000 := by omega
       have HAL : Veil (A.length = len + j + lb + q) := ⟨hln⟩
       clear hr hA hln hz
       go_wp2_with (at_builtin; refine wpList_app1 rfl _ _ rfl w.heap.size _ A rfl 0 (ho.alloc _) rfl (by omega) hB.size ?_; intro v3 w3 ho3 hg3)
       obtain ⟨x3, n3, c3, hv3, hn3⟩ := ho3.isSlice
       rw [List.length_append, HAL.out] at hn3
       subst hn3
       subst hv3
       go_roundw
       case rel => exact ⟨q + 1, by omega, by rw [HZ1.out]; exact ho3, below_grown (hB.alloc hB.size _) (ho.alloc _) hg3 (by have := hB.size; simp; omega)⟩
       case measure => simp only [lenOf, List.length_cons, List.length_nil]; omega
  · have hlt := fill_less len j hj (by omega)
    have hrn : ¬ (r : Int) = 0 := by omega
    have HZ1 : Veil (o ++ zerosL (j + 1) = (o ++ zerosL j) ++ [0]) := ⟨zerosL_succ o j⟩
    obtain ⟨A, hA⟩ : ∃ t, o ++ zerosL j = t := ⟨_, rfl⟩
    rw [hA] at HZ1 ho hln
    have hAl : A.length ≤ 600000 := by omega
    have HAL : Veil (A.length = len + j) := ⟨hln⟩
    clear hr hA hln hz hol
    go_wp2_with (at_builtin; refine wpList_app1 rfl _ _ rfl w.heap.size _ A rfl 0 (ho.alloc _) rfl (by omega) hB.size ?_; intro v3 w3 ho3 hg3)
    obtain ⟨x3, n3, c3, hv3, hn3⟩ := ho3.isSlice
    rw [List.length_append, HAL.out] at hn3
    subst hn3
    subst hv3
    go_roundw
    case rel => exact ⟨j + 1, by omega, by rw [HZ1.out]; exact ho3, below_grown (hB.alloc hB.size _) (ho.alloc _) hg3 (by have := hB.size; simp; omega)⟩
    case measure => simp only [lenOf, List.length_cons, List.length_nil]; omega
end Go.Proofs.YtflkhkmejnpapaaGreatDoor
