/- An6 Kfz Kf Frg Wo2 -/
import Derived.Test.YtfainlfiphdaeaaGreatDoorR38
import Derived.Lib.SlBytesConst
import Derived.Test.YtfainlfiphdaeaaGreatDoorR37
import Derived.Test.YtfainlfiphdaeaaGreatDoorR02
import Derived.Test.YtfainlfiphdaeaaGreatDoorR35
import Derived.Test.YtfainlfiphdaeaaGreatDoorR36
import Derived.Test.YtfainlfiphdaeaaGreatDoorR03
import Derived.Test.YtfainlfiphdaeaaGreatDoorR07
namespace Go.Proofs.YtfainlfiphdaeaaGreatDoor
open Go.RowKit
set_option maxRecDepth 20000
set_option linter.unusedSimpArgs false
theorem sealL_length (k n o b : List Int) : (sealL k n o b).length = b.length + 16 := by
  unfold sealL
  rw [List.length_append, xorL_length, show (tagL k n o (xorL k n 1 b)).length = 16 from polyL_length _ _]
theorem seal_take (k n o b : List Int) (m : Nat) (hm : m = b.length) : (sealL k n o b).take m = xorL k n 1 b := by
  unfold sealL
  rw [List.take_left' (by rw [xorL_length, hm])]
theorem seal_drop (k n o b : List Int) (m : Nat) (hm : m = b.length) : (sealL k n o b).drop m = tagL k n o (xorL k n 1 b) := by
  unfold sealL
  rw [List.drop_left' (by rw [xorL_length, hm])]
theorem sealL_in (k n o b : List Int) (ho : ∀ v ∈ o, isB v) (hb : ∀ v ∈ b, isB v) : ∀ v ∈ sealL k n o b, isB v := by
  intro v hv
  unfold sealL at hv
  rcases List.mem_append.1 hv with h | h
  · exact xorL_in k n 1 b hb v h
  · exact tagL_in k n o _ ho (xorL_in k n 1 b hb) v h
end Go.Proofs.YtfainlfiphdaeaaGreatDoor
namespace Go.Proofs.YtfainlfiphdaeaaGreatDoor
open Go.RowKit
set_option maxRecDepth 20000
def z32 : List Int := List.replicate 32 0
theorem zkey_built (w : World) : (Instr.build 23 #[]).run Tryz.prog w = .ok (.agg (row .u8 z32)) w := by kernel_rfl
end Go.Proofs.YtfainlfiphdaeaaGreatDoor
namespace Go.Proofs.YtfainlfiphdaeaaGreatDoor
open Go.RowKit
set_option maxRecDepth 20000
set_option linter.unusedSimpArgs false
section
variable (base H : Nat) (own : Int) (seed : List Int) (b : Nat) (M : Int → Int → Option (List Int)) (v : Value) (L : List (Int × Int)) (w : World)
set_option maxHeartbeats 1000000 in
theorem fk_range (a s p : Int) (h8 : 8 ≤ p) :
    Calls Tryz.prog 49 #[.pointer (some ⟨H, 0, none⟩), .agg (dotC a s).toArray, .int .u8 p] w fun e w' => e = .returned (.tuple #[.agg (row .u8 z32), .int .i64 2]) ∧ Below w.heap.size w w' := by
  obtain ⟨Z, hZl, hZ, hZb⟩ : ∃ Z : List Int, Z.length = 32 ∧ z32 = Z ∧ ∀ wx, (Instr.build 23 #[]).run Tryz.prog wx = .ok (.agg (row .u8 Z)) wx := ⟨_, rfl, rfl, zkey_built⟩
  have HZb := Veil.mk hZb
  have hB : Below w.heap.size w ((w.alloc (.cells (dotC a s).toArray 26)).alloc (.cells (row .u8 z32) 23)) := ((Below.refl _ _).alloc (Nat.le_refl _) _).alloc (by simp) _
  have hr0 := Holds.new (w.alloc (.cells (dotC a s).toArray 26)) .u8 23 z32
  rw [World.size_alloc] at hr0
  rw [hZ]
  clear hZb
  go_enter Tryz.func49, Tryz.ntmps49
  go_upto_region 1 with fail
  refine forget (p := fun y => Code.wp _ _ _ _ y) (fun W => Below w.heap.size w W ∧ Holds W (w.heap.size + 1) .u8 23 Z) ⟨hB, by rw [← hZ]; exact hr0⟩ ?_
  clear hB hr0 hZ
  rintro W ⟨hB, hr0⟩
  go_wp2_with (first
    | (refine wpList_bldx rfl 23 _ rfl #[] (by first | rfl | kernel_rfl) _ (HZb.out _) ?_)
    | (refine wpList_st rfl 23 _ _ rfl _ rfl rfl hr0 (by rw [hZl]; exact sizeKeyD) rfl ?_))
  refine bodyPost_ret (results_ct (Tryz.results49) _ rfl rfl (hr0.setRow Z).cellsAt Tryz.underlying23 rfl (by rw [List.length_map, hZl]; exact sizeKeyD)) rfl ⟨rfl, ?_⟩
  exact below_setRow hB (by omega) _
set_option maxHeartbeats 4000000 in
theorem fk_nokey (a s p : Int) (ho : okD a s) (h8 : p < 8) (hR : RingAt w base H own seed b M v L) (hm : M a s = none) :
    Calls Tryz.prog 49 #[.pointer (some ⟨H, 0, none⟩), .agg (dotC a s).toArray, .int .u8 p] w fun e w' => e = .returned (.tuple #[.agg (row .u8 z32), .int .i64 9]) ∧ Below w.heap.size w w' := by
  obtain ⟨Z, hZl, hZ, hZb⟩ : ∃ Z : List Int, Z.length = 32 ∧ z32 = Z ∧ ∀ wx, (Instr.build 23 #[]).run Tryz.prog wx = .ok (.agg (row .u8 Z)) wx := ⟨_, rfl, rfl, zkey_built⟩
  have HZb := Veil.mk hZb
  have hn8 : ¬ 8 ≤ p := by omega
  have hB : Below w.heap.size w ((w.alloc (.cells (dotC a s).toArray 26)).alloc (.cells (row .u8 z32) 23)) := ((Below.refl _ _).alloc (Nat.le_refl _) _).alloc (by simp) _
  have hd0 := (CellsAt.new w 26 (dotC a s)).alloc (.cells (row .u8 z32) 23)
  have hr0 := Holds.new (w.alloc (.cells (dotC a s).toArray 26)) .u8 23 z32
  rw [World.size_alloc] at hr0
  rw [hZ]
  clear hZb
  go_enter Tryz.func49, Tryz.ntmps49
  go_upto_region 1 with fail
  refine forget (p := fun y => Code.wp _ _ _ _ y) (fun W => Below w.heap.size w W ∧ RingAt W base H own seed b M v L ∧ Holds W (w.heap.size + 1) .u8 23 Z ∧ CellsAt W w.heap.size 26 (dotC a s)) ⟨hB, hR.far hB, by rw [← hZ]; exact hr0, hd0⟩ ?_
  have HZ := Veil.mk hZ
  clear hB hr0 hd0 hZ hR
  rintro W ⟨hB, hR, hr0, hd0⟩
  have rD := hd0.range 0 2
  rw [show ((dotC a s).drop 0).take 2 = dotC a s from rfl] at rD
  have hk := rKey_any base H own seed b M v L W a s ho hR
  have hka : keyAt M a s = Z := by unfold keyAt; rw [hm, ← HZ.out]; rfl
  rw [hka, hm] at hk
  have hsz := hr0.lt
  clear hR
  go_upto_region 6 with (first
    | (refine wpList_ldv rfl 26 _ rfl _ _ rfl (dotC a s) rD Tryz.underlying26 rfl sizeDotK ?_)
    | (go_at_call 28; refine hk.mono ?_; rintro e W1 ⟨rfl, hb1⟩; have hA1 := Holds.new W1 .u8 23 (List.replicate 32 0))
    | (refine wpList_st rfl 23 _ _ rfl _ rfl rfl hA1 (by rw [hZl]; exact sizeKeyD) (by rw [hZl]; rfl) ?_))
  have hb2 : Below W.heap.size W ((W1.alloc (.cells (row .u8 (List.replicate 32 0)) 23)).setRow W1.heap.size (row .u8 Z)) := hb1.trans ((below_setRow ((Below.refl _ _).alloc (Nat.le_refl _) _) (Nat.le_refl _) _).mono hb1.size)
  refine forget (p := fun y => Code.wp _ _ _ _ y) (fun W => Below w.heap.size w W ∧ Holds W (w.heap.size + 1) .u8 23 Z) ⟨hB.trans (hb2.mono hB.size), hr0.below hb2 hr0.lt⟩ ?_
  clear hB hr0 hd0 rD hb2 hA1 hb1 hk
  rintro V ⟨hB, hr0⟩
  go_wp2_with (first
    | (refine wpList_bldx rfl 23 _ rfl #[] (by first | rfl | kernel_rfl) _ (HZb.out _) ?_)
    | (refine wpList_st rfl 23 _ _ rfl _ rfl rfl hr0 (by rw [hZl]; exact sizeKeyD) rfl ?_))
  refine bodyPost_ret (results_ct (Tryz.results49) _ rfl rfl (hr0.setRow Z).cellsAt Tryz.underlying23 rfl (by rw [List.length_map, hZl]; exact sizeKeyD)) rfl ⟨rfl, ?_⟩
  exact below_setRow hB (by omega) _
set_option maxHeartbeats 4000000 in
theorem fk_ok (a s p : Int) (k : List Int) (ho : okD a s) (h8 : p < 8) (hR : RingAt w base H own seed b M v L) (hm : M a s = some k) (hKT : S.KTab w) :
    Calls Tryz.prog 49 #[.pointer (some ⟨H, 0, none⟩), .agg (dotC a s).toArray, .int .u8 p] w fun e w' => e = .returned (.tuple #[.agg (row .u8 (fkeyL k p)), .int .i64 0]) ∧ Below w.heap.size w w' := by
  obtain ⟨Z, hZl, hZ⟩ : ∃ Z : List Int, Z.length = 32 ∧ z32 = Z := ⟨_, rfl, rfl⟩
  have hn8 : ¬ 8 ≤ p := by omega
  have hkl := hR.is32 a s k hm
  have HD : Veil (∀ W : World, S.KTab W → Calls Tryz.prog 81 #[.agg (row .u8 k), .string ⟨#[102, 114, 97, 109, 101]⟩, .slice (some ⟨W.heap.size, 0, none⟩) 1 1] (W.alloc (.cells (row .u8 [p]) 5)) fun e w' => e = .returned (.agg (row .u8 (fkeyL k p))) ∧ Below (W.alloc (.cells (row .u8 [p]) 5)).heap.size (W.alloc (.cells (row .u8 [p]) 5)) w') := ⟨fun W hk => derived_any k ⟨#[102, 114, 97, 109, 101]⟩ _ 1 1 [p] _ hkl (by decide) (newB W [p] 1 rfl (by simp)) (by omega) (hk.below ((Below.refl _ _).alloc (Nat.le_refl _) _))⟩
  have hPl : (fkeyL k p).length = 32 := derL_length _ _
  obtain ⟨PL, hPL⟩ : ∃ z, fkeyL k p = z := ⟨_, rfl⟩
  rw [hPL] at HD hPl
  have HPL := Veil.mk hPL
  clear hPL
  have hB : Below w.heap.size w ((w.alloc (.cells (dotC a s).toArray 26)).alloc (.cells (row .u8 z32) 23)) := ((Below.refl _ _).alloc (Nat.le_refl _) _).alloc (by simp) _
  have hd0 := (CellsAt.new w 26 (dotC a s)).alloc (.cells (row .u8 z32) 23)
  have hr0 := Holds.new (w.alloc (.cells (dotC a s).toArray 26)) .u8 23 z32
  rw [World.size_alloc] at hr0
  go_enter Tryz.func49, Tryz.ntmps49
  go_upto_region 1 with fail
  refine forget (p := fun y => Code.wp _ _ _ _ y) (fun W => Below w.heap.size w W ∧ RingAt W base H own seed b M v L ∧ Holds W (w.heap.size + 1) .u8 23 Z ∧ CellsAt W w.heap.size 26 (dotC a s)) ⟨hB, hR.far hB, by rw [← hZ]; exact hr0, hd0⟩ ?_
  clear hB hr0 hd0 hZ hR
  rintro W ⟨hB, hR, hr0, hd0⟩
  have rD := hd0.range 0 2
  rw [show ((dotC a s).drop 0).take 2 = dotC a s from rfl] at rD
  have hk := rKey_any base H own seed b M v L W a s ho hR
  have hka : keyAt M a s = k := by unfold keyAt; rw [hm]; rfl
  rw [hka, hm] at hk
  have hsz := hr0.lt
  clear hR
  go_upto_region 6 with (first
    | (refine wpList_ldv rfl 26 _ rfl _ _ rfl (dotC a s) rD Tryz.underlying26 rfl sizeDotK ?_)
    | (go_at_call 28; refine hk.mono ?_; rintro e W1 ⟨rfl, hb1⟩; have hA1 := Holds.new W1 .u8 23 (List.replicate 32 0))
    | (refine wpList_st rfl 23 _ _ rfl _ rfl rfl hA1 (by rw [hkl]; exact sizeKeyD) (by rw [hkl]; rfl) ?_))
  have hb2 : Below W.heap.size W ((W1.alloc (.cells (row .u8 (List.replicate 32 0)) 23)).setRow W1.heap.size (row .u8 k)) := hb1.trans ((below_setRow ((Below.refl _ _).alloc (Nat.le_refl _) _) (Nat.le_refl _) _).mono hb1.size)
  refine forget (p := fun y => Code.wp _ _ _ _ y) (fun V => Below w.heap.size w V ∧ Holds V (w.heap.size + 1) .u8 23 Z ∧ Holds V W1.heap.size .u8 23 k) ⟨hB.trans (hb2.mono hB.size), hr0.below hb2 hr0.lt, hA1.setRow _⟩ ?_
  obtain ⟨G, hG⟩ : ∃ q, W1.heap.size = q := ⟨_, rfl⟩
  rw [hG]
  clear hB hr0 hd0 rD hb2 hA1 hb1 hk hG
  rintro V ⟨hB, hr0, hx⟩
  have hd := HD.out V (hKT.below hB)
  have hB2 := hB.alloc hB.size (.cells (row .u8 [p]) 5)
  have hr2 := hr0.alloc (.cells (row .u8 [p]) 5)
  go_wp2_with (first
    | (refine wpList_ld rfl 23 _ rfl _ rfl hx Tryz.underlying23 sizeKeyD hkl ?_)
    | (go_at_call 81; refine hd.mono ?_; rintro e w1 ⟨rfl, hb1⟩; have hr3 := hr2.below hb1 hr2.lt)
    | (refine wpList_st rfl 23 _ _ rfl _ rfl rfl hr3 (by rw [hPl]; exact sizeKeyD) (by rw [hZl, hPl]) ?_))
  refine bodyPost_ret (results_ct (Tryz.results49) _ rfl rfl (hr3.setRow PL).cellsAt Tryz.underlying23 rfl (by rw [List.length_map, hPl]; exact sizeKeyD)) rfl ⟨?_, ?_⟩
  · rw [HPL.out]; rfl
  · exact below_setRow (hB2.trans (hb1.mono hB2.size)) (by omega) _
end
end Go.Proofs.YtfainlfiphdaeaaGreatDoor
namespace Go.Proofs.YtfainlfiphdaeaaGreatDoor
open Go.RowKit
set_option maxRecDepth 20000
set_option linter.unusedSimpArgs false
def ringM (own : Int) (seed : List Int) (ea es : Int) : Int → Int → Option (List Int) := if es % 2 = 0 ∧ newM own seed ea es = none then putK (newM own seed) ea es seed else newM own seed
def ringE (own : Int) (seed : List Int) (ea es : Int) : List Ep := if es % 2 = 0 then addE (rnewL own seed) ea es seed else rnewL own seed
structure Rings (w w' : World) (H O : Nat) (own : Int) (seed : List Int) (ea es : Int) (b : Nat) (v : Value) (L : List (Int × Int)) (vo : Value) : Prop where
  ring : RingAt w' w.heap.size H own seed b (ringM own seed ea es) v L
  rring : RRing w' w.heap.size O own seed vo (ringE own seed ea es)
  below : Below w.heap.size w w'
theorem RingAt.lessB {w : World} {base base' H : Nat} {own : Int} {seed : List Int} {b : Nat} {M : Int → Int → Option (List Int)} {v : Value} {L : List (Int × Int)} (h : RingAt w base H own seed b M v L) (hb : base' ≤ base) : RingAt w base' H own seed b M v L :=
  ⟨h.box, h.map, ⟨h.added.1, by
    rcases h.added.2 with q | ⟨g, cap, cur, h1, h2, h3⟩
    · exact .inl q
    · exact .inr ⟨g, cap, cur, h1, by omega, h3⟩⟩, h.seed32, h.is32, h.lenL, by have := h.baseH; omega, by have := h.baseB; omega⟩
theorem RRing.lessB {w : World} {base base' O : Nat} {own : Int} {seed : List Int} {v : Value} {L : List Ep} (h : RRing w base O own seed v L) (hb : base' ≤ base) : RRing w base' O own seed v L := ⟨h.box, h.own.less hb, h.seed32, h.k32, h.lenL, by have := h.baseO; omega⟩
set_option maxHeartbeats 8000000 in
theorem rings_any (m : Nat) (hm : m ≤ 255) (seed : List Int) (hs : seed.length = 32) (ea es : Int) (ho : okD ea es) (w : World) (hKT : S.KTab w) :
    Calls Tryz.prog 16 #[.int .u8 (m : Int), .agg (row .u8 seed), .agg (dotC ea es).toArray] w fun e w' => ∃ H O b v L vo, e = .returned (.tuple #[.pointer (some ⟨H, 0, none⟩), .pointer (some ⟨O, 0, none⟩)]) ∧ Rings w w' H O ((m % 8 : Nat) : Int) seed ea es b v L vo := by
  have hS := CellsAt.new w 23 (seed.map (Value.int .u8))
  have hS0 := hS.alloc (.cells (dotC ea es).toArray 26)
  have hD0 := CellsAt.new (w.alloc (.cells (row .u8 seed) 23)) 26 (dotC ea es)
  rw [World.size_alloc] at hD0
  have hb0 : Below w.heap.size w ((w.alloc (.cells (row .u8 seed) 23)).alloc (.cells (dotC ea es).toArray 26)) := ((Below.refl _ _).alloc (Nat.le_refl _) _).alloc (by simp) _
  obtain ⟨o, hoe⟩ : ∃ q : Nat, m % 8 = q := ⟨_, rfl⟩
  have ho8 : (o : Int) < 8 := by omega
  have hrem : (m : Int).tmod 8 = (o : Int) := by rw [Int.tmod_eq_emod_of_nonneg (by omega), ← hoe]; rfl
  have hm0 : (0 : Int) ≤ (m : Int) := by omega
  have hm5 : (m : Int) ≤ 255 := by omega
  rw [hoe]
  clear hoe
  have HKT : Veil (∀ W, Below w.heap.size w W → S.KTab W) := ⟨fun W hb => hKT.below hb⟩
  have HN : Veil (∀ W, Below w.heap.size w W → Calls Tryz.prog 27 #[.int .u8 (o : Int), .agg (row .u8 seed)] W fun e w' => ∃ H b v, e = .returned (.pointer (some ⟨H, 0, none⟩)) ∧ RingAt w' W.heap.size H (o : Int) seed b (newM (o : Int) seed) v (newD (o : Int)) ∧ Below W.heap.size W w') := ⟨fun W hb => new_any (o : Int) seed W ho8 hs (HKT.out W hb)⟩
  have HRN : Veil (∀ W, Calls Tryz.prog 39 #[.int .u8 (o : Int), .agg (row .u8 seed)] W fun e w' => ∃ O v, e = .returned (.pointer (some ⟨O, 0, none⟩)) ∧ RRing w' W.heap.size O (o : Int) seed v (rnewL (o : Int) seed) ∧ Below W.heap.size W w') := ⟨fun W => by
    refine (rnew_any (o : Int) seed W ho8 hs).mono ?_
    rintro e w' ⟨O, v, he, hx, hE, hO, hb⟩
    refine ⟨O, v, he, RRing.ofNew hx hE hs (fun e he => ?_) ?_ hO, hb⟩
    · unfold rnewL at he
      split at he
      · rw [List.mem_singleton.1 he]; exact derL_length _ _
      · cases he
    · unfold rnewL; split <;> simp⟩
  have iS : (Tryz.prog.info? 23).map (·.size) = some (seed.map (Value.int .u8)).length := by rw [List.length_map, hs]; exact sizeKeyD
  have iD : (Tryz.prog.info? 26).map (·.size) = some (dotC ea es).length := sizeDot
  have uK := Tryz.underlying23
  have uD := Tryz.underlying26
  clear hKT hS
  go_enter Tryz.func16, Tryz.ntmps16
  go_upto_region 1 with fail
  refine wp_region_gateT (fun w' => w'.rangeAt w.heap.size 0 (seed.map (Value.int .u8))) (fun _ => True) 99 (by kernel_rfl) ?_
  refine forget (p := fun y => wpAnyT _ _ _ _ _ _ _ _ _ _ y) (fun V => Below w.heap.size w V ∧ CellsAt V w.heap.size 23 (seed.map (Value.int .u8)) ∧ CellsAt V (w.heap.size + 1) 26 (dotC ea es)) ⟨hb0.drew, hS0.congr rfl, hD0.congr rfl⟩ ?_
  clear hb0 hS0 hD0
  rintro V ⟨hb, hSd, hDd⟩
  have hT : (fun w' : World => w'.rangeAt w.heap.size 0 (seed.map (Value.int .u8))) V := hSd.wholeM
  have hS := trivial
  refine wpAnyT_held (i := 0) (v := ?_) rfl (by kernel_rfl) (by kernel_rfl) (by kernel_rfl) (fun _ _ _ h => h) (by kernel_rfl) hT (fun _ => hS) (by kernel_rfl) ?_ ?_
  rotate_left
  · intro wx hSw; go_split_ands; go_simp; try with_reducible rfl
  simp only [Act.put, gA, gS, gZ, sI, sZ, sS]
  refine wpAnyT_held (i := 1) (v := ?_) rfl (by kernel_rfl) (by kernel_rfl) (by kernel_rfl) (fun _ _ _ h => h) (by kernel_rfl) hT (fun _ => hS) (by kernel_rfl) ?_ ?_
  rotate_left
  · intro wx hSw; go_split_ands; go_simp; try with_reducible rfl
  simp only [Act.put, gA, gS, gZ, sI, sZ, sS]
  refine wpAnyT_held (i := 4) (v := ?_) rfl (by kernel_rfl) (by kernel_rfl) (by kernel_rfl) (fun _ _ _ h => h) (by kernel_rfl) hT (fun _ => hS) (by kernel_rfl) ?_ ?_
  rotate_left
  · intro wx hSw; go_split_ands; go_simp; try with_reducible rfl
  simp only [Act.put, gA, gS, gZ, sI, sZ, sS]
  refine wpAnyT_held (i := 5) (v := ?_) rfl (by kernel_rfl) (by kernel_rfl) (by kernel_rfl) (fun _ _ _ h => h) (by kernel_rfl) hT (fun _ => hS) (by kernel_rfl) ?_ ?_
  rotate_left
  · intro wx hSw; go_split_ands; go_simp; try with_reducible rfl
  simp only [Act.put, gA, gS, gZ, sI, sZ, sS]
  refine wpAnyT_load (i := 2) (dst := some 12) (ty := 23) (x := .tmp 4) (b := w.heap.size) (o := (0)) (cs := (seed.map (Value.int .u8))) (by kernel_rfl) (by kernel_rfl) (by kernel_rfl) (by kernel_rfl) (by kernel_rfl) (fun _ _ _ h => h) (by kernel_rfl) hT (fun _ => hS) (by kernel_rfl) (fun _ h => h) uK rfl iS ?_
  simp only [Act.put, gA, gS, gZ, sI, sZ, sS]
  refine wpAnyT_load (i := 6) (dst := some 16) (ty := 23) (x := .tmp 4) (b := w.heap.size) (o := (0)) (cs := (seed.map (Value.int .u8))) (by kernel_rfl) (by kernel_rfl) (by kernel_rfl) (by kernel_rfl) (by kernel_rfl) (fun _ _ _ h => h) (by kernel_rfl) hT (fun _ => hS) (by kernel_rfl) (fun _ h => h) uK rfl iS ?_
  simp only [Act.put, gA, gS, gZ, sI, sZ, sS]
  refine wpAnyT_one (i := 3) rfl (by kernel_rfl) (by kernel_rfl) (fun K hK => ?_)
  refine wpx_call _ _ (by kernel_rfl) ((HN.out V hb).mono ?_)
  rintro e w1 ⟨H, b, v, rfl, hR1, hb1⟩
  refine ⟨_, rfl, ?_⟩
  have hS1 := hSd.farM hb1
  have hB1 := hb.trans (hb1.mono hb.size)
  replace hT : (fun w' : World => w'.rangeAt w.heap.size 0 (seed.map (Value.int .u8))) w1 := hS1.wholeM
  refine hK.out _ _ hT (fun _ => hS) ?_
  clear hK K
  try simp only [Act.put, gA, gS, gZ, sI, sZ, sS]
  refine wpAnyT_one (i := 7) rfl (by kernel_rfl) (by kernel_rfl) (fun K hK => ?_)
  refine wpx_call _ _ (by kernel_rfl) ((HRN.out w1).mono ?_)
  rintro e w2 ⟨O, vo, rfl, hO2, hb2⟩
  refine ⟨_, rfl, ?_⟩
  have hS2 := hS1.farM hb2
  have hD2 := (hDd.farM hb1).farM hb2
  have hB2 := hB1.trans (hb2.mono hB1.size)
  replace hT : (fun w' : World => w'.rangeAt w.heap.size 0 (seed.map (Value.int .u8))) w2 := hS2.wholeM
  refine hK.out _ _ hT (fun _ => hS) ?_
  clear hK K
  try simp only [Act.put, gA, gS, gZ, sI, sZ, sS]
  refine wpAnyT_held (i := 8) (v := ?_) rfl (by kernel_rfl) (by kernel_rfl) (by kernel_rfl) (fun _ _ _ h => h) (by kernel_rfl) hT (fun _ => hS) (by kernel_rfl) ?_ ?_
  rotate_left
  · intro wx hSw; go_split_ands; go_simp; try with_reducible rfl
  simp only [Act.put, gA, gS, gZ, sI, sZ, sS]
  refine wpAnyT_held (i := 9) (v := ?_) rfl (by kernel_rfl) (by kernel_rfl) (by kernel_rfl) (fun _ _ _ h => h) (by kernel_rfl) hT (fun _ => hS) (by kernel_rfl) ?_ ?_
  rotate_left
  · intro wx hSw; go_split_ands; go_simp; try with_reducible rfl
  simp only [Act.put, gA, gS, gZ, sI, sZ, sS]
  refine wpAnyT_done (by kernel_rfl) ?_ _
  have HSEP : Veil (∀ g, ringP H b v g → ¬ rrB O vo g) := ⟨fun g h1 h2 => by
    have q1 := (hR1.inside g h1).1
    have q2 := (hO2.inside g h2).2
    omega⟩
  refine forget (p := fun y => Exit.then _ _ _ _ y) (fun W => Below w.heap.size w W ∧ CellsAt W w.heap.size 23 (seed.map (Value.int .u8)) ∧ CellsAt W (w.heap.size + 1) 26 (dotC ea es) ∧ RingAt W V.heap.size H (o : Int) seed b (newM (o : Int) seed) v (newD (o : Int)) ∧ RRing W w1.heap.size O (o : Int) seed vo (rnewL (o : Int) seed)) ⟨hB2, hS2, hD2, hR1.far hb2, hO2⟩ ?_
  have hV2 : w.heap.size + 2 ≤ V.heap.size := hDd.lt
  have h1V := hb1.size
  clear hT hS hB2 hS2 hD2 hb2 hO2 hS1 hB1 hb1 hR1 hb hSd hDd HRN HN
  obtain ⟨s1, hs1⟩ : ∃ q, V.heap.size = q := ⟨_, rfl⟩
  obtain ⟨s2, hs2⟩ : ∃ q, w1.heap.size = q := ⟨_, rfl⟩
  rw [hs1, hs2] at h1V
  rw [hs1] at hV2
  rw [hs1, hs2]
  clear hs1 hs2
  clear w2 w1 V
  rintro W ⟨hb, hSd, hDd, hR, hO⟩
  have c1 : W.cell? ⟨w.heap.size + 1, 1, none⟩ = some (.int .u32 es) := hDd.cell 1
  have hes0 := ho.2.1
  have HR := Veil.mk hR
  have HO := Veil.mk hO
  clear hR hO
  obtain ⟨rr, hrr⟩ : ∃ q, es.tmod 2 = q := ⟨_, rfl⟩
  by_cases h2 : es % 2 = 0
  rotate_left
  · have hrm : (rr == 0) = false := by rw [← hrr, Int.tmod_eq_emod_of_nonneg hes0]; simpa using h2
    have HM : Veil (ringM (o : Int) seed ea es = newM (o : Int) seed ∧ ringE (o : Int) seed ea es = rnewL (o : Int) seed) := ⟨by unfold ringM; rw [if_neg (fun q => h2 q.1)], by unfold ringE; rw [if_neg h2]⟩
    clear h2
    go_wp2
    go_ret2
    exact ⟨_, _, b, v, _, vo, rfl, ⟨by rw [HM.out.1]; exact HR.out.lessB (by omega), by rw [HM.out.2]; exact HO.out.lessB (by omega), hb⟩⟩
  have hrm : (rr == 0) = true := by rw [← hrr, Int.tmod_eq_emod_of_nonneg hes0]; simpa using h2
  have rS := hSd.wholeM
  have rD := hDd.wholeM
  have HSP : Veil (∀ g, g < s1 → ¬ ringP H b v g ∧ ¬ rrB O vo g) := ⟨fun g hg => ⟨fun q => by have := (HR.out.inside g q).2; omega, fun q => by have := (HO.out.inside g q).2; omega⟩⟩
  have hAdd : Calls Tryz.prog 30 #[.pointer (some ⟨H, 0, none⟩), .agg (dotC ea es).toArray, .agg (seed.map (Value.int .u8)).toArray] W fun e w' => ∃ n v' L', e = .returned (.int .i64 n) ∧ RingAt w' s1 H (o : Int) seed b (ringM (o : Int) seed ea es) v' L' ∧ Turn (ringP H b v) W w' ∧ (∀ g, ringP H b v' g → ringP H b v g ∨ W.heap.size ≤ g) := by
    by_cases hk : ((newM (o : Int) seed) ea es).isSome = true
    · refine (add_known s1 H (o : Int) seed b (newM (o : Int) seed) v (newD (o : Int)) W ea es seed ho HR.out hk).mono ?_
      rintro e w' ⟨he, hb'⟩
      refine ⟨5, v, newD (o : Int), he, ?_, Turn.of_below hb', fun g hg => .inl hg⟩
      have : ringM (o : Int) seed ea es = newM (o : Int) seed := by
        unfold ringM
        rw [if_neg]
        rintro ⟨_, q⟩
        rw [q] at hk
        cases hk
      rw [this]
      exact HR.out.far hb'
    · have hkf : ((newM (o : Int) seed) ea es).isSome = false := by simpa using hk
      refine (add_ok s1 H (o : Int) seed b (newM (o : Int) seed) v (newD (o : Int)) W ea es seed ho hs HR.out hkf (by unfold newD; split <;> simp) (by have := hb.size; have := (HR.out.inside H (.inl rfl)); omega)).mono ?_
      rintro e w' ⟨he, v', hR', hT', hv'⟩
      refine ⟨0, v', newD (o : Int) ++ [(ea, es)], he, ?_, hT', fun g hg => ?_⟩
      · have : ringM (o : Int) seed ea es = putK (newM (o : Int) seed) ea es seed := by
          unfold ringM
          rw [if_pos ⟨h2, by simpa using hkf⟩]
        rw [this]
        exact hR'
      · rcases hg with q | q | q
        · exact .inl (.inl q)
        · exact .inl (.inr (.inl q))
        · rcases hv' with e | ⟨g', e, hge⟩
          · rw [e] at q; exact .inl (.inr (.inr q))
          · rw [e] at q; cases q; exact .inr hge
  have HME : Veil (ringE (o : Int) seed ea es = addE (rnewL (o : Int) seed) ea es seed) := ⟨by unfold ringE; rw [if_pos h2]⟩
  have HNX : Veil (∀ w3 v3 L3, RingAt w3 s1 H (o : Int) seed b (ringM (o : Int) seed ea es) v3 L3 → Turn (ringP H b v) W w3 → (∀ g, ringP H b v3 g → ringP H b v g ∨ W.heap.size ≤ g) → w3.rangeAt w.heap.size 0 (seed.map (Value.int .u8)) ∧ w3.rangeAt (w.heap.size + 1) 0 (dotC ea es) ∧ Calls Tryz.prog 40 #[.pointer (some ⟨O, 0, none⟩), .agg (dotC ea es).toArray, .agg (seed.map (Value.int .u8)).toArray] w3 fun e w' => ∃ n vo', e = .returned (.int .i64 n) ∧ Rings w w' H O (o : Int) seed ea es b v3 L3 vo') := ⟨fun w3 v3 L3 hR3 hT3 hv3 => by
    have hO3 : RRing w3 s2 O (o : Int) seed vo (rnewL (o : Int) seed) := HO.out.congr fun g hg => hT3.block g (HO.out.inside g hg).1 (fun q => HSEP.out g q hg)
    refine ⟨(hSd.congr (hT3.block _ hSd.lt (HSP.out _ (by omega)).1)).wholeM, (hDd.congr (hT3.block _ hDd.lt (HSP.out _ (by omega)).1)).wholeM, ?_⟩
    refine (rrAdd_any s2 O (o : Int) seed vo (rnewL (o : Int) seed) w3 ea es seed hs hO3 (by have := (hO3.inside O (.inl rfl)); omega)).mono ?_
    rintro e w4 ⟨n, vo', he, hto⟩
    have hW3 : Below w.heap.size w w3 := hb.trans (hT3.below hb.size (fun k hk => by have := (HR.out.inside k hk).2; omega))
    refine ⟨n, vo', he, ⟨?_, ?_, ?_⟩⟩
    · refine (hR3.turn hto.turn fun g hg hq => ?_).lessB (by omega)
      rcases hv3 g hg with q | q
      · exact HSEP.out g q hq
      · have := (HO.out.inside g hq).1
        omega
    · rw [HME.out]
      exact hto.at_.lessB (by omega)
    · exact hW3.trans (hto.turn.below hW3.size (fun k hk => by have := (hO3.inside k hk).2; omega))⟩
  clear h2
  go_upto_region 4 with (first
    | (refine wpList_ldv rfl 26 _ rfl _ _ rfl (dotC ea es) rD uD rfl iD ?_)
    | (refine wpList_ldv rfl 23 _ rfl _ _ rfl (seed.map (Value.int .u8)) rS uK rfl iS ?_)
    | (go_at_call 30; refine hAdd.mono ?_; rintro e w3 ⟨n3, v3, L3, rfl, hR3, hT3, hv3⟩; clear hAdd))
  obtain ⟨rS3, rD3, hra⟩ := HNX.out w3 v3 L3 hR3 hT3 hv3
  clear HNX hR3 hT3 hv3 rS rD hSd hDd hb c1
  go_wp2_with (first
    | (refine wpList_ldv rfl 26 _ rfl _ _ rfl (dotC ea es) rD3 uD rfl iD ?_)
    | (refine wpList_ldv rfl 23 _ rfl _ _ rfl (seed.map (Value.int .u8)) rS3 uK rfl iS ?_)
    | (go_at_call 40; refine hra.mono ?_; rintro e w4 ⟨n4, vo4, rfl, hrg⟩; clear hra))
  go_ret2
  exact ⟨_, _, b, v3, L3, vo4, rfl, hrg⟩
end Go.Proofs.YtfainlfiphdaeaaGreatDoor
namespace Go.Proofs.YtfainlfiphdaeaaGreatDoor
open Go.RowKit
set_option maxRecDepth 20000
set_option linter.unusedSimpArgs false
theorem CellsAt.afar {w w' : World} {g : Nat} {t : TypeId} {cs : List Value} (h : CellsAt w g t cs) (hb : Below w.heap.size w w') : CellsAt w' g t cs := by
  have hl := h.lt
  unfold CellsAt at h ⊢; rw [hb.block g hl]; exact h
theorem CellsAt.grown {w w' : World} {base g : Nat} {v : Value} {z : List Int} {t : TypeId} {cs : List Value} (h : CellsAt w g t cs) (ho : OwnB w base v z) (hg : w.grownBy w' v.ownBlock) (ht : t ≠ 5) : CellsAt w' g t cs := grownT ho hg h ht
set_option maxHeartbeats 4000000 in
theorem Open_any (F : Fr) (xw : Option Addr) (lw cw : Nat) (ws : List Wp) (w : World) (hp : F.prev.length = 32) (hm : F.mac.length = 32) (hfw : F.wraps = .slice xw lw cw) (hws : WrapsAt w xw lw cw ws) (h1 : lw ≤ 64) :
    Calls Tryz.prog 55 #[.agg F.cells.toArray] w fun e w' => ∃ v, e = .returned v ∧ OwnB w' w.heap.size v (openL F ws) ∧ Below w.heap.size w w' := by
  obtain ⟨q0, _, _, _, _, q6, q7, q8⟩ := fr_parts F hp hm
  have HQ : Veil (F.cells[36]? = some (.slice xw lw cw)) := ⟨by rw [← hfw]; exact q6⟩
  have hiF : (Tryz.prog.info? 43).map (·.size) = some F.cells.length := by rw [q0]; exact sizeFrame
  have hop := fun wx (h0 : Below w.heap.size w wx) (h : Wr wx (w.heap.size + 1) w.heap.size []) => openly_any (w.heap.size + 1) w.heap.size [] F xw lw cw ws wx h hp hm hfw (fun wy hy => hws.below (h0.trans hy)) (by omega) (by simp)
  have hD0 := CellsAt.new w 43 F.cells
  have hB0 : Below w.heap.size w (w.alloc (.cells F.cells.toArray 43)) := (Below.refl _ _).alloc (Nat.le_refl _) _
  have h1' : ¬ (lw : Int) > 64 := by omega
  have c36 := hD0.cell 36
  rw [HQ.out] at c36
  have hcw := hws.le
  have htw := hws.top
  clear q0 q6 q7 q8 hfw hp hm hws
  go_enter Tryz.func55, Tryz.ntmps55
  go_upto_region 3 with fail
  refine forget (p := fun y => Code.wp _ _ _ _ y) (fun W0 => Below w.heap.size w W0 ∧ W0.heap.size = w.heap.size + 1 ∧ CellsAt W0 w.heap.size 43 F.cells) ⟨hB0, by simp, hD0⟩ ?_
  clear hB0 hD0 c36
  rintro W0 ⟨hB0, hsz0, hD0⟩
  have hbx : Box (W0.alloc (.cells #[.slice none 0 0] 143)) (w.heap.size + 1) 143 (.slice none 0 0) := by
    have : Box (W0.alloc (.cells #[.slice none 0 0] 143)) W0.heap.size 143 (.slice none 0 0) := heap_alloc_new _ _
    rw [hsz0] at this
    exact this
  have hW1 : Wr (W0.alloc (.cells #[.slice none 0 0] 143)) (w.heap.size + 1) w.heap.size [] := ⟨by omega, _, hbx, OwnB.nil _ _⟩
  have hD1 := hD0.alloc (.cells #[.slice none 0 0] 143)
  have hB1 := hB0.alloc hB0.size (.cells #[.slice none 0 0] 143)
  go_upto_region 4 with fail
  refine forget (p := fun y => Code.wp _ _ _ _ y) (fun W1 => Below w.heap.size w W1 ∧ Wr W1 (w.heap.size + 1) w.heap.size [] ∧ CellsAt W1 w.heap.size 43 F.cells) ⟨hB1, hW1, hD1⟩ ?_
  clear hB1 hW1 hD1 hbx hB0 hD0 hsz0
  rintro W1 ⟨hB1, hW1, hD1⟩
  have rE : W1.rangeAt w.heap.size 0 F.cells := fun j v hv => by rw [Nat.zero_add, hD1.cell]; exact hv
  have hop1 := hop W1 hB1 hW1
  rw [List.nil_append] at hop1
  go_upto_region 5 with (first
    | (refine wpList_ldv rfl 43 _ rfl _ _ rfl F.cells rE Tryz.underlying43 rfl hiF ?_)
    | (go_at_call 111; refine hop1.mono ?_; rintro e w2 ⟨⟨r2, rfl⟩, hW2, hg2⟩))
  have hB2 : Below w.heap.size w w2 := hB1.trans hg2.below
  obtain ⟨v, hb5, ho5⟩ := hW2.has
  have c0 := hb5.cell
  obtain ⟨x5, n5, c5, rfl, hn5⟩ := ho5.isSlice
  clear hn5 hop hop1 rE hD1 hW1 hB1 hg2 hb5 hW2
  go_wp2
  go_ret
  exact ⟨_, rfl, ho5, hB2⟩
end Go.Proofs.YtfainlfiphdaeaaGreatDoor
