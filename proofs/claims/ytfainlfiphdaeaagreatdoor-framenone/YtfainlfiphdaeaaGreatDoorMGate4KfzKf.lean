/- Gate3: the read of a long row that is held all along. keys: an empty key, an empty dot. keys: 'FrameKey'. -/
import Derived.Test.YtfainlfiphdaeaaGreatDoorMAn6EqdGate3
import Derived.Deep.MidRow
import Derived.Test.YtfainlfiphdaeaaGreatDoorMKy6Ky7An3
import Derived.Test.YtfainlfiphdaeaaGreatDoorMGate2EvmGb
namespace Go.Proofs.YtfainlfiphdaeaaGreatDoor
open Go Go.RowKit

section
variable {P : Program} {ops : Array Oper} {Q : Exit → Act → World → Prop} {md : Region.Mode} {T S : World → Prop} {D : Nat}
theorem wpAnyT_load {i : Nat} {dst : Option Tmp} {ty : TypeId} {x : Operand} {b o : Nat} {cs : List Value} {d : TypeDesc} {fuel : Nat} {listed : Array Bool} {a : Act} {w : World}
    (hop : (ops[i]?).map (fun o => (o.dst, o.op)) = some (dst, .load ty x)) (hw : (ops[i]?).map (fun o => Region.wanted o (yielded ops a.tmps)) = some true)
    (hs : Region.noSelect ops = true) (hf : Region.free md ops listed i = true) (hr : (Region.ready md ops listed).contains i = true)
    (hQ : ∀ c a w, Q (.panic c) (a.put dst (.agg cs.toArray)) w → Q (.panic c) a w) (hD : (i == D) = false) (hT : T w) (hS : listed.getD D true = false → S w)
    (hx : a.eval x = .pointer (some ⟨b, o, none⟩)) (hc : ∀ w, T w → w.rangeAt b o cs) (hu : P.underlying ty = some d) (hd : d.isRow = true) (hi : (P.info? ty).map (·.size) = some cs.length)
    (h : wpAnyT P md ops Q T S D fuel (listed.setIfInBounds i true) (a.put dst (.agg cs.toArray)) w) : wpAnyT P md ops Q T S D (fuel + 1) listed a w := by
  cases ho : ops[i]? with
  | none => rw [ho] at hop; cases hop
  | some oi =>
    rw [ho] at hop hw
    simp only [Option.map_some, Option.some.injEq, Prod.mk.injEq] at hop hw
    obtain ⟨rfl, hop⟩ := hop
    exact wpAnyT_first (U := T) ho (Region.noSelect_spec hs) hQ (by simpa using hD) (.inl fun _ h => h) fuel listed a w (Region.free_spec ho hf) (by simpa using hr) (.inl fun _ h => h) (yieldsIf_load_mid hw ty x hop b o hx cs d hc hu hd hi) hT hS h
theorem wpAnyT_skip {i : Nat} {oi : Oper} {fuel : Nat} {listed : Array Bool} {a : Act} {w : World} (hi : ops[i]? = some oi)
    (hs : Region.noSelect ops = true) (hf : Region.free md ops listed i = true) (hr : (Region.ready md ops listed).contains i = true)
    (hQ : ∀ c a w, Q (.panic c) (a.put oi.dst undef) w → Q (.panic c) a w) (hD : (i == D) = false) (hT : T w) (hS : listed.getD D true = false → S w) (hw : Region.wanted oi (yielded ops a.tmps) = false)
    (h : wpAnyT P md ops Q T S D fuel (listed.setIfInBounds i true) (a.put oi.dst undef) w) : wpAnyT P md ops Q T S D (fuel + 1) listed a w :=
  wpAnyT_first (U := T) hi (Region.noSelect_spec hs) hQ (by simpa using hD) (.inl fun _ h => h) fuel listed a w (Region.free_spec hi hf) (by simpa using hr) (.inl fun _ h => h) (.inr ⟨hw, rfl⟩) hT hS h
end
end Go.Proofs.YtfainlfiphdaeaaGreatDoor

namespace Go.Proofs.YtfainlfiphdaeaaGreatDoor
open Go.RowKit
set_option maxRecDepth 20000

def z32 : List Int := List.replicate 32 0
theorem zkey_built (w : World) : (Instr.build 23 #[]).run Tryz.prog w = .ok (.agg (row .u8 z32)) w := by kernel_rfl
theorem zdot_built (w : World) : (Instr.build 26 #[]).run Tryz.prog w = .ok (.agg (dotC 0 0).toArray) w := by kernel_rfl
end Go.Proofs.YtfainlfiphdaeaaGreatDoor

namespace Go.Proofs.YtfainlfiphdaeaaGreatDoor
open Go.RowKit
set_option maxRecDepth 20000
set_option linter.unusedSimpArgs false

section
variable (base H : Nat) (own : Int) (seed : List Int) (b : Nat) (M : Int → Int → Option (List Int)) (v : Value) (L : List (Int × Int)) (w : World)
set_option maxHeartbeats 1000000 in
theorem fk_range (a s p : Int) (h8 : 8 ≤ p) :
    Calls Tryz.prog 49 #[.pointer (some ⟨H, 0, none⟩), .agg (dotC a s).toArray, .int .u8 p] w fun e w' => e = .returned (.tuple #[.agg (row .u8 z32), .int .i64 2]) ∧ Below w.heap.size w w' := by
  obtain ⟨Z, hZl, hZ, hZb⟩ : ∃ Z : List Int, Z.length = 32 ∧ z32 = Z ∧ ∀ wx, (Instr.build 23 #[]).run Tryz.prog wx = .ok (.agg (row .u8 Z)) wx := ⟨_, rfl, rfl, zkey_built⟩
  have HZb := Veil.mk hZb
  have hB : Below w.heap.size w ((w.alloc (.cells (dotC a s).toArray 26)).alloc (.cells (row .u8 z32) 23)) := ((Below.refl _ _).alloc (Nat.le_refl _) _).alloc (by simp) _
  have hr0 := Holds.new (w.alloc (.cells (dotC a s).toArray 26)) .u8 23 z32
  rw [World.size_alloc] at hr0
  rw [hZ]
  clear hZb
  go_enter Tryz.func49, Tryz.ntmps49
  go_upto_region 1 with fail
  refine forget (p := fun y => Code.wp _ _ _ _ y) (fun W => Below w.heap.size w W ∧ Holds W (w.heap.size + 1) .u8 23 Z) ⟨hB, by rw [← hZ]; exact hr0⟩ ?_
  clear hB hr0 hZ
  rintro W ⟨hB, hr0⟩
  go_wp2_with (first
    | (refine wpList_bldx rfl 23 _ rfl #[] (by first | rfl | kernel_rfl) _ (HZb.out _) ?_)
    | (refine wpList_st rfl 23 _ _ rfl _ rfl rfl hr0 (by rw [hZl]; exact sizeKeyD) rfl ?_))
  refine bodyPost_ret (results_ct (Tryz.results49) _ rfl rfl (hr0.setRow Z).cellsAt Tryz.underlying23 rfl (by rw [List.length_map, hZl]; exact sizeKeyD)) rfl ⟨rfl, ?_⟩
  exact below_setRow hB (by omega) _
set_option maxHeartbeats 4000000 in
theorem fk_nokey (a s p : Int) (ho : okD a s) (h8 : p < 8) (hR : RingAt w base H own seed b M v L) (hm : M a s = none) :
    Calls Tryz.prog 49 #[.pointer (some ⟨H, 0, none⟩), .agg (dotC a s).toArray, .int .u8 p] w fun e w' => e = .returned (.tuple #[.agg (row .u8 z32), .int .i64 9]) ∧ Below w.heap.size w w' := by
  obtain ⟨Z, hZl, hZ, hZb⟩ : ∃ Z : List Int, Z.length = 32 ∧ z32 = Z ∧ ∀ wx, (Instr.build 23 #[]).run Tryz.prog wx = .ok (.agg (row .u8 Z)) wx := ⟨_, rfl, rfl, zkey_built⟩
  have HZb := Veil.mk hZb
  have hn8 : ¬ 8 ≤ p := by omega
  have hB : Below w.heap.size w ((w.alloc (.cells (dotC a s).toArray 26)).alloc (.cells (row .u8 z32) 23)) := ((Below.refl _ _).alloc (Nat.le_refl _) _).alloc (by simp) _
  have hd0 := (CellsAt.new w 26 (dotC a s)).alloc (.cells (row .u8 z32) 23)
  have hr0 := Holds.new (w.alloc (.cells (dotC a s).toArray 26)) .u8 23 z32
  rw [World.size_alloc] at hr0
  rw [hZ]
  clear hZb
  go_enter Tryz.func49, Tryz.ntmps49
  go_upto_region 1 with fail
  refine forget (p := fun y => Code.wp _ _ _ _ y) (fun W => Below w.heap.size w W ∧ RingAt W base H own seed b M v L ∧ Holds W (w.heap.size + 1) .u8 23 Z ∧ CellsAt W w.heap.size 26 (dotC a s)) ⟨hB, hR.far hB, by rw [← hZ]; exact hr0, hd0⟩ ?_
  have HZ := Veil.mk hZ
  clear hB hr0 hd0 hZ hR
  rintro W ⟨hB, hR, hr0, hd0⟩
  have rD := hd0.range 0 2
  rw [show ((dotC a s).drop 0).take 2 = dotC a s from rfl] at rD
  have hk := rKey_any base H own seed b M v L W a s ho hR
  have hka : keyAt M a s = Z := by unfold keyAt; rw [hm, ← HZ.out]; rfl
  rw [hka, hm] at hk
  have hsz := hr0.lt
  clear hR
  go_upto_region 6 with (first
    | (refine wpList_ldv rfl 26 _ rfl _ _ rfl (dotC a s) rD Tryz.underlying26 rfl sizeDotK ?_)
    | (go_at_call 28; refine hk.mono ?_; rintro e W1 ⟨rfl, hb1⟩; have hA1 := Holds.new W1 .u8 23 (List.replicate 32 0))
    | (refine wpList_st rfl 23 _ _ rfl _ rfl rfl hA1 (by rw [hZl]; exact sizeKeyD) (by rw [hZl]; rfl) ?_))
  have hb2 : Below W.heap.size W ((W1.alloc (.cells (row .u8 (List.replicate 32 0)) 23)).setRow W1.heap.size (row .u8 Z)) := hb1.trans ((below_setRow ((Below.refl _ _).alloc (Nat.le_refl _) _) (Nat.le_refl _) _).mono hb1.size)
  refine forget (p := fun y => Code.wp _ _ _ _ y) (fun W => Below w.heap.size w W ∧ Holds W (w.heap.size + 1) .u8 23 Z) ⟨hB.trans (hb2.mono hB.size), hr0.below hb2 hr0.lt⟩ ?_
  clear hB hr0 hd0 rD hb2 hA1 hb1 hk
  rintro V ⟨hB, hr0⟩
  go_wp2_with (first
    | (refine wpList_bldx rfl 23 _ rfl #[] (by first | rfl | kernel_rfl) _ (HZb.out _) ?_)
    | (refine wpList_st rfl 23 _ _ rfl _ rfl rfl hr0 (by rw [hZl]; exact sizeKeyD) rfl ?_))
  refine bodyPost_ret (results_ct (Tryz.results49) _ rfl rfl (hr0.setRow Z).cellsAt Tryz.underlying23 rfl (by rw [List.length_map, hZl]; exact sizeKeyD)) rfl ⟨rfl, ?_⟩
  exact below_setRow hB (by omega) _
set_option maxHeartbeats 4000000 in
theorem fk_ok (a s p : Int) (k : List Int) (ho : okD a s) (h8 : p < 8) (hR : RingAt w base H own seed b M v L) (hm : M a s = some k) (hKT : S.KTab w) :
    Calls Tryz.prog 49 #[.pointer (some ⟨H, 0, none⟩), .agg (dotC a s).toArray, .int .u8 p] w fun e w' => e = .returned (.tuple #[.agg (row .u8 (fkeyL k p)), .int .i64 0]) ∧ Below w.heap.size w w' := by
  obtain ⟨Z, hZl, hZ⟩ : ∃ Z : List Int, Z.length = 32 ∧ z32 = Z := ⟨_, rfl, rfl⟩
  have hn8 : ¬ 8 ≤ p := by omega
  have hkl := hR.is32 a s k hm
  have HD : Veil (∀ W : World, S.KTab W → Calls Tryz.prog 81 #[.agg (row .u8 k), .string ⟨#[102, 114, 97, 109, 101]⟩, .slice (some ⟨W.heap.size, 0, none⟩) 1 1] (W.alloc (.cells (row .u8 [p]) 5)) fun e w' => e = .returned (.agg (row .u8 (fkeyL k p))) ∧ Below (W.alloc (.cells (row .u8 [p]) 5)).heap.size (W.alloc (.cells (row .u8 [p]) 5)) w') := ⟨fun W hk => derived_any k ⟨#[102, 114, 97, 109, 101]⟩ _ 1 1 [p] _ hkl (by decide) (newB W [p] 1 rfl (by simp)) (by omega) (hk.below ((Below.refl _ _).alloc (Nat.le_refl _) _))⟩
  have hPl : (fkeyL k p).length = 32 := derL_length _ _
  obtain ⟨PL, hPL⟩ : ∃ z, fkeyL k p = z := ⟨_, rfl⟩
  rw [hPL] at HD hPl
  have HPL := Veil.mk hPL
  clear hPL
  have hB : Below w.heap.size w ((w.alloc (.cells (dotC a s).toArray 26)).alloc (.cells (row .u8 z32) 23)) := ((Below.refl _ _).alloc (Nat.le_refl _) _).alloc (by simp) _
  have hd0 := (CellsAt.new w 26 (dotC a s)).alloc (.cells (row .u8 z32) 23)
  have hr0 := Holds.new (w.alloc (.cells (dotC a s).toArray 26)) .u8 23 z32
  rw [World.size_alloc] at hr0
  go_enter Tryz.func49, Tryz.ntmps49
  go_upto_region 1 with fail
  refine forget (p := fun y => Code.wp _ _ _ _ y) (fun W => Below w.heap.size w W ∧ RingAt W base H own seed b M v L ∧ Holds W (w.heap.size + 1) .u8 23 Z ∧ CellsAt W w.heap.size 26 (dotC a s)) ⟨hB, hR.far hB, by rw [← hZ]; exact hr0, hd0⟩ ?_
  clear hB hr0 hd0 hZ hR
  rintro W ⟨hB, hR, hr0, hd0⟩
  have rD := hd0.range 0 2
  rw [show ((dotC a s).drop 0).take 2 = dotC a s from rfl] at rD
  have hk := rKey_any base H own seed b M v L W a s ho hR
  have hka : keyAt M a s = k := by unfold keyAt; rw [hm]; rfl
  rw [hka, hm] at hk
  have hsz := hr0.lt
  clear hR
  go_upto_region 6 with (first
    | (refine wpList_ldv rfl 26 _ rfl _ _ rfl (dotC a s) rD Tryz.underlying26 rfl sizeDotK ?_)
    | (go_at_call 28; refine hk.mono ?_; rintro e W1 ⟨rfl, hb1⟩; have hA1 := Holds.new W1 .u8 23 (List.replicate 32 0))
    | (refine wpList_st rfl 23 _ _ rfl _ rfl rfl hA1 (by rw [hkl]; exact sizeKeyD) (by rw [hkl]; rfl) ?_))
  have hb2 : Below W.heap.size W ((W1.alloc (.cells (row .u8 (List.replicate 32 0)) 23)).setRow W1.heap.size (row .u8 k)) := hb1.trans ((below_setRow ((Below.refl _ _).alloc (Nat.le_refl _) _) (Nat.le_refl _) _).mono hb1.size)
  refine forget (p := fun y => Code.wp _ _ _ _ y) (fun V => Below w.heap.size w V ∧ Holds V (w.heap.size + 1) .u8 23 Z ∧ Holds V W1.heap.size .u8 23 k) ⟨hB.trans (hb2.mono hB.size), hr0.below hb2 hr0.lt, hA1.setRow _⟩ ?_
  obtain ⟨G, hG⟩ : ∃ q, W1.heap.size = q := ⟨_, rfl⟩
  rw [hG]
  clear hB hr0 hd0 rD hb2 hA1 hb1 hk hG
  rintro V ⟨hB, hr0, hx⟩
  have hd := HD.out V (hKT.below hB)
  have hB2 := hB.alloc hB.size (.cells (row .u8 [p]) 5)
  have hr2 := hr0.alloc (.cells (row .u8 [p]) 5)
  go_wp2_with (first
    | (refine wpList_ld rfl 23 _ rfl _ rfl hx Tryz.underlying23 sizeKeyD hkl ?_)
    | (go_at_call 81; refine hd.mono ?_; rintro e w1 ⟨rfl, hb1⟩; have hr3 := hr2.below hb1 hr2.lt)
    | (refine wpList_st rfl 23 _ _ rfl _ rfl rfl hr3 (by rw [hPl]; exact sizeKeyD) (by rw [hZl, hPl]) ?_))
  refine bodyPost_ret (results_ct (Tryz.results49) _ rfl rfl (hr3.setRow PL).cellsAt Tryz.underlying23 rfl (by rw [List.length_map, hPl]; exact sizeKeyD)) rfl ⟨?_, ?_⟩
  · rw [HPL.out]; rfl
  · exact below_setRow (hB2.trans (hb1.mono hB2.size)) (by omega) _
end
end Go.Proofs.YtfainlfiphdaeaaGreatDoor
