/- keys: 'Pair', 'MacKey', 'New', 'Add'. keys: 'Add'. 'Framed': the bytes of which the tag is. -/
import Derived.Test.YtfainlfiphdaeaaGreatDoorMBgKy4Ky5
import Derived.Test.YtfainlfiphdaeaaGreatDoorMAn1An2Ky1
import Derived.Test.YtfainlfiphdaeaaGreatDoorMGate2EvmGb
namespace Go.Proofs.YtfainlfiphdaeaaGreatDoor
open Go.RowKit
set_option maxRecDepth 20000
set_option linter.unusedSimpArgs false

def minB (a b : Int) : Int := if b < a then b else a
def maxB (a b : Int) : Int := if a < b then b else a
def wPair : List Int := [112, 97, 105, 114]
def wMac : List Int := [109, 97, 99]
def wEpoch : List Int := [101, 112, 111, 99, 104]
def wFrame : List Int := [102, 114, 97, 109, 101]
/-- The key of two; of an author's tags; of the first epoch; of an author's frames. -/
def pairL (seed : List Int) (a b : Int) : List Int := derL seed (wPair ++ [minB a b, maxB a b])
def macL (seed : List Int) (a : Int) : List Int := derL seed (wMac ++ [a])
def epochL (seed : List Int) : List Int := derL seed (wEpoch ++ [])
def fkeyL (k : List Int) (a : Int) : List Int := derL k (wFrame ++ [a])
section
variable (base H : Nat) (own : Int) (seed : List Int) (b : Nat) (M : Int → Int → Option (List Int)) (v : Value) (L : List (Int × Int)) (w : World)
set_option maxHeartbeats 4000000 in
theorem rPair_any (p q : Int) (hR : RingAt w base H own seed b M v L) (hKT : S.KTab w) :
    Calls Tryz.prog 85 #[.pointer (some ⟨H, 0, none⟩), .int .u8 p, .int .u8 q] w fun e w' => e = .returned (.agg (row .u8 (pairL seed p q))) ∧ Below w.heap.size w w' := by
  have hs32 := hR.seed32
  obtain ⟨Z, hZl, hZ⟩ : ∃ Z : List Int, Z.length = 32 ∧ Z = List.replicate 32 0 := ⟨_, rfl, rfl⟩
  have hB : Below w.heap.size w (w.alloc (.cells (row .u8 Z) 23)) := (Below.refl _ _).alloc (Nat.le_refl _) _
  have hr0 := Holds.new w .u8 23 Z
  have hPl : (pairL seed p q).length = 32 := derL_length _ _
  have HD : Veil (∀ W : World, S.KTab W → Calls Tryz.prog 81 #[.agg (row .u8 seed), .string ⟨#[112, 97, 105, 114]⟩, .slice (some ⟨W.heap.size, 0, none⟩) 2 2] (W.alloc (.cells (row .u8 [minB p q, maxB p q]) 5)) fun e w' => e = .returned (.agg (row .u8 (pairL seed p q))) ∧ Below (W.alloc (.cells (row .u8 [minB p q, maxB p q]) 5)).heap.size (W.alloc (.cells (row .u8 [minB p q, maxB p q]) 5)) w') := ⟨fun W hk => derived_any seed ⟨#[112, 97, 105, 114]⟩ _ 2 2 [minB p q, maxB p q] _ hs32 (by decide) (newB W [minB p q, maxB p q] 2 rfl (by simp)) (by omega) (hk.below ((Below.refl _ _).alloc (Nat.le_refl _) _))⟩
  obtain ⟨PL, hPL⟩ : ∃ z, pairL seed p q = z := ⟨_, rfl⟩
  rw [hPL] at HD hPl
  have HPL := Veil.mk hPL
  obtain ⟨mn, hmn⟩ : ∃ z, minB p q = z := ⟨_, rfl⟩
  obtain ⟨mx, hmx⟩ : ∃ z, maxB p q = z := ⟨_, rfl⟩
  rw [hmn, hmx] at HD
  have hmn' : (if q < p then q else p) = mn := hmn
  have hmx' : (if p < q then q else p) = mx := hmx
  clear hPL hmn hmx
  go_enter Tryz.func85, Tryz.ntmps85
  go_upto_region 3 with fail
  refine forget (p := fun y => Code.wp _ _ _ _ y) (fun W => Below w.heap.size w W ∧ RingAt W base H own seed b M v L ∧ Holds W w.heap.size .u8 23 Z) ⟨by rw [hZ] at hB; exact hB, by rw [hZ] at hB; exact hR.far hB, by rw [hZ] at hr0 ⊢; exact hr0⟩ ?_
  clear hB hr0 hZ
  rintro W ⟨hB, hR0, hr0⟩
  have rS := hR0.box.range 1 32
  rw [ringC_seed _ _ _ _ hs32] at rS
  have iK : (Tryz.prog.info? 23).map (·.size) = some (seed.map (Value.int .u8)).length := by rw [List.length_map, hs32]; exact sizeKeyD
  have hd := HD.out W (hKT.below hB)
  have hB2 := hB.alloc hB.size (.cells (row .u8 [mn, mx]) 5)
  have hr2 := hr0.alloc (.cells (row .u8 [mn, mx]) 5)
  clear hR0
  go_wp2_with (first
    | (refine wpList_ldv rfl 23 _ rfl _ _ rfl (seed.map (Value.int .u8)) rS Tryz.underlying23 rfl iK ?_)
    | (go_at_call 81; refine hd.mono ?_; rintro e w1 ⟨rfl, hb1⟩; have hr3 := hr2.below hb1 hr2.lt)
    | (refine wpList_st rfl 23 _ _ rfl _ rfl rfl hr3 (by rw [hPl]; exact sizeKeyD) (by rw [hZl, hPl]) ?_))
  refine bodyPost_ret (results_holds (Tryz.results85) _ rfl (hr3.setRow _) Tryz.underlying23 sizeKeyD hPl) rfl ⟨?_, ?_⟩
  · rw [HPL.out]
  · exact below_setRow (hB2.trans (hb1.mono hB2.size)) (Nat.le_refl _) _
set_option maxHeartbeats 4000000 in
theorem rMac_any (p : Int) (hR : RingAt w base H own seed b M v L) (hKT : S.KTab w) :
    Calls Tryz.prog 112 #[.pointer (some ⟨H, 0, none⟩), .int .u8 p] w fun e w' => e = .returned (.agg (row .u8 (macL seed p))) ∧ Below w.heap.size w w' := by
  have hs32 := hR.seed32
  obtain ⟨Z, hZl, hZ⟩ : ∃ Z : List Int, Z.length = 32 ∧ Z = List.replicate 32 0 := ⟨_, rfl, rfl⟩
  have hB : Below w.heap.size w (w.alloc (.cells (row .u8 Z) 23)) := (Below.refl _ _).alloc (Nat.le_refl _) _
  have hr0 := Holds.new w .u8 23 Z
  have hPl : (macL seed p).length = 32 := derL_length _ _
  have HD : Veil (∀ W : World, S.KTab W → Calls Tryz.prog 81 #[.agg (row .u8 seed), .string ⟨#[109, 97, 99]⟩, .slice (some ⟨W.heap.size, 0, none⟩) 1 1] (W.alloc (.cells (row .u8 [p]) 5)) fun e w' => e = .returned (.agg (row .u8 (macL seed p))) ∧ Below (W.alloc (.cells (row .u8 [p]) 5)).heap.size (W.alloc (.cells (row .u8 [p]) 5)) w') := ⟨fun W hk => derived_any seed ⟨#[109, 97, 99]⟩ _ 1 1 [p] _ hs32 (by decide) (newB W [p] 1 rfl (by simp)) (by omega) (hk.below ((Below.refl _ _).alloc (Nat.le_refl _) _))⟩
  obtain ⟨PL, hPL⟩ : ∃ z, macL seed p = z := ⟨_, rfl⟩
  rw [hPL] at HD hPl
  have HPL := Veil.mk hPL
  clear hPL
  go_enter Tryz.func112, Tryz.ntmps112
  go_upto_region 3 with fail
  refine forget (p := fun y => Code.wp _ _ _ _ y) (fun W => Below w.heap.size w W ∧ RingAt W base H own seed b M v L ∧ Holds W w.heap.size .u8 23 Z) ⟨by rw [hZ] at hB; exact hB, by rw [hZ] at hB; exact hR.far hB, by rw [hZ] at hr0 ⊢; exact hr0⟩ ?_
  clear hB hr0 hZ
  rintro W ⟨hB, hR0, hr0⟩
  have rS := hR0.box.range 1 32
  rw [ringC_seed _ _ _ _ hs32] at rS
  have iK : (Tryz.prog.info? 23).map (·.size) = some (seed.map (Value.int .u8)).length := by rw [List.length_map, hs32]; exact sizeKeyD
  have hd := HD.out W (hKT.below hB)
  have hB2 := hB.alloc hB.size (.cells (row .u8 [p]) 5)
  have hr2 := hr0.alloc (.cells (row .u8 [p]) 5)
  clear hR0
  go_wp2_with (first
    | (refine wpList_ldv rfl 23 _ rfl _ _ rfl (seed.map (Value.int .u8)) rS Tryz.underlying23 rfl iK ?_)
    | (go_at_call 81; refine hd.mono ?_; rintro e w1 ⟨rfl, hb1⟩; have hr3 := hr2.below hb1 hr2.lt)
    | (refine wpList_st rfl 23 _ _ rfl _ rfl rfl hr3 (by rw [hPl]; exact sizeKeyD) (by rw [hZl, hPl]) ?_))
  refine bodyPost_ret (results_holds (Tryz.results112) _ rfl (hr3.setRow _) Tryz.underlying23 sizeKeyD hPl) rfl ⟨?_, ?_⟩
  · rw [HPL.out]
  · exact below_setRow (hB2.trans (hb1.mono hB2.size)) (Nat.le_refl _) _
end
def ringZ : List Value := ringC 0 (List.replicate 32 0) 0 (.slice none 0 0) |>.set 33 (.map none)
theorem ring_zero : (Tryz.prog.info? 118).map (·.zero) = some (some (.agg ringZ.toArray)) := by kernel_rfl
theorem ring_built (own : Int) (seed : List Int) (b : Nat) (hs : seed.length = 32) (w : World) : (Instr.build 118 #[(0, .int .u8 own), (1, .agg (row .u8 seed)), (2, .map (some b))]).run Tryz.prog w = .ok (.agg (ringC own seed b (.slice none 0 0)).toArray) w := by
  refine run_build w _ _ _ ?_
  rw [built_of ring_zero Tryz.underlying118 (by kernel_rfl) (places := [(0, 1), (1, 32), (33, 1), (34, 1)])]
  rw [fill_cons _ _ [.int .u8 own] 0 0 1 _ _ rfl rfl rfl (by decide), show ringZ.take 0 ++ [.int .u8 own] ++ ringZ.drop (0 + 1) = [Value.int .u8 own] ++ (List.replicate 32 (0 : Int)).map (Value.int .u8) ++ [.map none, .slice none 0 0] from rfl]
  rw [fill_cons _ _ (seed.map (Value.int .u8)) 1 1 32 _ _ rfl rfl (by simp [hs]) (Nat.le_of_ble_eq_true rfl)]
  rw [show List.take 1 ([Value.int .u8 own] ++ (List.replicate 32 (0 : Int)).map (Value.int .u8) ++ [.map none, .slice none 0 0]) = [Value.int .u8 own] from rfl, show List.drop (1 + 32) ([Value.int .u8 own] ++ (List.replicate 32 (0 : Int)).map (Value.int .u8) ++ [.map none, .slice none 0 0]) = [.map none, .slice none 0 0] from rfl]
  rw [fill_cons _ _ [.map (some b)] 2 33 1 _ _ rfl rfl rfl (by simp [hs]), Instr.fill]
  congr 2
  rw [List.take_left' (by simp [hs]), show 33 + 1 = ([Value.int .u8 own] ++ seed.map (Value.int .u8)).length + 1 by simp [hs], List.drop_length_add_append]
  simp [ringC]
/-- The keys and the dots of a new ring. -/
def newM (own : Int) (seed : List Int) : Int → Int → Option (List Int) := if own = 0 then putK (fun _ _ => none) 0 0 (epochL seed) else fun _ _ => none
def newD (own : Int) : List (Int × Int) := if own = 0 then [(0, 0)] else []
theorem okZ : okD 0 0 := ⟨⟨by omega, by omega⟩, by omega, by omega⟩
set_option maxHeartbeats 4000000 in
theorem new_none (own : Int) (seed : List Int) (w : World) (h8 : 8 ≤ own) :
    Calls Tryz.prog 27 #[.int .u8 own, .agg (row .u8 seed)] w fun e w' => e = .returned (.pointer none) ∧ Below w.heap.size w w' := by
  go_enter Tryz.func27, Tryz.ntmps27
  go_wp2
  go_ret
  exact ⟨rfl, (Below.refl _ _).alloc (Nat.le_refl _) _⟩
set_option maxHeartbeats 4000000 in
theorem new_any (own : Int) (seed : List Int) (w : World) (h8 : own < 8) (hs : seed.length = 32) (hKT : S.KTab w) :
    Calls Tryz.prog 27 #[.int .u8 own, .agg (row .u8 seed)] w fun e w' => ∃ H b v, e = .returned (.pointer (some ⟨H, 0, none⟩)) ∧ RingAt w' w.heap.size H own seed b (newM own seed) v (newD own) ∧ Below w.heap.size w w' := by
  have hmm := @run_makeMap Tryz.prog
  have HBU : Veil (∀ b wx, (Instr.build 118 #[(0, .int .u8 own), (1, .agg (row .u8 seed)), (2, .map (some b))]).run Tryz.prog wx = .ok (.agg (ringC own seed b (.slice none 0 0)).toArray) wx ) := ⟨fun b wx => ring_built own seed b hs wx⟩
  have hk0 := Holds.new w .u8 23 seed
  have hB : Below w.heap.size w (w.alloc (.cells (row .u8 seed) 23)) := (Below.refl _ _).alloc (Nat.le_refl _) _
  have hn8 : ¬ 8 ≤ own := by omega
  go_enter Tryz.func27, Tryz.ntmps27
  go_upto_region 3 with fail
  refine forget (p := fun y => Code.wp _ _ _ _ y) (fun W => Below w.heap.size w W ∧ Holds W w.heap.size .u8 23 seed) ⟨hB, hk0⟩ ?_
  clear hB hk0
  rintro W ⟨hB, hk0⟩
  go_upto_region 4 with (first
    | (refine wpList_ld rfl 23 _ rfl _ rfl hk0 Tryz.underlying23 sizeKeyD hs ?_)
    | (refine wpList_bldx rfl 118 _ rfl #[(0, .int .u8 own), (1, .agg (row .u8 seed)), (2, .map (some W.heap.size))] (by first | rfl | kernel_rfl) _ (HBU.out _ _) ?_))
  have hW := hB.size
  have hm1 := (MapAt.made W).alloc (.cells (ringC own seed W.heap.size (.slice none 0 0)).toArray 118)
  have hx1 := CellsAt.new (W.alloc (.map #[] 0)) 118 (ringC own seed W.heap.size (.slice none 0 0))
  rw [World.size_alloc] at hx1
  have hB1 := (hB.alloc hB.size (.map #[] 0)).alloc (by simp; omega) (.cells (ringC own seed W.heap.size (.slice none 0 0)).toArray 118)
  have hk1 := (hk0.alloc (.map #[] 0)).alloc (.cells (ringC own seed W.heap.size (.slice none 0 0)).toArray 118)
  have hR1 : RingAt ((W.alloc (.map #[] 0)).alloc (.cells (ringC own seed W.heap.size (.slice none 0 0)).toArray 118)) w.heap.size (W.heap.size + 1) own seed W.heap.size (fun _ _ => none) (.slice none 0 0) [] := ⟨hx1, hm1, OwnD.nil _ _, hs, (fun _ _ _ h => by cases h), by simp, by omega, by omega⟩
  refine forget (p := fun y => Code.wp _ _ _ _ y) (fun V => Below w.heap.size w V ∧ Holds V w.heap.size .u8 23 seed ∧ RingAt V w.heap.size (W.heap.size + 1) own seed W.heap.size (fun _ _ => none) (.slice none 0 0) []) ⟨hB1, hk1, hR1⟩ ?_
  clear hm1 hx1 hB1 hk1 hR1 hB hk0 hmm HBU hW
  obtain ⟨G, hG⟩ : ∃ q, W.heap.size = q := ⟨_, rfl⟩
  rw [hG]
  clear hG
  clear W
  rintro W ⟨hB, hk0, hR0⟩
  by_cases h0 : own = 0
  · subst h0
    have hd := derived_any seed ⟨#[101, 112, 111, 99, 104]⟩ none 0 0 [] W hs (by decide) (bytes_nil W) (by omega) (hKT.below hB)
    have hdl : (epochL seed).length = 32 := derL_length _ _
    rw [show derL seed (wordL ⟨#[101, 112, 111, 99, 104]⟩ ++ []) = epochL seed from rfl] at hd
    have HN : Veil (newM 0 seed = putK (fun _ _ => none) 0 0 (epochL seed) ∧ newD 0 = [] ++ [(0, 0)]) := ⟨if_pos rfl, rfl⟩
    obtain ⟨EL, hEL⟩ : ∃ q, epochL seed = q := ⟨_, rfl⟩
    rw [hEL] at hd hdl HN
    clear hEL
    go_wp2_with (first
      | (refine wpList_ld rfl 23 _ rfl _ rfl hk0 Tryz.underlying23 sizeKeyD hs ?_)
      | (go_at_call 81; refine hd.mono ?_; rintro e w1 ⟨rfl, hb1⟩; have hB1 := hB.trans (hb1.mono hB.size); have hh := hold_any w.heap.size (G + 1) 0 seed G (fun _ _ => none) (.slice none 0 0) [] 0 0 EL w1 (hR0.far hb1) (by simp) okZ hdl hB1.size)
      | (go_at_call 80; refine hh.mono ?_; rintro e w2 ⟨⟨r, rfl⟩, v2, hR2, hT2, _⟩))
    go_ret
    refine ⟨G + 1, G, v2, rfl, ?_, hB1.trans (hT2.below hB1.size ?_)⟩
    · rw [HN.out.1, HN.out.2]; exact hR2
    · intro k hk
      rcases hk with rfl | rfl | hk
      · exact hR0.baseH
      · exact hR0.baseB
      · cases hk
  · have HN : Veil (newM own seed = (fun _ _ => none) ∧ newD own = []) := ⟨if_neg h0, if_neg h0⟩
    have h0' : (own == 0) = false := by simpa using h0
    go_wp2
    go_ret
    refine ⟨G + 1, rfl, ⟨G, .slice none 0 0, ?_⟩, hB⟩
    rw [HN.out.1, HN.out.2]; exact hR0
end Go.Proofs.YtfainlfiphdaeaaGreatDoor

namespace Go.Proofs.YtfainlfiphdaeaaGreatDoor
open Go.RowKit
set_option maxRecDepth 20000
set_option linter.unusedSimpArgs false

section
variable (base H : Nat) (own : Int) (seed : List Int) (b : Nat) (M : Int → Int → Option (List Int)) (v : Value) (L : List (Int × Int)) (w : World)
set_option maxHeartbeats 4000000 in
theorem add_known (a s : Int) (k : List Int) (ho : okD a s) (hR : RingAt w base H own seed b M v L) (hm : (M a s).isSome = true) :
    Calls Tryz.prog 30 #[.pointer (some ⟨H, 0, none⟩), .agg (dotC a s).toArray, .agg (row .u8 k)] w fun e w' => e = .returned (.int .i64 5) ∧ Below w.heap.size w w' := by
  have hB : Below w.heap.size w ((w.alloc (.cells (dotC a s).toArray 26)).alloc (.cells (row .u8 k) 23)) := ((Below.refl _ _).alloc (Nat.le_refl _) _).alloc (by simp) _
  have hd0 := (CellsAt.new w 26 (dotC a s)).alloc (.cells (row .u8 k) 23)
  have hh := rHas_any base H own seed b M v L _ a s ho (hR.far hB)
  rw [hm] at hh
  have rD := hd0.range 0 2
  rw [show ((dotC a s).drop 0).take 2 = dotC a s from rfl] at rD
  go_enter Tryz.func30, Tryz.ntmps30
  go_wp2_with (first
    | (refine wpList_ldv rfl 26 _ rfl _ _ rfl (dotC a s) rD Tryz.underlying26 rfl sizeDotK ?_)
    | (go_at_call 29; refine hh.mono ?_; rintro e w1 ⟨rfl, hb1⟩))
  go_ret
  exact ⟨rfl, hB.trans (hb1.mono hB.size)⟩
set_option maxHeartbeats 4000000 in
theorem add_full (a s : Int) (k : List Int) (ho : okD a s) (hR : RingAt w base H own seed b M v L) (hm : (M a s).isSome = false) (hl : 16 ≤ L.length) :
    Calls Tryz.prog 30 #[.pointer (some ⟨H, 0, none⟩), .agg (dotC a s).toArray, .agg (row .u8 k)] w fun e w' => e = .returned (.int .i64 10) ∧ Below w.heap.size w w' := by
  have hs32 := hR.seed32
  have hB : Below w.heap.size w ((w.alloc (.cells (dotC a s).toArray 26)).alloc (.cells (row .u8 k) 23)) := ((Below.refl _ _).alloc (Nat.le_refl _) _).alloc (by simp) _
  have hd0 := (CellsAt.new w 26 (dotC a s)).alloc (.cells (row .u8 k) 23)
  have hR0 := hR.far hB
  have hh := rHas_any base H own seed b M v L _ a s ho hR0
  rw [hm] at hh
  have rD := hd0.range 0 2
  rw [show ((dotC a s).drop 0).take 2 = dotC a s from rfl] at rD
  have HC : Veil (∀ W : World, Below ((w.alloc (.cells (dotC a s).toArray 26)).alloc (.cells (row .u8 k) 23)).heap.size ((w.alloc (.cells (dotC a s).toArray 26)).alloc (.cells (row .u8 k) 23)) W → W.cell? ⟨H, 34, none⟩ = some v) := ⟨fun W hb => by
    have := (hR0.far hb).box.cell 34
    rw [ringC_added _ _ _ _ hs32] at this
    exact this⟩
  obtain ⟨xv, cv, hv⟩ := hR.added.isSlice
  clear hR hR0
  subst hv
  obtain ⟨n, hn⟩ : ∃ n, L.length = n := ⟨_, rfl⟩
  rw [hn] at HC hl
  clear hn
  have hli : (16 : Int) ≤ (n : Int) := by omega
  go_enter Tryz.func30, Tryz.ntmps30
  go_wp2_with (first
    | (refine wpList_ldv rfl 26 _ rfl _ _ rfl (dotC a s) rD Tryz.underlying26 rfl sizeDotK ?_)
    | (go_at_call 29; refine hh.mono ?_; rintro e w1 ⟨rfl, hb1⟩; have c34 := HC.out w1 hb1))
  go_ret
  exact ⟨rfl, hB.trans (hb1.mono hB.size)⟩
set_option maxHeartbeats 4000000 in
theorem add_ok (a s : Int) (k : List Int) (ho : okD a s) (hk : k.length = 32) (hR : RingAt w base H own seed b M v L) (hm : (M a s).isSome = false) (hl : L.length < 16) (hbase : base ≤ w.heap.size) :
    Calls Tryz.prog 30 #[.pointer (some ⟨H, 0, none⟩), .agg (dotC a s).toArray, .agg (row .u8 k)] w fun e w' => e = .returned (.int .i64 0) ∧ ∃ v', RingAt w' base H own seed b (putK M a s k) v' (L ++ [(a, s)]) ∧ Turn (ringP H b v) w w' ∧ (v'.ownBlock = v.ownBlock ∨ ∃ g, v'.ownBlock = some g ∧ w.heap.size ≤ g) := by
  have hs32 := hR.seed32
  have hB : Below w.heap.size w ((w.alloc (.cells (dotC a s).toArray 26)).alloc (.cells (row .u8 k) 23)) := ((Below.refl _ _).alloc (Nat.le_refl _) _).alloc (by simp) _
  have hd0 := (CellsAt.new w 26 (dotC a s)).alloc (.cells (row .u8 k) 23)
  have hk0 := Holds.new (w.alloc (.cells (dotC a s).toArray 26)) .u8 23 k
  rw [World.size_alloc] at hk0
  have hR0 := hR.far hB
  have hh := rHas_any base H own seed b M v L _ a s ho hR0
  rw [hm] at hh
  have rD := hd0.range 0 2
  rw [show ((dotC a s).drop 0).take 2 = dotC a s from rfl] at rD
  have HC : Veil (∀ W : World, Below ((w.alloc (.cells (dotC a s).toArray 26)).alloc (.cells (row .u8 k) 23)).heap.size ((w.alloc (.cells (dotC a s).toArray 26)).alloc (.cells (row .u8 k) 23)) W → W.cell? ⟨H, 34, none⟩ = some v ∧ W.rangeAt w.heap.size 0 (dotC a s) ∧ Holds W (w.heap.size + 1) .u8 23 k ∧ RingAt W base H own seed b M v L ∧ Below w.heap.size w W) := ⟨fun W hb => by
    have h1 := (hR0.far hb).box.cell 34
    rw [ringC_added _ _ _ _ hs32] at h1
    have h2 := (hd0.congr (hb.block _ hd0.lt)).range 0 2
    exact ⟨h1, h2, hk0.below hb hk0.lt, hR0.far hb, hB.trans (hb.mono hB.size)⟩⟩
  have HX : Veil (∃ xv cv, v = .slice xv L.length cv) := ⟨hR.added.isSlice⟩
  have HHOLD : Veil (∀ W, Below w.heap.size w W → RingAt W base H own seed b M v L → Calls Tryz.prog 80 #[.pointer (some ⟨H, 0, none⟩), .agg (dotC a s).toArray, .agg (row .u8 k)] W fun e w' => (∃ r, e = .returned r) ∧ ∃ v', RingAt w' base H own seed b (putK M a s k) v' (L ++ [(a, s)]) ∧ Turn (ringP H b v) w w' ∧ (v'.ownBlock = v.ownBlock ∨ ∃ g, v'.ownBlock = some g ∧ w.heap.size ≤ g)) := ⟨fun W hb hr => (hold_any base H own seed b M v L a s k W hr hl ho hk (Nat.le_trans hbase hb.size)).mono fun e w' ⟨h1, v', h2, h3, h4⟩ => ⟨h1, v', h2, (Turn.of_below hb).trans h3, h4.imp id fun ⟨g, h5, h6⟩ => ⟨g, h5, Nat.le_trans hb.size h6⟩⟩⟩
  obtain ⟨P1, hP1⟩ : ∃ p, p = (fun (e : Ending) (w' : World) => (∃ r, e = .returned r) ∧ ∃ v', RingAt w' base H own seed b (putK M a s k) v' (L ++ [(a, s)]) ∧ Turn (ringP H b v) w w' ∧ (v'.ownBlock = v.ownBlock ∨ ∃ g, v'.ownBlock = some g ∧ w.heap.size ≤ g)) := ⟨_, rfl⟩
  have HP1 : Veil (∀ r w', P1 (.returned r) w' → ∃ v', RingAt w' base H own seed b (putK M a s k) v' (L ++ [(a, s)]) ∧ Turn (ringP H b v) w w' ∧ (v'.ownBlock = v.ownBlock ∨ ∃ g, v'.ownBlock = some g ∧ w.heap.size ≤ g)) := ⟨fun r w' h => by rw [hP1] at h; exact h.2⟩
  have HP2 : Veil (∀ e w', P1 e w' → ∃ r, e = .returned r) := ⟨fun e w' h => by rw [hP1] at h; exact h.1⟩
  rw [← hP1] at HHOLD
  clear hP1 hR hR0 hd0 hk0
  obtain ⟨n, hn⟩ : ∃ n, L.length = n := ⟨_, rfl⟩
  have hli : (n : Int) < 16 := by omega
  obtain ⟨xv, cv, hv⟩ := HX.out
  rw [hn] at hv
  clear hn HX
  go_enter Tryz.func30, Tryz.ntmps30
  go_upto_region 5 with (first
    | (refine wpList_ldv rfl 26 _ rfl _ _ rfl (dotC a s) rD Tryz.underlying26 rfl sizeDotK ?_)
    | (go_at_call 29; refine hh.mono ?_; rintro e w1 ⟨rfl, hb1⟩))
  obtain ⟨c34, rD1, hk1, hR1, hB1⟩ := HC.out w1 hb1
  have hhold := HHOLD.out w1 hB1 hR1
  rw [hv] at c34
  clear HC HHOLD hR1 hB1 hb1 hh rD hB hv
  go_wp2_with (first
    | (refine wpList_ldv rfl 26 _ rfl _ _ rfl (dotC a s) rD1 Tryz.underlying26 rfl sizeDotK ?_)
    | (refine wpList_ld rfl 23 _ rfl _ rfl hk1 Tryz.underlying23 sizeKeyD hk ?_)
    | (go_at_call 80; refine hhold.mono ?_; intro e w2 hp2; obtain ⟨r, rfl⟩ := HP2.out e w2 hp2; have h3 := HP1.out r w2 hp2))
  go_ret
  exact ⟨rfl, h3⟩
end
end Go.Proofs.YtfainlfiphdaeaaGreatDoor

namespace Go.Proofs.YtfainlfiphdaeaaGreatDoor
open Go.RowKit
set_option maxRecDepth 20000
set_option linter.unusedSimpArgs false

theorem PartsAt.new (w : World) (t : TypeId) (ps : List Part) (hb : ∀ j (hj : j < ps.length), Bytes w (ps[j]).x (ps[j]).len (ps[j]).cap (ps[j]).z) : PartsAt (w.alloc (.cells (ps.map Part.val).toArray t)) w.heap.size ps :=
  ⟨fun j hj => by
    rw [cell_of_row _ w.heap.size j _ t _ (heap_alloc_new w _)]
    simp [hj], fun j hj => (hb j hj).below ((Below.refl _ _).alloc (Nat.le_refl _) _)⟩
theorem parts6 {w : World} (p0 p1 p2 p3 p4 p5 : Part) (h0 : Bytes w p0.x p0.len p0.cap p0.z) (h1 : Bytes w p1.x p1.len p1.cap p1.z) (h2 : Bytes w p2.x p2.len p2.cap p2.z) (h3 : Bytes w p3.x p3.len p3.cap p3.z) (h4 : Bytes w p4.x p4.len p4.cap p4.z) (h5 : Bytes w p5.x p5.len p5.cap p5.z) :
    ∀ j (hj : j < [p0, p1, p2, p3, p4, p5].length), Bytes w ([p0, p1, p2, p3, p4, p5][j]).x ([p0, p1, p2, p3, p4, p5][j]).len ([p0, p1, p2, p3, p4, p5][j]).cap ([p0, p1, p2, p3, p4, p5][j]).z
  | 0, _ => h0 | 1, _ => h1 | 2, _ => h2 | 3, _ => h3 | 4, _ => h4 | 5, _ => h5
  | j + 6, h => absurd h (by simp)
theorem parts2 {w : World} (p0 p1 : Part) (h0 : Bytes w p0.x p0.len p0.cap p0.z) (h1 : Bytes w p1.x p1.len p1.cap p1.z) :
    ∀ j (hj : j < [p0, p1].length), Bytes w ([p0, p1][j]).x ([p0, p1][j]).len ([p0, p1][j]).cap ([p0, p1][j]).z
  | 0, _ => h0 | 1, _ => h1
  | j + 2, h => absurd h (by simp)

set_option maxHeartbeats 2000000 in
theorem framed_any (x : Option Addr) (len cap : Nat) (o : List Int) (y : Option Addr) (lb cb : Nat) (s : List Int) (w : World) (hx : Bytes w x len cap o) (hy : Bytes w y lb cb s) (hl1 : len ≤ 100000) (hl2 : lb ≤ 100000) :
    Calls Tryz.prog 155 #[.slice x len cap, .slice y lb cb] w fun e w' => ∃ v, e = .returned v ∧ OwnB w' w.heap.size v (framedL o s) ∧ Below w.heap.size w w' := by
  have h1 := lengthOf_any x len cap o w hx
  have h2 := fun wx (hb : Below w.heap.size w wx) => lengthOf_any y lb cb s wx (hy.below hb)
  have hL1 := le8_length len
  have hL2 := le8_length lb
  have hxl := hx.len_eq
  have hyl := hy.len_eq
  have HF : Veil (∀ f1 f2 g1 g2, allZ [⟨x, len, cap, o⟩, ⟨some ⟨f1, 0, none⟩, fillN len, fillN len, zerosL (fillN len)⟩, ⟨y, lb, cb, s⟩, ⟨some ⟨f2, 0, none⟩, fillN lb, fillN lb, zerosL (fillN lb)⟩, ⟨some ⟨g1, 0, none⟩, 8, 8, le8 len⟩, ⟨some ⟨g2, 0, none⟩, 8, 8, le8 lb⟩] = framedL o s) := ⟨fun f1 f2 g1 g2 => by
    unfold framedL
    rw [← hxl, ← hyl]
    simp [allZ]⟩
  have HL : Veil ((framedL o s).length ≤ 1000000) := ⟨by rw [framedL_length]; have := fillN_lt o.length; have := fillN_lt s.length; omega⟩
  have hF1 := fillN_lt len
  have hF2 := fillN_lt lb
  have hZ1 := zerosL_length (fillN len)
  have hZ2 := zerosL_length (fillN lb)
  have ff1 := fun wx (hb : Bytes wx x len cap o) => afill_any x len cap o wx hb
  have ff2 := fun wx (hb : Bytes wx y lb cb s) => afill_any y lb cb s wx hb
  obtain ⟨F1, hF1e⟩ : ∃ q, fillN len = q := ⟨_, rfl⟩
  obtain ⟨F2, hF2e⟩ : ∃ q, fillN lb = q := ⟨_, rfl⟩
  rw [hF1e] at HF hF1 hZ1 ff1
  rw [hF2e] at HF hF2 hZ2 ff2
  obtain ⟨A, hA⟩ : ∃ q, le8 len = q := ⟨_, rfl⟩
  obtain ⟨B, hBe⟩ : ∃ q, le8 lb = q := ⟨_, rfl⟩
  rw [hA] at h1 hL1 HF
  rw [hBe] at h2 hL2 HF
  clear hxl hyl hF1e hF2e hA hBe
  go_enter Tryz.func155, Tryz.ntmps155
  go_upto_region 2 with (first
    | (go_at_call 191; refine h1.mono ?_; rintro e w1 ⟨rfl, hb1⟩; have h2' := h2 w1 hb1; clear h1)
    | (go_at_call 191; refine h2'.mono ?_; rintro e w2 ⟨rfl, hb2⟩; have hN1 := (Holds.new w2 .u8 230 (List.replicate 8 0)).alloc (.cells (row .u8 (List.replicate 8 0)) 230); have hN2 := (show Holds ((w2.alloc (.cells (row .u8 (List.replicate 8 0)) 230)).alloc (.cells (row .u8 (List.replicate 8 0)) 230)) (w2.heap.size + 1) .u8 230 (List.replicate 8 0) from (by have := Holds.new (w2.alloc (.cells (row .u8 (List.replicate 8 0)) 230)) .u8 230 (List.replicate 8 0); rw [World.size_alloc] at this; exact this)); have hN3 := hN2.setRowOther (g' := w2.heap.size) (row .u8 A) (by omega))
    | (refine wpList_st rfl 230 _ _ rfl _ rfl rfl hN1 (by rw [hL1]; exact size8b) (by simp [hL1]) ?_)
    | (refine wpList_st rfl 230 _ _ rfl _ rfl rfl hN3 (by rw [hL2]; exact size8b) (by simp [hL2]) ?_))
  have hB2 : Below w.heap.size w w2 := hb1.trans (hb2.mono hb1.size)
  refine forget (p := fun y => Code.wp _ _ _ _ y) (fun W3 => Below w.heap.size w W3 ∧ Holds W3 w2.heap.size .u8 230 A ∧ Holds W3 (w2.heap.size + 1) .u8 230 B) ⟨below_setRow (below_setRow ((hB2.alloc hB2.size _).alloc (by have := hB2.size; simp; omega) _) hB2.size _) (by have := hB2.size; omega) _, (hN1.setRow _).setRowOther _ (by omega), hN3.setRow _⟩ ?_
  have hsz2 := hB2.size
  obtain ⟨G, hG⟩ : ∃ q, w2.heap.size = q := ⟨_, rfl⟩
  rw [hG] at hsz2 ⊢
  clear hN1 hN2 hN3 hb1 hb2 hB2 h2 h2' hG
  rintro W3 ⟨hB3, hG1, hG2⟩
  have hx3 := (hx.below hB3).below (Below.refl _ _).drew
  have hB3d : Below w.heap.size w W3.drew := hB3.drew
  have hG1d := hG1.drew
  have hG2d := hG2.drew
  refine wp_region_gate (fun _ => True) 10 (by kernel_rfl) ?_
  have hS : (fun _ : World => True) W3.drew := trivial
  refine wpAnyG_any (i := 0) (v := ?_) rfl (by kernel_rfl) (by kernel_rfl) (by kernel_rfl) (fun _ _ _ h => h) (by kernel_rfl) (fun _ => hS) (by kernel_rfl) ?_ ?_
  rotate_left
  · intro _; go_simp; try with_reducible rfl
  simp only [Act.put, List.setIfInBounds_toArray, List.set_cons_zero, List.set_cons_succ]
  refine wpAnyG_any (i := 1) (v := ?_) rfl (by kernel_rfl) (by kernel_rfl) (by kernel_rfl) (fun _ _ _ h => h) (by kernel_rfl) (fun _ => hS) (by kernel_rfl) ?_ ?_
  rotate_left
  · intro _; go_simp; try with_reducible rfl
  simp only [Act.put, List.setIfInBounds_toArray, List.set_cons_zero, List.set_cons_succ]
  refine wpAnyG_any (i := 3) (v := ?_) rfl (by kernel_rfl) (by kernel_rfl) (by kernel_rfl) (fun _ _ _ h => h) (by kernel_rfl) (fun _ => hS) (by kernel_rfl) ?_ ?_
  rotate_left
  · intro _; go_simp; try with_reducible rfl
  simp only [Act.put, List.setIfInBounds_toArray, List.set_cons_zero, List.set_cons_succ]
  refine wpAnyG_any (i := 4) (v := ?_) rfl (by kernel_rfl) (by kernel_rfl) (by kernel_rfl) (fun _ _ _ h => h) (by kernel_rfl) (fun _ => hS) (by kernel_rfl) ?_ ?_
  rotate_left
  · intro _; go_simp; try with_reducible rfl
  simp only [Act.put, List.setIfInBounds_toArray, List.set_cons_zero, List.set_cons_succ]
  refine wpAnyG_any (i := 6) (v := ?_) rfl (by kernel_rfl) (by kernel_rfl) (by kernel_rfl) (fun _ _ _ h => h) (by kernel_rfl) (fun _ => hS) (by kernel_rfl) ?_ ?_
  rotate_left
  · intro _; go_simp; try with_reducible rfl
  simp only [Act.put, List.setIfInBounds_toArray, List.set_cons_zero, List.set_cons_succ]
  refine wpAnyG_any (i := 7) (v := ?_) rfl (by kernel_rfl) (by kernel_rfl) (by kernel_rfl) (fun _ _ _ h => h) (by kernel_rfl) (fun _ => hS) (by kernel_rfl) ?_ ?_
  rotate_left
  · intro _; go_simp; try with_reducible rfl
  simp only [Act.put, List.setIfInBounds_toArray, List.set_cons_zero, List.set_cons_succ]
  obtain ⟨W4, hW4⟩ : ∃ W, W = W3.drew := ⟨_, rfl⟩
  rw [← hW4] at hx3 hB3d hG1d hG2d ⊢
  clear hG1 hG2 hB3 hW4
  have hy4 := hy.below hB3d
  refine wpAnyG_one (i := 2) rfl (by kernel_rfl) (by kernel_rfl) (fun K hK => ?_)
  go_wp2_with (go_at_call 192; refine (ff1 _ hx3).mono ?_; rintro e w5 ⟨rfl, hZ5, hb5⟩)
  have hy5 := hy4.below hb5
  clear hy4
  refine hK.out _ _ (fun _ => hS) ?_
  clear hK K
  refine wpAnyG_one (i := 5) rfl (by kernel_rfl) (by kernel_rfl) (fun K hK => ?_)
  go_wp2_with (go_at_call 192; refine (ff2 _ hy5).mono ?_; rintro e w6 ⟨rfl, hZ6, hb6⟩)
  have hb46 : Below W4.heap.size W4 w6 := hb5.trans (hb6.mono hb5.size)
  have hZ56 := hZ5.below hb6 hZ5.lt
  have hx6 := hx3.below hb46
  have hy6 := hy5.below hb6
  have hG16 := hG1d.below hb46 hG1d.lt
  have hG26 := hG2d.below hb46 hG2d.lt
  have hB6 : Below w.heap.size w w6 := hB3d.trans (hb46.mono hB3d.size)
  clear hZ5 hy5 hx3 hG1d hG2d
  refine hK.out _ _ (fun _ => hS) ?_
  clear hK K
  obtain ⟨f1, hf1⟩ : ∃ q, W4.heap.size = q := ⟨_, rfl⟩
  obtain ⟨f2, hf2⟩ : ∃ q, w5.heap.size = q := ⟨_, rfl⟩
  rw [hf1] at hZ56 ⊢
  rw [hf2] at hZ6 ⊢
  have hPA := PartsAt.new w6 41 [⟨x, len, cap, o⟩, ⟨some ⟨f1, 0, none⟩, F1, F1, zerosL F1⟩, ⟨y, lb, cb, s⟩, ⟨some ⟨f2, 0, none⟩, F2, F2, zerosL F2⟩, ⟨some ⟨G, 0, none⟩, 8, 8, A⟩, ⟨some ⟨G + 1, 0, none⟩, 8, 8, B⟩] (parts6 _ _ _ _ _ _ hx6 (hZ56.bytes hZ1.symm (by omega)) hy6 (hZ6.bytes hZ2.symm (by omega)) (hG16.bytes hL1.symm (by omega)) (hG26.bytes hL2.symm (by omega)))
  have hj := joined_any w6.heap.size 6 _ _ hPA rfl (by omega) (by unfold sumN; rw [HF.out]; exact HL.out)
  rw [HF.out] at hj
  have hB7 := hB6.alloc hB6.size (.cells #[Value.slice x len cap, .slice (some ⟨f1, 0, none⟩) F1 F1, .slice y lb cb, .slice (some ⟨f2, 0, none⟩) F2 F2, .slice (some ⟨G, 0, none⟩) 8 8, .slice (some ⟨G + 1, 0, none⟩) 8 8] 41)
  have hsz7 := hB6.size
  clear hPA hZ56 hZ6 hx6 hy6 hG16 hG26 hb46 hb5 hb6 hB3d ff1 ff2 hf1 hf2
  refine wpAnyG_one (i := 8) rfl (by kernel_rfl) (by kernel_rfl) (fun K hK => ?_)
  go_simp
  refine hK.out _ _ (fun _ => hS) ?_
  clear hK K
  refine wpAnyG_one (i := 9) rfl (by kernel_rfl) (by kernel_rfl) (fun K hK => ?_)
  go_wp2_with (go_at_call 108; refine hj.mono ?_; rintro e w8 ⟨v8, rfl, ho8, hb8⟩)
  refine hK.out _ _ (fun _ => hS) ?_
  clear hK K
  refine wpAnyG_one (i := 10) rfl (by kernel_rfl) (by kernel_rfl) (fun K hK => ?_)
  go_simp
  refine hK.out _ _ (fun h => absurd (show true = false from h) (by decide)) ?_
  clear hK K
  refine wpAnyG_done (by kernel_rfl) ?_ _
  go_wp2
  go_ret
  exact ⟨_, rfl, ho8.lessG (by simp; omega), hB7.trans (hb8.mono hB7.size)⟩
end Go.Proofs.YtfainlfiphdaeaaGreatDoor
