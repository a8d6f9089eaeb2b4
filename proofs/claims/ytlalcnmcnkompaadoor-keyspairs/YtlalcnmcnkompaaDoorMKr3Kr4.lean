/- keys, the reference: 'New', 'Pair', 'MacKey'. keys, the reference: 'New' of an author that may be. -/
import Derived.Test.YtlalcnmcnkompaaDoorMKr1Kr2
namespace Go.Proofs.YtlalcnmcnkompaaDoor
open Go.RowKit
set_option maxRecDepth 20000
set_option linter.unusedSimpArgs false

def rringC (own : Int) (seed : List Int) (v : Value) : List Value := [.int .u8 own] ++ seed.map (Value.int .u8) ++ [v]
theorem rringC_seed (own : Int) (seed : List Int) (v : Value) (hs : seed.length = 32) : ((rringC own seed v).drop 1).take 32 = seed.map (Value.int .u8) := by
  show (seed.map (Value.int .u8) ++ [v]).take 32 = _
  rw [List.take_left' (by simp [hs])]
theorem rringC_list (own : Int) (seed : List Int) (v : Value) (hs : seed.length = 32) : (rringC own seed v)[33]? = some v := by
  show (seed.map (Value.int .u8) ++ [v])[32]? = _
  rw [List.getElem?_append_right (by simp [hs])]; simp [hs]
theorem rringC_set (own : Int) (seed : List Int) (v v' : Value) (hs : seed.length = 32) : (rringC own seed v).set 33 v' = rringC own seed v' := by
  show (([.int .u8 own] : List Value) ++ seed.map (Value.int .u8) ++ [v]).set 33 v' = _
  rw [List.set_append_right _ _ (by simp [hs])]
  simp [hs, rringC]
section
variable (H : Nat) (own : Int) (seed : List Int) (v : Value) (w : World)
set_option maxHeartbeats 4000000 in
theorem refPair_any (p q : Int) (hR : CellsAt w H 72 (rringC own seed v)) (hs32 : seed.length = 32) :
    Calls Tryd.prog 14 #[.pointer (some ⟨H, 0, none⟩), .int .u8 p, .int .u8 q] w fun e w' => e = .returned (.agg (row .u8 (pairL seed p q))) ∧ Below w.heap.size w w' := by
  obtain ⟨Z, hZl, hZ⟩ : ∃ Z : List Int, Z.length = 32 ∧ Z = List.replicate 32 0 := ⟨_, rfl, rfl⟩
  have hB : Below w.heap.size w (w.alloc (.cells (row .u8 Z) 23)) := (Below.refl _ _).alloc (Nat.le_refl _) _
  have hr0 := Holds.new w .u8 23 Z
  have hPl : (pairL seed p q).length = 32 := derL_length _ _
  have HD : Veil (∀ W : World, Calls Tryd.prog 30 #[.agg (row .u8 seed), .string ⟨#[112, 97, 105, 114]⟩, .slice (some ⟨W.heap.size, 0, none⟩) 2 2] (W.alloc (.cells (row .u8 [minB p q, maxB p q]) 5)) fun e w' => e = .returned (.agg (row .u8 (pairL seed p q))) ∧ Below (W.alloc (.cells (row .u8 [minB p q, maxB p q]) 5)).heap.size (W.alloc (.cells (row .u8 [minB p q, maxB p q]) 5)) w') := ⟨fun W => rderive_any seed ⟨#[112, 97, 105, 114]⟩ _ 2 2 [minB p q, maxB p q] _ hs32 (by decide) (newB W [minB p q, maxB p q] 2 rfl (by simp)) (by omega)⟩
  obtain ⟨PL, hPL⟩ : ∃ z, pairL seed p q = z := ⟨_, rfl⟩
  rw [hPL] at HD hPl
  have HPL := Veil.mk hPL
  obtain ⟨mn, hmn⟩ : ∃ z, minB p q = z := ⟨_, rfl⟩
  obtain ⟨mx, hmx⟩ : ∃ z, maxB p q = z := ⟨_, rfl⟩
  rw [hmn, hmx] at HD
  have hmn' : (if q < p then q else p) = mn := hmn
  have hmx' : (if p < q then q else p) = mx := hmx
  clear hPL hmn hmx
  by_cases hpq : q < p
  · have em : mn = q := by rw [← hmn', if_pos hpq]
    have ex : mx = p := by rw [← hmx', if_neg (by omega)]
    rw [em, ex] at HD
    clear hmn' hmx' em ex
    go_enter Tryd.func14, Tryd.ntmps14
    go_upto_region 5 with fail
    refine forget (p := fun y => Code.wp _ _ _ _ y) (fun W => Below w.heap.size w W ∧ CellsAt W H 72 (rringC own seed v) ∧ Holds W w.heap.size .u8 23 Z) ⟨by rw [hZ] at hB; exact hB, by rw [hZ] at hB; exact hR.congr (hB.block _ hR.lt), by rw [hZ] at hr0 ⊢; exact hr0⟩ ?_
    clear hB hr0 hZ
    rintro W ⟨hB, hR0, hr0⟩
    have rS := hR0.range 1 32
    rw [rringC_seed _ _ _ hs32] at rS
    have iK : (Tryd.prog.info? 23).map (·.size) = some (seed.map (Value.int .u8)).length := by rw [List.length_map, hs32]; exact sizeKeyD
    have hd := HD.out W
    have hB2 := hB.alloc hB.size (.cells (row .u8 [q, p]) 5)
    have hr2 := hr0.alloc (.cells (row .u8 [q, p]) 5)
    clear hR0
    go_wp2_with (first
      | (refine wpList_ldv rfl 23 _ rfl _ _ rfl (seed.map (Value.int .u8)) rS Tryd.underlying23 rfl iK ?_)
      | (go_at_call 30; refine hd.mono ?_; rintro e w1 ⟨rfl, hb1⟩; have hr3 := hr2.below hb1 hr2.lt)
      | (refine wpList_st rfl 23 _ _ rfl _ rfl rfl hr3 (by rw [hPl]; exact sizeKeyD) (by rw [hZl, hPl]) ?_))
    refine bodyPost_ret (results_holds (Tryd.results14) _ rfl (hr3.setRow _) Tryd.underlying23 sizeKeyD hPl) rfl ⟨?_, ?_⟩
    · rw [HPL.out]
    · exact below_setRow (hB2.trans (hb1.mono hB2.size)) (Nat.le_refl _) _

  · have em : mn = p := by rw [← hmn', if_neg hpq]
    have ex : mx = q := by rw [← hmx']; split <;> omega
    rw [em, ex] at HD
    clear hmn' hmx' em ex
    go_enter Tryd.func14, Tryd.ntmps14
    go_upto_region 5 with fail
    refine forget (p := fun y => Code.wp _ _ _ _ y) (fun W => Below w.heap.size w W ∧ CellsAt W H 72 (rringC own seed v) ∧ Holds W w.heap.size .u8 23 Z) ⟨by rw [hZ] at hB; exact hB, by rw [hZ] at hB; exact hR.congr (hB.block _ hR.lt), by rw [hZ] at hr0 ⊢; exact hr0⟩ ?_
    clear hB hr0 hZ
    rintro W ⟨hB, hR0, hr0⟩
    have rS := hR0.range 1 32
    rw [rringC_seed _ _ _ hs32] at rS
    have iK : (Tryd.prog.info? 23).map (·.size) = some (seed.map (Value.int .u8)).length := by rw [List.length_map, hs32]; exact sizeKeyD
    have hd := HD.out W
    have hB2 := hB.alloc hB.size (.cells (row .u8 [p, q]) 5)
    have hr2 := hr0.alloc (.cells (row .u8 [p, q]) 5)
    clear hR0
    go_wp2_with (first
      | (refine wpList_ldv rfl 23 _ rfl _ _ rfl (seed.map (Value.int .u8)) rS Tryd.underlying23 rfl iK ?_)
      | (go_at_call 30; refine hd.mono ?_; rintro e w1 ⟨rfl, hb1⟩; have hr3 := hr2.below hb1 hr2.lt)
      | (refine wpList_st rfl 23 _ _ rfl _ rfl rfl hr3 (by rw [hPl]; exact sizeKeyD) (by rw [hZl, hPl]) ?_))
    refine bodyPost_ret (results_holds (Tryd.results14) _ rfl (hr3.setRow _) Tryd.underlying23 sizeKeyD hPl) rfl ⟨?_, ?_⟩
    · rw [HPL.out]
    · exact below_setRow (hB2.trans (hb1.mono hB2.size)) (Nat.le_refl _) _
set_option maxHeartbeats 4000000 in
theorem refMac_any (p : Int) (hR : CellsAt w H 72 (rringC own seed v)) (hs32 : seed.length = 32) :
    Calls Tryd.prog 16 #[.pointer (some ⟨H, 0, none⟩), .int .u8 p] w fun e w' => e = .returned (.agg (row .u8 (macL seed p))) ∧ Below w.heap.size w w' := by
  obtain ⟨Z, hZl, hZ⟩ : ∃ Z : List Int, Z.length = 32 ∧ Z = List.replicate 32 0 := ⟨_, rfl, rfl⟩
  have hB : Below w.heap.size w (w.alloc (.cells (row .u8 Z) 23)) := (Below.refl _ _).alloc (Nat.le_refl _) _
  have hr0 := Holds.new w .u8 23 Z
  have hPl : (macL seed p).length = 32 := derL_length _ _
  have HD : Veil (∀ W : World, Calls Tryd.prog 30 #[.agg (row .u8 seed), .string ⟨#[109, 97, 99]⟩, .slice (some ⟨W.heap.size, 0, none⟩) 1 1] (W.alloc (.cells (row .u8 [p]) 5)) fun e w' => e = .returned (.agg (row .u8 (macL seed p))) ∧ Below (W.alloc (.cells (row .u8 [p]) 5)).heap.size (W.alloc (.cells (row .u8 [p]) 5)) w') := ⟨fun W => rderive_any seed ⟨#[109, 97, 99]⟩ _ 1 1 [p] _ hs32 (by decide) (newB W [p] 1 rfl (by simp)) (by omega)⟩
  obtain ⟨PL, hPL⟩ : ∃ z, macL seed p = z := ⟨_, rfl⟩
  rw [hPL] at HD hPl
  have HPL := Veil.mk hPL
  clear hPL
  go_enter Tryd.func16, Tryd.ntmps16
  go_upto_region 3 with fail
  refine forget (p := fun y => Code.wp _ _ _ _ y) (fun W => Below w.heap.size w W ∧ CellsAt W H 72 (rringC own seed v) ∧ Holds W w.heap.size .u8 23 Z) ⟨by rw [hZ] at hB; exact hB, by rw [hZ] at hB; exact hR.congr (hB.block _ hR.lt), by rw [hZ] at hr0 ⊢; exact hr0⟩ ?_
  clear hB hr0 hZ
  rintro W ⟨hB, hR0, hr0⟩
  have rS := hR0.range 1 32
  rw [rringC_seed _ _ _ hs32] at rS
  have iK : (Tryd.prog.info? 23).map (·.size) = some (seed.map (Value.int .u8)).length := by rw [List.length_map, hs32]; exact sizeKeyD
  have hd := HD.out W
  have hB2 := hB.alloc hB.size (.cells (row .u8 [p]) 5)
  have hr2 := hr0.alloc (.cells (row .u8 [p]) 5)
  clear hR0
  go_wp2_with (first
    | (refine wpList_ldv rfl 23 _ rfl _ _ rfl (seed.map (Value.int .u8)) rS Tryd.underlying23 rfl iK ?_)
    | (go_at_call 30; refine hd.mono ?_; rintro e w1 ⟨rfl, hb1⟩; have hr3 := hr2.below hb1 hr2.lt)
    | (refine wpList_st rfl 23 _ _ rfl _ rfl rfl hr3 (by rw [hPl]; exact sizeKeyD) (by rw [hZl, hPl]) ?_))
  refine bodyPost_ret (results_holds (Tryd.results16) _ rfl (hr3.setRow _) Tryd.underlying23 sizeKeyD hPl) rfl ⟨?_, ?_⟩
  · rw [HPL.out]
  · exact below_setRow (hB2.trans (hb1.mono hB2.size)) (Nat.le_refl _) _
end
def rringZ : List Value := rringC 0 (List.replicate 32 0) (.slice none 0 0)
theorem rring_zero : (Tryd.prog.info? 72).map (·.zero) = some (some (.agg rringZ.toArray)) := by kernel_rfl
theorem rring_built (own : Int) (seed : List Int) (hs : seed.length = 32) (w : World) : (Instr.build 72 #[(0, .int .u8 own), (1, .agg (row .u8 seed))]).run Tryd.prog w = .ok (.agg (rringC own seed (.slice none 0 0)).toArray) w := by
  refine run_build w _ _ _ ?_
  rw [built_of rring_zero Tryd.underlying72 (by kernel_rfl) (places := [(0, 1), (1, 32), (33, 1)])]
  rw [fill_cons _ _ [.int .u8 own] 0 0 1 _ _ rfl rfl rfl (by decide), show rringZ.take 0 ++ [.int .u8 own] ++ rringZ.drop (0 + 1) = [Value.int .u8 own] ++ (List.replicate 32 (0 : Int)).map (Value.int .u8) ++ [.slice none 0 0] from rfl]
  rw [fill_cons _ _ (seed.map (Value.int .u8)) 1 1 32 _ _ rfl rfl (by simp [hs]) (Nat.le_of_ble_eq_true rfl), Instr.fill]
  rfl
theorem epoch_info : (Tryd.prog.info? 75).map (fun i => (i.zero, i.size, i.bytes)) = some (some (.agg (dotC 0 0 ++ (List.replicate 32 (0 : Int)).map (Value.int .u8)).toArray), 34, 40) := by kernel_rfl
theorem epoch_zero : (Tryd.prog.info? 75).map (·.zero) = some (some (.agg (dotC 0 0 ++ (List.replicate 32 (0 : Int)).map (Value.int .u8)).toArray)) := by kernel_rfl
def epC (a s : Int) (k : List Int) : List Value := dotC a s ++ k.map (Value.int .u8)
theorem epoch_built (a s : Int) (k : List Int) (hk : k.length = 32) (w : World) : (Instr.build 75 #[(0, .agg (dotC a s).toArray), (1, .agg (row .u8 k))]).run Tryd.prog w = .ok (.agg (epC a s k).toArray) w := by
  refine run_build w _ _ _ ?_
  rw [built_of epoch_zero Tryd.underlying75 (by kernel_rfl) (places := [(0, 2), (2, 32)])]
  rw [fill_cons _ _ (dotC a s) 0 0 2 _ _ rfl rfl rfl (Nat.le_of_ble_eq_true rfl), show (dotC 0 0 ++ (List.replicate 32 (0 : Int)).map (Value.int .u8)).take 0 ++ dotC a s ++ (dotC 0 0 ++ (List.replicate 32 (0 : Int)).map (Value.int .u8)).drop (0 + 2) = dotC a s ++ (List.replicate 32 (0 : Int)).map (Value.int .u8) from rfl]
  rw [fill_cons _ _ (k.map (Value.int .u8)) 1 2 32 _ _ rfl rfl (by simp [hk]) (Nat.le_of_ble_eq_true rfl), Instr.fill]
  show some ((dotC a s ++ k.map (Value.int .u8)) ++ []).toArray = _
  simp [epC]
set_option maxHeartbeats 4000000 in
theorem rnew_none (own : Int) (seed : List Int) (w : World) (h8 : 8 ≤ own) :
    Calls Tryd.prog 10 #[.int .u8 own, .agg (row .u8 seed)] w fun e w' => e = .returned (.pointer none) ∧ Below w.heap.size w w' := by
  have h7 : (7 : Int) < own := by omega
  go_enter Tryd.func10, Tryd.ntmps10
  go_wp2
  go_ret
  exact ⟨rfl, (Below.refl _ _).alloc (Nat.le_refl _) _⟩
end Go.Proofs.YtlalcnmcnkompaaDoor

namespace Go.Proofs.YtlalcnmcnkompaaDoor
open Go.RowKit
set_option maxRecDepth 20000
set_option linter.unusedSimpArgs false

def epsC (L : List ((Int × Int) × List Int)) : List Value := (L.map fun e => epC e.1.1 e.1.2 e.2).flatten
/-- The slice v holds the epochs L, in a row of its own. -/
def OwnE (w : World) (base : Nat) (v : Value) (L : List ((Int × Int) × List Int)) : Prop := w.ownsRow base 75 34 v L.length (epsC L)
def rnewL (own : Int) (seed : List Int) : List ((Int × Int) × List Int) := if own = 0 then [((0, 0), epochL seed)] else []
theorem epC_length (a s : Int) (k : List Int) (hk : k.length = 32) : (epC a s k).length = 34 := by simp [epC, dotC, hk]
set_option maxHeartbeats 4000000 in
theorem rnew_any (own : Int) (seed : List Int) (w : World) (h8 : own < 8) (hs : seed.length = 32) :
    Calls Tryd.prog 10 #[.int .u8 own, .agg (row .u8 seed)] w fun e w' => ∃ H v, e = .returned (.pointer (some ⟨H, 0, none⟩)) ∧ CellsAt w' H 72 (rringC own seed v) ∧ OwnE w' w.heap.size v (rnewL own seed) ∧ w.heap.size ≤ H ∧ Below w.heap.size w w' := by
  have HBU : Veil (∀ wx, (Instr.build 72 #[(0, .int .u8 own), (1, .agg (row .u8 seed))]).run Tryd.prog wx = .ok (.agg (rringC own seed (.slice none 0 0)).toArray) wx) := ⟨fun wx => rring_built own seed hs wx⟩
  have hk0 := Holds.new w .u8 23 seed
  have hB : Below w.heap.size w (w.alloc (.cells (row .u8 seed) 23)) := (Below.refl _ _).alloc (Nat.le_refl _) _
  have hn7 : ¬ 7 < own := by omega
  go_enter Tryd.func10, Tryd.ntmps10
  go_upto_region 3 with fail
  refine forget (p := fun y => Code.wp _ _ _ _ y) (fun W => Below w.heap.size w W ∧ Holds W w.heap.size .u8 23 seed) ⟨hB, hk0⟩ ?_
  clear hB hk0
  rintro W ⟨hB, hk0⟩
  go_upto_region 4 with (first
    | (refine wpList_ld rfl 23 _ rfl _ rfl hk0 Tryd.underlying23 sizeKeyD hs ?_)
    | (refine wpList_bldx rfl 72 _ rfl #[(0, .int .u8 own), (1, .agg (row .u8 seed))] (by first | rfl | kernel_rfl) _ (HBU.out _) ?_))
  have hx1 := CellsAt.new W 72 (rringC own seed (.slice none 0 0))
  have hB1 := hB.alloc hB.size (.cells (rringC own seed (.slice none 0 0)).toArray 72)
  have hk1 := hk0.alloc (.cells (rringC own seed (.slice none 0 0)).toArray 72)
  refine forget (p := fun y => Code.wp _ _ _ _ y) (fun V => Below w.heap.size w V ∧ Holds V w.heap.size .u8 23 seed ∧ CellsAt V W.heap.size 72 (rringC own seed (.slice none 0 0))) ⟨hB1, hk1, hx1⟩ ?_
  have hWl : w.heap.size < W.heap.size := hk0.lt
  clear hx1 hB1 hk1 hB hk0 HBU
  obtain ⟨G, hG⟩ : ∃ q, W.heap.size = q := ⟨_, rfl⟩
  rw [hG] at hWl ⊢
  clear hG
  clear W
  rintro W ⟨hB, hk0, hx⟩
  by_cases h0 : own = 0
  · subst h0
    have hd := rderive_any seed ⟨#[101, 112, 111, 99, 104]⟩ none 0 0 [] W hs (by decide) (bytes_nil W) (by omega)
    have hdl : (epochL seed).length = 32 := derL_length _ _
    rw [show derL seed (wordL ⟨#[101, 112, 111, 99, 104]⟩ ++ []) = epochL seed from rfl] at hd
    have HEB : Veil (∀ wx, (Instr.build 75 #[(0, .agg (dotC 0 0).toArray), (1, .agg (row .u8 (epochL seed)))]).run Tryd.prog wx = .ok (.agg (epC 0 0 (epochL seed)).toArray) wx) := ⟨fun wx => epoch_built 0 0 _ hdl wx⟩
    have hEl := epC_length 0 0 _ hdl
    have HN : Veil (rnewL 0 seed = [((0, 0), epochL seed)] ∧ epsC [((0, 0), epochL seed)] = epC 0 0 (epochL seed)) := ⟨if_pos rfl, by simp [epsC]⟩
    obtain ⟨iw, hiw, hwz, hws, hwb⟩ := info_parts epoch_info
    obtain ⟨EL, hEL⟩ : ∃ q, epochL seed = q := ⟨_, rfl⟩
    rw [hEL] at hd hdl HN HEB hEl
    obtain ⟨EC, hEC⟩ : ∃ q, epC 0 0 EL = q := ⟨_, rfl⟩
    rw [hEC] at HEB hEl HN
    clear hEL hEC
    have HFILL : ∀ (vs : List Value), vs.length = 34 → Instr.fill (fun i => some (i * 34, 34)) ((Array.range (1 * 34)).map ((Value.agg (dotC 0 0 ++ (List.replicate 32 (0 : Int)).map (Value.int .u8)).toArray).cells[· % (Value.agg (dotC 0 0 ++ (List.replicate 32 (0 : Int)).map (Value.int .u8)).toArray).cells.size]!)) [(0, .agg vs.toArray)] = some vs.toArray := fun vs hv => by
      have hz : ((Array.range (1 * 34)).map ((Value.agg (dotC 0 0 ++ (List.replicate 32 (0 : Int)).map (Value.int .u8)).toArray).cells[· % (Value.agg (dotC 0 0 ++ (List.replicate 32 (0 : Int)).map (Value.int .u8)).toArray).cells.size]!)) = (dotC 0 0 ++ (List.replicate 32 (0 : Int)).map (Value.int .u8)).toArray := by kernel_rfl
      rw [hz, fill_cons _ _ vs 0 0 34 _ _ rfl rfl hv (Nat.le_of_ble_eq_true rfl), Instr.fill]
      simp [dotC]
    have HF : Veil (Instr.fill (fun i => some (i * 34, 34)) ((Array.range (1 * 34)).map ((Value.agg (dotC 0 0 ++ (List.replicate 32 (0 : Int)).map (Value.int .u8)).toArray).cells[· % (Value.agg (dotC 0 0 ++ (List.replicate 32 (0 : Int)).map (Value.int .u8)).toArray).cells.size]!)) [(0, .agg EC.toArray)] = some EC.toArray) := ⟨HFILL EC hEl⟩
    have HC33 : Veil (∀ W1, Below W.heap.size W W1 → CellsAt (W1.alloc (.cells EC.toArray 75)) G 72 (rringC 0 seed (.slice none 0 0))) := ⟨fun W1 hb => (hx.congr (hb.block _ hx.lt)).alloc _⟩
    clear HFILL
    go_wp2_with (first
      | (refine wpList_ld rfl 23 _ rfl _ rfl hk0 Tryd.underlying23 sizeKeyD hs ?_)
      | (go_at_call 30; refine hd.mono ?_; rintro e w1 ⟨rfl, hb1⟩; have hx1 := HC33.out w1 hb1; have c33 := hx1.cell 33; rw [rringC_list _ _ _ hs] at c33; have f33 := hx1.frozen 33)
      | (refine wpList_bldx rfl 75 _ rfl #[(0, .agg (dotC 0 0).toArray), (1, .agg (row .u8 EL))] (by first | rfl | kernel_rfl) _ (HEB.out _) ?_)
      | (refine wpList_buildSlice rfl 70 75 1 _ rfl EC.toArray iw _ Tryd.underlying70 hiw hwz (by rw [hws]; decide) (by rw [hws]; decide) (by rw [hws]; refine Eq.trans (congrArg (Instr.fill _ _) (show _ = [(0, Value.agg EC.toArray)] by first | rfl | kernel_rfl)) HF.out) ?_))
    go_ret
    have hB1 := hB.trans (hb1.mono hB.size)
    have hgl : G < w1.heap.size := Nat.lt_of_lt_of_le hx.lt hb1.size
    have hset := hx1.set 33 (.slice (some ⟨w1.heap.size, 0, none⟩) 1 1)
    rw [rringC_set _ _ _ _ hs] at hset
    refine ⟨G, .slice (some ⟨w1.heap.size, 0, none⟩) 1 1, rfl, hset, ?_, by omega, (hB1.alloc hB1.size _).setCell (by show w.heap.size ≤ G; omega) _⟩
    rw [HN.out.1]
    refine ⟨by rw [HN.out.2, hEl]; rfl, .inr ⟨w1.heap.size, 1, EC.toArray, rfl, hB1.size, ?_, Nat.le_refl 1, by simp [maxLen], by simp [hEl], ?_⟩⟩
    · rw [Below.heap_setCell _ _ _ _ (by show w1.heap.size ≠ G; omega)]; exact heap_alloc_new w1 _
    · rw [HN.out.2]; show List.take (1 * 34) EC = EC; exact List.take_of_length_le (by omega)
  · have HN : Veil (rnewL own seed = []) := ⟨if_neg h0⟩
    have h0' : (own == 0) = false := by simpa using h0
    go_wp2
    go_ret
    refine ⟨G, rfl, .slice none 0 0, hx, ?_, by omega, hB⟩
    rw [HN.out]; exact World.ownsRow_nil _ _ _ _
end Go.Proofs.YtlalcnmcnkompaaDoor
