/- Kr2 Kr3 Kr4 Bt -/
import Derived.Test.YtfainlfiphdaeaaGreatDoorQ32
import Derived.Test.YtfainlfiphdaeaaGreatDoorQ34
import Derived.Test.YtfainlfiphdaeaaGreatDoorQ31
import Derived.Test.YtfainlfiphdaeaaGreatDoorQ30
namespace Go.Proofs.YtfainlfiphdaeaaGreatDoor
open Go.RowKit
set_option maxRecDepth 20000
set_option linter.unusedSimpArgs false
theorem rexpandK_any (k : List Int) (y : Option Addr) (lb cb : Nat) (b : List Int) (w : World) (hk : k.length = 32) (hy : Bytes w y lb cb b) (hlb : lb ≤ 100000) :
    Calls Tryz.prog 143 #[.agg (row .u8 k), .slice y lb cb, .int .i64 32] w fun e w' => ∃ x c, e = .returned (.tuple #[.slice x 32 c, .int .i64 0]) ∧ Bytes w' x 32 c (derL k b) ∧ Below w.heap.size w w' :=
  (S.refExpand_any k y lb cb b 32 w hk hy.toS hlb (by omega)).mono fun e w' ⟨x, c, h1, h2, h3⟩ => ⟨x, c, h1, ⟨h2.1, h2.2, h2.3, h2.4, h2.5⟩, h3⟩
set_option maxHeartbeats 4000000 in
theorem rderive_any (k : List Int) (ws : ByteArray) (x : Option Addr) (n c : Nat) (m : List Int) (w : World) (hk : k.length = 32) (hws : ws.size ≤ 1000) (hm : Bytes w x n c m) (hn : n ≤ 1000) :
    Calls Tryz.prog 98 #[.agg (row .u8 k), .string ws, .slice x n c] w fun e w' => e = .returned (.agg (row .u8 (derL k (wordL ws ++ m)))) ∧ Below w.heap.size w w' := by
  have hk0 := Holds.new w .u8 23 k
  have HML : Veil (n = m.length ∧ (wordL ws).length = ws.size) := ⟨hm.len_eq, wordL_length ws⟩
  obtain ⟨Z, hZl, hZ⟩ : ∃ Z : List Int, Z.length = 32 ∧ Z = List.replicate 32 0 := ⟨_, rfl, rfl⟩
  have hr0 := Holds.new (w.alloc (.cells (row .u8 k) 23)) .u8 23 Z
  rw [World.size_alloc] at hr0
  have hk1 := hk0.alloc (.cells (row .u8 Z) 23)
  have hB : Below w.heap.size w ((w.alloc (.cells (row .u8 k) 23)).alloc (.cells (row .u8 Z) 23)) := ((Below.refl _ _).alloc (Nat.le_refl _) _).alloc (by simp) _
  go_enter Tryz.func98, Tryz.ntmps98
  go_upto_region 1 with fail
  refine forget (p := fun y => Code.wp _ _ _ _ y) (fun W => Below w.heap.size w W ∧ Holds W w.heap.size .u8 23 k ∧ Holds W (w.heap.size + 1) .u8 23 Z) ⟨by rw [hZ] at hB; exact hB, by rw [hZ] at hk1; exact hk1, by rw [hZ] at hr0 ⊢; exact hr0⟩ ?_
  clear hB hk1 hr0 hk0 hZ
  rintro W ⟨hB, hk0, hr0⟩
  have uK : Tryz.prog.underlying 23 = _ := Tryz.underlying23
  have iK : (Tryz.prog.info? 23).map (·.size) = some (k.map (Value.int .u8)).length := by rw [List.length_map, hk]; exact sizeKeyD
  have HK : ∀ W' : World, Holds W' w.heap.size .u8 23 k → W'.rangeAt w.heap.size 0 (k.map (Value.int .u8)) := fun W' h => by
    have := h.cellsAt.range 0 32
    rw [List.drop_zero, List.take_of_length_le (by simp [hk])] at this
    exact this
  refine wp_region_gate (fun w' => w'.rangeAt w.heap.size 0 (k.map (Value.int .u8))) 5 (by kernel_rfl) ?_
  have hS := HK W.drew hk0
  refine wpAnyG_load (i := 0) (dst := some 12) (ty := 23) (x := .tmp 3) (b := w.heap.size) (o := (0)) (cs := (k.map (Value.int .u8))) (by kernel_rfl) (by kernel_rfl) (by kernel_rfl) (by kernel_rfl) (by kernel_rfl) (fun _ _ _ h => h) (by kernel_rfl) (by kernel_rfl) (by kernel_rfl) hS (by kernel_rfl) (fun _ h => h) uK rfl iK ?_
  simp only [Act.put, List.getElem_toArray, List.getElem_cons_succ, List.getElem_cons_zero, List.setIfInBounds_toArray, List.set_cons_zero, List.set_cons_succ]
  refine wpAnyG_any (i := 1) (v := ?_) rfl (by kernel_rfl) (by kernel_rfl) (by kernel_rfl) (fun _ _ _ h => h) (by kernel_rfl) (fun _ => hS) (by kernel_rfl) ?_ ?_
  rotate_left
  · intro _; go_simp; try with_reducible rfl
  simp only [Act.put, List.getElem_toArray, List.getElem_cons_succ, List.getElem_cons_zero, List.setIfInBounds_toArray, List.set_cons_zero, List.set_cons_succ]
  refine wpAnyG_any (i := 3) (v := ?_) rfl (by kernel_rfl) (by kernel_rfl) (by kernel_rfl) (fun _ _ _ h => h) (by kernel_rfl) (fun _ => hS) (by kernel_rfl) ?_ ?_
  rotate_left
  · intro _; go_simp; try with_reducible rfl
  simp only [Act.put, List.getElem_toArray, List.getElem_cons_succ, List.getElem_cons_zero, List.setIfInBounds_toArray, List.set_cons_zero, List.set_cons_succ]
  refine wpAnyG_one (i := 2) rfl (by kernel_rfl) (by kernel_rfl) (fun K hK => ?_)
  obtain ⟨c2, W2, hrun2, hc2, hcm2, hrow2, hB2, hs2⟩ := conv_word2 ws W.drew hws
  refine wpx_conv _ _ _ rfl _ _ _ rfl hrun2 ?_
  have hb02 : Below W.heap.size W W2 := Below.trans (Below.refl _ W).drew hB2
  have hk2 := hk0.below hb02 hk0.lt
  have hr2 := hr0.below hb02 hr0.lt
  have hBw2 : Below w.heap.size w W2 := hB.trans (hb02.mono hB.size)
  have hg2w : w.heap.size + 1 < W.drew.heap.size := hr0.lt
  obtain ⟨g2, hg2⟩ : ∃ g2, W.drew.heap.size = g2 := ⟨_, rfl⟩
  rw [hg2] at hrow2 hs2 hg2w ⊢
  clear hrun2 hB2 hb02 hk0 hr0 hB hg2
  replace hS := HK W2 hk2
  refine hK.out _ _ (fun _ => hS) ?_
  clear hK K
  try simp only [Act.put, List.getElem_toArray, List.getElem_cons_succ, List.getElem_cons_zero, List.setIfInBounds_toArray, List.set_cons_zero, List.set_cons_succ]
  refine wpAnyG_one (i := 4) rfl (by kernel_rfl) (by kernel_rfl) (fun K hK => ?_)
  obtain ⟨x3, n3, c3, W3, hrun3, hb3, hB3⟩ := app_word ws W2 g2 c2 _ hrow2 hc2 hcm2 x n c m (hm.below hBw2) hn hws (fun b off hx hn0 => by
    rcases hm.at_ with h0 | ⟨b', off', hx', hcs⟩
    · omega
    · rw [hx] at hx'; cases hx'
      have := block_lt_of_cell (hcs 0 hn0)
      simp at this
      omega)
  refine wpx_app _ _ _ _ rfl _ _ _ _ rfl rfl hrun3 ?_
  have hk3 := hk2.below hB3 (by omega)
  have hr3 := hr2.below hB3 (by omega)
  have hBw3 : Below w.heap.size w W3 := hBw2.trans (hB3.mono (by omega))
  replace hS := HK W3 hk3
  refine hK.out _ _ (fun _ => hS) ?_
  clear hK K
  try simp only [Act.put, List.getElem_toArray, List.getElem_cons_succ, List.getElem_cons_zero, List.setIfInBounds_toArray, List.set_cons_zero, List.set_cons_succ]
  have hn3 : n3 ≤ 100000 := by have := hb3.len_eq; rw [List.length_append] at this; have := HML.out; omega
  have he := rexpandK_any k x3 n3 c3 _ W3 hk hb3 hn3
  clear hk2 hr2 hrow2 hrun3 hb3 hB3
  refine wpAnyG_one (i := 5) rfl (by kernel_rfl) (by kernel_rfl) (fun K hK => ?_)
  refine wpx_call _ _ (by kernel_rfl) (he.mono ?_)
  rintro e W6 ⟨x6, c6, rfl, hby, hb6⟩
  refine ⟨_, rfl, ?_⟩
  have hB6 := hBw3.trans (hb6.mono hBw3.size)
  have hr6 := hr3.below hb6 hr3.lt
  refine hK.out _ _ (fun h => absurd (show true = false from h) (by decide)) ?_
  clear hK K
  try simp only [Act.put, List.getElem_toArray, List.getElem_cons_succ, List.getElem_cons_zero, List.setIfInBounds_toArray, List.set_cons_zero, List.set_cons_succ]
  refine wpAnyG_any (i := 6) (v := ?_) rfl (by kernel_rfl) (by kernel_rfl) (by kernel_rfl) (fun _ _ _ h => h) (by kernel_rfl) (fun h => absurd (show true = false from h) (by decide)) (by kernel_rfl) ?_ ?_
  rotate_left
  · intro _; go_simp; try with_reducible rfl
  simp only [Act.put, List.getElem_toArray, List.getElem_cons_succ, List.getElem_cons_zero, List.setIfInBounds_toArray, List.set_cons_zero, List.set_cons_succ]
  refine wpAnyG_any (i := 7) (v := ?_) rfl (by kernel_rfl) (by kernel_rfl) (by kernel_rfl) (fun _ _ _ h => h) (by kernel_rfl) (fun h => absurd (show true = false from h) (by decide)) (by kernel_rfl) ?_ ?_
  rotate_left
  · intro _; go_simp; try with_reducible rfl
  simp only [Act.put, List.getElem_toArray, List.getElem_cons_succ, List.getElem_cons_zero, List.setIfInBounds_toArray, List.set_cons_zero, List.set_cons_succ]
  refine wpAnyG_any (i := 8) (v := ?_) rfl (by kernel_rfl) (by kernel_rfl) (by kernel_rfl) (fun _ _ _ h => h) (by kernel_rfl) (fun h => absurd (show true = false from h) (by decide)) (by kernel_rfl) ?_ ?_
  rotate_left
  · intro _; go_simp; try with_reducible rfl
  simp only [Act.put, List.getElem_toArray, List.getElem_cons_succ, List.getElem_cons_zero, List.setIfInBounds_toArray, List.set_cons_zero, List.set_cons_succ]
  refine wpAnyG_any (i := 9) (v := ?_) rfl (by kernel_rfl) (by kernel_rfl) (by kernel_rfl) (fun _ _ _ h => h) (by kernel_rfl) (fun h => absurd (show true = false from h) (by decide)) (by kernel_rfl) ?_ ?_
  rotate_left
  · intro _; go_simp; try with_reducible rfl
  simp only [Act.put, List.getElem_toArray, List.getElem_cons_succ, List.getElem_cons_zero, List.setIfInBounds_toArray, List.set_cons_zero, List.set_cons_succ]
  refine wpAnyG_any (i := 10) (v := ?_) rfl (by kernel_rfl) (by kernel_rfl) (by kernel_rfl) (fun _ _ _ h => h) (by kernel_rfl) (fun h => absurd (show true = false from h) (by decide)) (by kernel_rfl) ?_ ?_
  rotate_left
  · intro _; go_simp; try with_reducible rfl
  simp only [Act.put, List.getElem_toArray, List.getElem_cons_succ, List.getElem_cons_zero, List.setIfInBounds_toArray, List.set_cons_zero, List.set_cons_succ]
  refine wpAnyG_done (by kernel_rfl) ?_ _
  have hdl := derL_length k (wordL ws ++ m)
  obtain ⟨DK, hDK⟩ : ∃ q, derL k (wordL ws ++ m) = q := ⟨_, rfl⟩
  have HDK := Veil.mk hDK
  rw [hDK] at hby hdl
  obtain ⟨g6, o6, rfl, hcs6⟩ : ∃ b off, x6 = some ⟨b, off, none⟩ ∧ ∀ j, j < 32 → W6.cell? ⟨b, off + j, none⟩ = some (.int .u8 (DK[j]?.getD 0)) := by
    rcases hby.at_ with h0 | h
    · omega
    · exact h
  have HDL := Veil.mk hdl
  have hl6 : w.heap.size + 1 < W6.heap.size := hr6.lt
  clear hDK he hk3 hr3 hS hBw3 hb6 iK uK HK hdl
  go_upto_region 3 with fail
  have hbn : Below W6.heap.size W6 (W6.alloc (.cells (row .u8 (List.replicate 32 0)) 23)) := (Below.refl _ _).alloc (Nat.le_refl _) _
  have hgn := Holds.new W6 .u8 23 (List.replicate 32 0)
  refine forget (p := fun y => Code.wp _ _ _ _ y) (fun V => Below w.heap.size w V ∧ Holds V (w.heap.size + 1) .u8 23 Z ∧ Bytes V (some ⟨g6, o6, none⟩) 32 c6 DK ∧ Holds V W6.heap.size .u8 23 (List.replicate 32 0)) ⟨hB6.trans (hbn.mono hB6.size), hr6.below hbn hr6.lt, hby.below hbn, hgn⟩ ?_
  have hg6l : g6 ≠ W6.heap.size := fun e => by
    have := block_lt_of_cell (hcs6 0 (by omega))
    simp at this
    omega
  obtain ⟨G, hG⟩ : ∃ q, W6.heap.size = q := ⟨_, rfl⟩
  rw [hG] at hl6 hg6l ⊢
  clear hbn hby hr6 hB6 hG hgn hcs6
  rintro V ⟨hB, hr, hb, hg⟩
  go_wp2_with fail
  go_loopw [10] (fun iv wr => ∃ i : Nat, i ≤ 32 ∧ iv = .int .i64 i ∧ Below w.heap.size w wr ∧ Holds wr (w.heap.size + 1) .u8 23 Z ∧ Bytes wr (some ⟨g6, o6, none⟩) 32 c6 DK ∧ Holds wr G .u8 23 (DK.take i ++ List.replicate (32 - i) 0)) (fun iv _ => 32 - (intOf iv).toNat)
  case atStart => exact ⟨0, by omega, rfl, hB, hr, hb, by rw [List.take_zero, List.nil_append]; exact hg⟩
  case round =>
    clear hB hr hb hg
    obtain ⟨i, hi, rfl, hB, hr, hb, hg⟩ := hrel
    by_cases hlt : i < 32
    · have hcap := hb.le
      have hc1 : wr.cell? ⟨g6, o6 + i, none⟩ = some (.int .u8 (DK[i]?.getD 0)) := by
        rcases hb.at_ with h0 | ⟨b', off', hx', hcs⟩
        · omega
        · cases hx'
          exact hcs i hlt
      have hgl : (DK.take i ++ List.replicate (32 - i) 0).length = 32 := by rw [List.length_append, List.length_take, List.length_replicate, HDL.out]; omega
      have hc2 := hg.cell i (by omega)
      have hf2 := hg.frozen i
      have hi0 : (0 : Int) ≤ (i : Int) := by omega
      have hi1 : (i : Int) < 32 := by omega
      have HST : Veil ((DK.take i ++ List.replicate (32 - i) 0).set i (DK[i]?.getD 0) = DK.take (i + 1) ++ List.replicate (32 - (i + 1)) 0) := ⟨by
        have hl := HDL.out
        rw [take_next DK i (by omega), show 32 - i = (32 - (i + 1)) + 1 by omega]
        have := set_next (DK.take i) (32 - (i + 1)) (DK[i]?.getD 0)
        rw [List.length_take, show min i DK.length = i by omega] at this
        exact this⟩
      obtain ⟨q, hq⟩ : ∃ q, DK[i]?.getD 0 = q := ⟨_, rfl⟩
      rw [hq] at hc1 HST
      have hs1 := hg.set i q
      rw [HST.out] at hs1
      have hr1 := hr.setOther ⟨G, i, none⟩ (.int .u8 q) (by simp; omega)
      have hb1 : Bytes (wr.setCell ⟨G, i, none⟩ (.int .u8 q)) (some ⟨g6, o6, none⟩) 32 c6 DK := ⟨hb.len_eq, hb.le, hb.top, hb.nil, by
        rcases hb.at_ with h0 | ⟨b', off', hx', hcs⟩
        · exact .inl h0
        · cases hx'
          exact .inr ⟨_, _, rfl, fun j hj => by rw [World.cell?_of_block (w := wr) (Below.heap_setCell wr _ _ _ hg6l)]; exact hcs j hj⟩⟩
      have hB1 := hB.setCell (p := ⟨G, i, none⟩) (by show w.heap.size ≤ G; omega) (.int .u8 q)
      clear hq hb HST
      go_wp2
      go_roundw
      case rel => exact ⟨i + 1, by omega, by go_num, hB1, hr1, hb1, hs1⟩
      case measure => simp [intOf]; omega
    · obtain rfl : i = 32 := by omega
      have hl := HDL.out
      rw [show DK.take 32 ++ List.replicate (32 - 32) 0 = DK by rw [List.take_of_length_le (by omega)]; simp] at hg
      go_wp2_with (first
        | (refine wpList_ld rfl 23 _ rfl _ rfl hg Tryz.underlying23 sizeKeyD hl ?_)
        | (refine wpList_st rfl 23 _ _ rfl _ rfl rfl hr (by rw [hl]; exact sizeKeyD) (by rw [hZl, hl]) ?_))
      refine bodyPost_ret (results_holds (Tryz.results98) _ rfl (hr.setRow _) Tryz.underlying23 sizeKeyD hl) rfl ⟨?_, ?_⟩
      · rw [HDK.out]
      · exact below_setRow hB (by omega) _
end Go.Proofs.YtfainlfiphdaeaaGreatDoor
namespace Go.Proofs.YtfainlfiphdaeaaGreatDoor
open Go.RowKit
set_option maxRecDepth 20000
set_option linter.unusedSimpArgs false
def rringC (own : Int) (seed : List Int) (v : Value) : List Value := [.int .u8 own] ++ seed.map (Value.int .u8) ++ [v]
theorem rringC_list (own : Int) (seed : List Int) (v : Value) (hs : seed.length = 32) : (rringC own seed v)[33]? = some v := by
  show (seed.map (Value.int .u8) ++ [v])[32]? = _
  rw [List.getElem?_append_right (by simp [hs])]; simp [hs]
theorem rringC_set (own : Int) (seed : List Int) (v v' : Value) (hs : seed.length = 32) : (rringC own seed v).set 33 v' = rringC own seed v' := by
  show (([.int .u8 own] : List Value) ++ seed.map (Value.int .u8) ++ [v]).set 33 v' = _
  rw [List.set_append_right _ _ (by simp [hs])]
  simp [hs, rringC]
section
variable (H : Nat) (own : Int) (seed : List Int) (v : Value) (w : World)
end
def rringZ : List Value := rringC 0 (List.replicate 32 0) (.slice none 0 0)
theorem rring_zero : (Tryz.prog.info? 135).map (·.zero) = some (some (.agg rringZ.toArray)) := by kernel_rfl
theorem rring_built (own : Int) (seed : List Int) (hs : seed.length = 32) (w : World) : (Instr.build 135 #[(0, .int .u8 own), (1, .agg (row .u8 seed))]).run Tryz.prog w = .ok (.agg (rringC own seed (.slice none 0 0)).toArray) w := by
  refine run_build w _ _ _ ?_
  rw [built_of rring_zero Tryz.underlying135 (by kernel_rfl) (places := [(0, 1), (1, 32), (33, 1)])]
  rw [fill_cons _ _ [.int .u8 own] 0 0 1 _ _ rfl rfl rfl (by decide), show rringZ.take 0 ++ [.int .u8 own] ++ rringZ.drop (0 + 1) = [Value.int .u8 own] ++ (List.replicate 32 (0 : Int)).map (Value.int .u8) ++ [.slice none 0 0] from rfl]
  rw [fill_cons _ _ (seed.map (Value.int .u8)) 1 1 32 _ _ rfl rfl (by simp [hs]) (Nat.le_of_ble_eq_true rfl), Instr.fill]
  rfl
theorem epoch_info : (Tryz.prog.info? 138).map (fun i => (i.zero, i.size, i.bytes)) = some (some (.agg (dotC 0 0 ++ (List.replicate 32 (0 : Int)).map (Value.int .u8)).toArray), 34, 40) := by kernel_rfl
theorem epoch_zero : (Tryz.prog.info? 138).map (·.zero) = some (some (.agg (dotC 0 0 ++ (List.replicate 32 (0 : Int)).map (Value.int .u8)).toArray)) := by kernel_rfl
def epC (a s : Int) (k : List Int) : List Value := dotC a s ++ k.map (Value.int .u8)
theorem epoch_built (a s : Int) (k : List Int) (hk : k.length = 32) (w : World) : (Instr.build 138 #[(0, .agg (dotC a s).toArray), (1, .agg (row .u8 k))]).run Tryz.prog w = .ok (.agg (epC a s k).toArray) w := by
  refine run_build w _ _ _ ?_
  rw [built_of epoch_zero Tryz.underlying138 (by kernel_rfl) (places := [(0, 2), (2, 32)])]
  rw [fill_cons _ _ (dotC a s) 0 0 2 _ _ rfl rfl rfl (Nat.le_of_ble_eq_true rfl), show (dotC 0 0 ++ (List.replicate 32 (0 : Int)).map (Value.int .u8)).take 0 ++ dotC a s ++ (dotC 0 0 ++ (List.replicate 32 (0 : Int)).map (Value.int .u8)).drop (0 + 2) = dotC a s ++ (List.replicate 32 (0 : Int)).map (Value.int .u8) from rfl]
  rw [fill_cons _ _ (k.map (Value.int .u8)) 1 2 32 _ _ rfl rfl (by simp [hk]) (Nat.le_of_ble_eq_true rfl), Instr.fill]
  show some ((dotC a s ++ k.map (Value.int .u8)) ++ []).toArray = _
  simp [epC]
end Go.Proofs.YtfainlfiphdaeaaGreatDoor
namespace Go.Proofs.YtfainlfiphdaeaaGreatDoor
open Go.RowKit
set_option maxRecDepth 20000
set_option linter.unusedSimpArgs false
def epsC (L : List ((Int × Int) × List Int)) : List Value := (L.map fun e => epC e.1.1 e.1.2 e.2).flatten
def OwnE (w : World) (base : Nat) (v : Value) (L : List ((Int × Int) × List Int)) : Prop := w.ownsRow base 138 34 v L.length (epsC L)
def rnewL (own : Int) (seed : List Int) : List ((Int × Int) × List Int) := if own = 0 then [((0, 0), epochL seed)] else []
theorem epC_length (a s : Int) (k : List Int) (hk : k.length = 32) : (epC a s k).length = 34 := by simp [epC, dotC, hk]
set_option maxHeartbeats 4000000 in
theorem rnew_any (own : Int) (seed : List Int) (w : World) (h8 : own < 8) (hs : seed.length = 32) :
    Calls Tryz.prog 39 #[.int .u8 own, .agg (row .u8 seed)] w fun e w' => ∃ H v, e = .returned (.pointer (some ⟨H, 0, none⟩)) ∧ CellsAt w' H 135 (rringC own seed v) ∧ OwnE w' w.heap.size v (rnewL own seed) ∧ w.heap.size ≤ H ∧ Below w.heap.size w w' := by
  have HBU : Veil (∀ wx, (Instr.build 135 #[(0, .int .u8 own), (1, .agg (row .u8 seed))]).run Tryz.prog wx = .ok (.agg (rringC own seed (.slice none 0 0)).toArray) wx) := ⟨fun wx => rring_built own seed hs wx⟩
  have hk0 := Holds.new w .u8 23 seed
  have hB : Below w.heap.size w (w.alloc (.cells (row .u8 seed) 23)) := (Below.refl _ _).alloc (Nat.le_refl _) _
  have hn7 : ¬ 7 < own := by omega
  go_enter Tryz.func39, Tryz.ntmps39
  go_upto_region 3 with fail
  refine forget (p := fun y => Code.wp _ _ _ _ y) (fun W => Below w.heap.size w W ∧ Holds W w.heap.size .u8 23 seed) ⟨hB, hk0⟩ ?_
  clear hB hk0
  rintro W ⟨hB, hk0⟩
  go_upto_region 4 with (first
    | (refine wpList_ld rfl 23 _ rfl _ rfl hk0 Tryz.underlying23 sizeKeyD hs ?_)
    | (refine wpList_bldx rfl 135 _ rfl #[(0, .int .u8 own), (1, .agg (row .u8 seed))] (by first | rfl | kernel_rfl) _ (HBU.out _) ?_))
  have hx1 := CellsAt.new W 135 (rringC own seed (.slice none 0 0))
  have hB1 := hB.alloc hB.size (.cells (rringC own seed (.slice none 0 0)).toArray 135)
  have hk1 := hk0.alloc (.cells (rringC own seed (.slice none 0 0)).toArray 135)
  refine forget (p := fun y => Code.wp _ _ _ _ y) (fun V => Below w.heap.size w V ∧ Holds V w.heap.size .u8 23 seed ∧ CellsAt V W.heap.size 135 (rringC own seed (.slice none 0 0))) ⟨hB1, hk1, hx1⟩ ?_
  have hWl : w.heap.size < W.heap.size := hk0.lt
  clear hx1 hB1 hk1 hB hk0 HBU
  obtain ⟨G, hG⟩ : ∃ q, W.heap.size = q := ⟨_, rfl⟩
  rw [hG] at hWl ⊢
  clear hG
  clear W
  rintro W ⟨hB, hk0, hx⟩
  by_cases h0 : own = 0
  · subst h0
    have hd := rderive_any seed ⟨#[101, 112, 111, 99, 104]⟩ none 0 0 [] W hs (by decide) (bytes_nil W) (by omega)
    have hdl : (epochL seed).length = 32 := derL_length _ _
    rw [show derL seed (wordL ⟨#[101, 112, 111, 99, 104]⟩ ++ []) = epochL seed from rfl] at hd
    have HEB : Veil (∀ wx, (Instr.build 138 #[(0, .agg (dotC 0 0).toArray), (1, .agg (row .u8 (epochL seed)))]).run Tryz.prog wx = .ok (.agg (epC 0 0 (epochL seed)).toArray) wx) := ⟨fun wx => epoch_built 0 0 _ hdl wx⟩
    have hEl := epC_length 0 0 _ hdl
    have HN : Veil (rnewL 0 seed = [((0, 0), epochL seed)] ∧ epsC [((0, 0), epochL seed)] = epC 0 0 (epochL seed)) := ⟨if_pos rfl, by simp [epsC]⟩
    obtain ⟨iw, hiw, hwz, hws, hwb⟩ := info_parts epoch_info
    obtain ⟨EL, hEL⟩ : ∃ q, epochL seed = q := ⟨_, rfl⟩
    rw [hEL] at hd hdl HN HEB hEl
    obtain ⟨EC, hEC⟩ : ∃ q, epC 0 0 EL = q := ⟨_, rfl⟩
    rw [hEC] at HEB hEl HN
    clear hEL hEC
    have HFILL : ∀ (vs : List Value), vs.length = 34 → Instr.fill (fun i => some (i * 34, 34)) ((Array.range (1 * 34)).map ((Value.agg (dotC 0 0 ++ (List.replicate 32 (0 : Int)).map (Value.int .u8)).toArray).cells[· % (Value.agg (dotC 0 0 ++ (List.replicate 32 (0 : Int)).map (Value.int .u8)).toArray).cells.size]!)) [(0, .agg vs.toArray)] = some vs.toArray := fun vs hv => by
      have hz : ((Array.range (1 * 34)).map ((Value.agg (dotC 0 0 ++ (List.replicate 32 (0 : Int)).map (Value.int .u8)).toArray).cells[· % (Value.agg (dotC 0 0 ++ (List.replicate 32 (0 : Int)).map (Value.int .u8)).toArray).cells.size]!)) = (dotC 0 0 ++ (List.replicate 32 (0 : Int)).map (Value.int .u8)).toArray := by kernel_rfl
      rw [hz, fill_cons _ _ vs 0 0 34 _ _ rfl rfl hv (Nat.le_of_ble_eq_true rfl), Instr.fill]
      simp [dotC]
    have HF : Veil (Instr.fill (fun i => some (i * 34, 34)) ((Array.range (1 * 34)).map ((Value.agg (dotC 0 0 ++ (List.replicate 32 (0 : Int)).map (Value.int .u8)).toArray).cells[· % (Value.agg (dotC 0 0 ++ (List.replicate 32 (0 : Int)).map (Value.int .u8)).toArray).cells.size]!)) [(0, .agg EC.toArray)] = some EC.toArray) := ⟨HFILL EC hEl⟩
    have HC33 : Veil (∀ W1, Below W.heap.size W W1 → CellsAt (W1.alloc (.cells EC.toArray 138)) G 135 (rringC 0 seed (.slice none 0 0))) := ⟨fun W1 hb => (hx.congr (hb.block _ hx.lt)).alloc _⟩
    clear HFILL
    go_wp2_with (first
      | (refine wpList_ld rfl 23 _ rfl _ rfl hk0 Tryz.underlying23 sizeKeyD hs ?_)
      | (go_at_call 98; refine hd.mono ?_; rintro e w1 ⟨rfl, hb1⟩; have hx1 := HC33.out w1 hb1; have c33 := hx1.cell 33; rw [rringC_list _ _ _ hs] at c33; have f33 := hx1.frozen 33)
      | (refine wpList_bldx rfl 138 _ rfl #[(0, .agg (dotC 0 0).toArray), (1, .agg (row .u8 EL))] (by first | rfl | kernel_rfl) _ (HEB.out _) ?_)
      | (refine wpList_buildSlice rfl 133 138 1 _ rfl EC.toArray iw _ Tryz.underlying133 hiw hwz (by rw [hws]; decide) (by rw [hws]; decide) (by rw [hws]; refine Eq.trans (congrArg (Instr.fill _ _) (show _ = [(0, Value.agg EC.toArray)] by first | rfl | kernel_rfl)) HF.out) ?_))
    go_ret
    have hB1 := hB.trans (hb1.mono hB.size)
    have hgl : G < w1.heap.size := Nat.lt_of_lt_of_le hx.lt hb1.size
    have hset := hx1.set 33 (.slice (some ⟨w1.heap.size, 0, none⟩) 1 1)
    rw [rringC_set _ _ _ _ hs] at hset
    refine ⟨G, .slice (some ⟨w1.heap.size, 0, none⟩) 1 1, rfl, hset, ?_, by omega, (hB1.alloc hB1.size _).setCell (by show w.heap.size ≤ G; omega) _⟩
    rw [HN.out.1]
    refine ⟨by rw [HN.out.2, hEl]; rfl, .inr ⟨w1.heap.size, 1, EC.toArray, rfl, hB1.size, ?_, Nat.le_refl 1, by simp [maxLen], by simp [hEl], ?_⟩⟩
    · rw [Below.heap_setCell _ _ _ _ (by show w1.heap.size ≠ G; omega)]; exact heap_alloc_new w1 _
    · rw [HN.out.2]; show List.take (1 * 34) EC = EC; exact List.take_of_length_le (by omega)
  · have HN : Veil (rnewL own seed = []) := ⟨if_neg h0⟩
    have h0' : (own == 0) = false := by simpa using h0
    go_wp2
    go_ret
    refine ⟨G, rfl, .slice none 0 0, hx, ?_, by omega, hB⟩
    rw [HN.out]; exact World.ownsRow_nil _ _ _ _
end Go.Proofs.YtfainlfiphdaeaaGreatDoor
namespace Go.Proofs.YtfainlfiphdaeaaGreatDoor
open Go.RowKit
set_option maxRecDepth 20000
set_option linter.unusedSimpArgs false
def Tiles (place : Nat → Option (Nat × Nat)) : Nat → List (Nat × Value × List Value) → Prop
  | _, [] => True
  | off, x :: L => place x.1 = some (off, x.2.2.length) ∧ x.2.1.cells = x.2.2.toArray ∧ Tiles place (off + x.2.2.length) L
def tileL (L : List (Nat × Value × List Value)) : List Value := (L.map (·.2.2)).flatten
theorem tileL_cons (x : Nat × Value × List Value) (L : List (Nat × Value × List Value)) : tileL (x :: L) = x.2.2 ++ tileL L := by simp [tileL]
theorem fill_tile (place : Nat → Option (Nat × Nat)) : ∀ (L : List (Nat × Value × List Value)) (done tail : List Value), Tiles place done.length L → tail.length = (tileL L).length →
    Instr.fill place (done ++ tail).toArray (L.map fun x => (x.1, x.2.1)) = some (done ++ tileL L).toArray
  | [], done, tail, _, hl => by
    have : tail = [] := List.length_eq_zero_iff.1 (by simpa [tileL] using hl)
    rw [this]; simp [Instr.fill, tileL]
  | x :: L, done, tail, hT, hl => by
    obtain ⟨h1, h2, h3⟩ := hT
    rw [tileL_cons, List.length_append] at hl
    rw [List.map_cons, fill_cons place (done ++ tail) x.2.2 x.1 done.length x.2.2.length x.2.1 _ h1 h2 rfl (by rw [List.length_append]; omega)]
    rw [List.take_left, List.drop_length_add_append, fill_tile place L (done ++ x.2.2) (tail.drop x.2.2.length) (by rw [List.length_append]; exact h3) (by rw [List.length_drop]; omega), tileL_cons, List.append_assoc]
theorem execBuildT {P : Program} {o : Oper} {ev : Operand → Value} {w : World} {v : Value} (t : TypeId) (parts : Array (Nat × Operand)) (ho : o.op = .build t parts) (vs : Array (Nat × Value)) (hv : (parts.map fun (i, x) => (i, ev x)) = vs) (h : (Instr.build t vs).run P w = .ok v w) :
    (execOp ev o).run P w = .ok (.value v) w := by
  unfold execOp
  simp only [ho, hv, Sem.run_bind, Sem.run_pure, Result.andThen_ok, h]
theorem wpList_bldgT {P : Program} {ops : Array Oper} {rest : List Oper} {o : Oper} {a : Act} {w : World} {Q : Exit → Act → World → Prop} (hw : Region.wanted o (yielded ops a.tmps) = true) (t : TypeId) (parts : Array (Nat × Operand)) (ho : o.op = .build t parts) (vals : Array (Nat × Value)) (hv : (parts.map fun (i, x) => (i, a.eval x)) = vals) (v : Value) (hrun : (Instr.build t vals).run P w = .ok v w)
    (h : wpList P ops Q rest (a.put o.dst v) w) : wpList P ops Q (o :: rest) a w :=
  wpList_step fun K hK => by
    rw [if_pos hw]
    exact wpx_bld t parts ho vals hv v hrun (hK _ _ h)
end Go.Proofs.YtfainlfiphdaeaaGreatDoor
