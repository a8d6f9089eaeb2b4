/- keys, the reference: a word's bytes with others behind them; 'derive'. keys, the reference: 'derive'. -/
import Derived.Test.YtlalcnmcnkompaaDoorMKy5Ky6
import Derived.ArgAppend
import Derived.Lib.LazyBuf
import Derived.Test.YtlalcnmcnkompaaDoorMRefSumRefMacRefExp
namespace Go.Proofs.YtlalcnmcnkompaaDoor
open Go.RowKit
set_option maxRecDepth 20000
set_option linter.unusedSimpArgs false

theorem conv_word2 (s : ByteArray) (w : World) (hs : s.size ≤ 1000) :
    ∃ c W, (convert 9 76 (.string s)).run Tryd.prog w = .ok (.slice (some ⟨w.heap.size, 0, none⟩) s.size c) W ∧ s.size ≤ c ∧ c ≤ maxLen ∧ W.heap[w.heap.size]? = some (.cells (bytesRow s c) 5 ((bytesRow s c).size, (bytesRow s c).size + 1)) ∧ Below w.heap.size w W ∧ W.heap.size = w.heap.size + 1 :=
  ⟨_, _, run_bytes_of_string w 9 76 5 s Tryd.underlying9 Tryd.underlying76 Tryd.underlying5, grownCap_ge w s.size 0 5, grownCap_le_maxLen w s.size 0 5 (by simp [maxLen]; omega), heap_alloc_new w.drew _, (Below.refl _ _).drew.alloc (Nat.le_refl _) _, by simp⟩
theorem bytesRow_size (s : ByteArray) (c : Nat) (h : s.size ≤ c) : (bytesRow s c).size = c := by
  have : s.data.size = s.size := rfl
  simp [bytesRow]; omega
theorem bytesRow_get (s : ByteArray) (c j : Nat) (h : j < s.size) : (bytesRow s c)[j]? = some (.int .u8 ((wordL s)[j]?.getD 0)) := by
  have hj' : j < s.data.size := h
  simp [bytesRow, wordL, hj', Array.getElem?_append]
  rw [if_pos h, Array.getElem?_eq_getElem hj']
  rfl
/-- Bytes behind a word's. -/
theorem app_word (ws : ByteArray) (W : World) (g c2 : Nat) (ty : TypeId) (hrow : W.heap[g]? = some (.cells (bytesRow ws c2) 5 ((bytesRow ws c2).size, (bytesRow ws c2).size + 1))) (hc : ws.size ≤ c2) (hcm : c2 ≤ maxLen) (x : Option Addr) (n c : Nat) (m : List Int) (hm : Bytes W x n c m) (hn : n ≤ 1000) (hws : ws.size ≤ 1000) (hx : ∀ b off, x = some ⟨b, off, none⟩ → 0 < n → b ≠ g) :
    ∃ x' n' c' W3, (Builtin.append_ #[76, 76] ty #[.slice (some ⟨g, 0, none⟩) ws.size c2, .slice x n c]).run Tryd.prog W = .ok (.slice x' n' c') W3 ∧ Bytes W3 x' n' c' (wordL ws ++ m) ∧ Below g W W3 := by
  obtain ⟨i0, hi, hz0, hz1, hz2⟩ := info_parts infoU8
  have hml := hm.len_eq
  have hwl := wordL_length ws
  have hgl : g < W.heap.size := (Array.getElem?_eq_some_iff.1 hrow).1
  have hcell : ∀ j, j < ws.size → W.cell? ⟨g, j, none⟩ = some (.int .u8 ((wordL ws)[j]?.getD 0)) := fun j hj => by
    rw [cell_of_row W g j _ _ _ hrow]; exact bytesRow_get ws c2 j hj
  have hsome : ∀ j, j < c2 → (W.cell? ⟨g, j, none⟩).isSome = true := fun j hj => by
    rw [cell_of_row W g j _ _ _ hrow, Array.getElem?_eq_getElem (by rw [bytesRow_size ws c2 hc]; exact hj)]; rfl
  have hbase : Bytes W (some ⟨g, 0, none⟩) ws.size c2 (wordL ws) := ⟨hwl.symm, hc, by simpa [maxLen] using hcm, (fun h => by cases h), .inr ⟨_, _, rfl, fun j hj => by rw [Nat.zero_add]; exact hcell j hj⟩⟩
  have hmain : ∀ ad : Addr, x = some ad → (∀ j u, (m.map (Value.int .u8))[j]? = some u → W.cell? (ad.add j) = some u) → (0 < n → ad.block ≠ g) →
      ∃ x' n' c' W3, (Builtin.append_ #[76, 76] ty #[.slice (some ⟨g, 0, none⟩) ws.size c2, .slice x n c]).run Tryd.prog W = .ok (.slice x' n' c') W3 ∧ Bytes W3 x' n' c' (wordL ws ++ m) ∧ Below g W W3 := fun ad hxa hsrc hne => by
    subst hxa
    have h1 : ∀ u ∈ m.map (Value.int .u8), u.oneCell' = true := fun u hu => by simp only [List.mem_map] at hu; obtain ⟨_, _, rfl⟩ := hu; rfl
    by_cases hr : ws.size + n ≤ c2
    · have hst := run_append_room_cells (P := Tryd.prog) W 76 ty 5 i0 Tryd.underlying76 hi g 0 ws.size c2 ad n c (m.map (Value.int .u8)) (by rw [List.length_map, hz1]; omega) hsrc h1 hr
        (fun j hj => by rw [hz1, Nat.zero_add, Nat.mul_one]; exact hsome _ (by simp at hj; omega))
        (fun j hj => by
          rw [hz1, Nat.zero_add, Nat.mul_one]
          simp only [List.length_map] at hj
          unfold World.frozen?
          rw [hrow]
          simp [bytesRow_size ws c2 hc]
          omega)
      refine ⟨_, _, _, _, hst, ⟨by rw [List.length_append, hwl, hml], hr, by simpa [maxLen] using hcm, (fun h => by cases h), .inr ⟨_, _, rfl, fun j hj => ?_⟩⟩, below_setCells (Nat.le_refl _) _ _ _ (Below.refl _ _)⟩
      rw [hz1, Nat.zero_add, Nat.zero_add, Nat.mul_one]
      by_cases hj2 : j < ws.size
      · rw [World.cell?_setCells_out _ _ _ _ _ (fun _ _ => .inl hj2), hcell j hj2, List.getElem?_append_left (by omega)]
      · have := World.cell?_setCells_in g (m.map (Value.int .u8)) ws.size W (fun j hj => hsome _ (by simp at hj; omega)) (j - ws.size) (by simp; omega)
        rw [show ws.size + (j - ws.size) = j by omega] at this
        rw [this, List.getElem?_append_right (by omega), hwl]
        simp only [List.getElem_map]
        rw [List.getElem?_eq_getElem (by omega)]; rfl
    · obtain ⟨v', w', hrun, hown, hgr⟩ := run_append_arg_grows (P := Tryd.prog) W 76 ty 5 i0 _ 1 1 Tryd.underlying76 hi hz0 hz1 hz2 rfl (by decide) ⟨g, 0, none⟩ ws.size c2 ((wordL ws).map (Value.int .u8)) (by simp [hwl])
        (fun j u hu => by rw [Addr.add_mid']; exact hbase.rangeK j u hu) ad n c (m.map (Value.int .u8)) (by simp; omega) hsrc (by omega) (by simp [maxLen]; omega) (by omega)
      have ho : OwnB w' W.heap.size v' (wordL ws ++ m) := OwnB.cast hown (by simp [hwl, hml]) (by simp)
      obtain ⟨x', n', c', rfl, hn'⟩ := ho.isSlice
      exact ⟨x', n', c', w', hrun, ho.bytes.2, ((Below.refl g W).grown hgr (Nat.le_of_lt hgl) (fun k hk => by cases hk))⟩
  rcases hm.at_ with h0 | ⟨b, off, hy, hcs⟩
  · have hm0 : m = [] := List.length_eq_zero_iff.1 (by omega)
    cases x with
    | none =>
      have hc0 := hm.nil rfl
      subst h0 hc0 hm0
      refine ⟨_, _, _, W, ?_, by rw [List.append_nil]; exact hbase, Below.refl _ _⟩
      simp [Builtin.append_, run_underlying Tryd.underlying76, sizeOf, typeInfo, hi, Builtin.lenOf, hc, Builtin.firstCells, storeCells]
    | some ad => exact hmain ad rfl (fun j u hu => by subst hm0; simp at hu) (fun h => by omega)
  · exact hmain _ hy (fun j u hu => by
      have hj : j < n := by have := (List.getElem?_eq_some_iff.1 hu).1; simpa [hml] using this
      rw [Addr.add_mid', hcs j hj, ← hu, List.getElem?_map, List.getElem?_eq_getElem (by omega)]; rfl) (fun h => hx b off hy h)
end Go.Proofs.YtlalcnmcnkompaaDoor

namespace Go.Proofs.YtlalcnmcnkompaaDoor
open Go.RowKit
set_option maxRecDepth 20000
set_option linter.unusedSimpArgs false

theorem rexpandK_any (k : List Int) (y : Option Addr) (lb cb : Nat) (b : List Int) (w : World) (hk : k.length = 32) (hy : Bytes w y lb cb b) (hlb : lb ≤ 100000) :
    Calls Tryd.prog 40 #[.agg (row .u8 k), .slice y lb cb, .int .i64 32] w fun e w' => ∃ x c, e = .returned (.tuple #[.slice x 32 c, .int .i64 0]) ∧ Bytes w' x 32 c (derL k b) ∧ Below w.heap.size w w' :=
  (S.refExpand_any k y lb cb b 32 w hk hy.toS hlb (by omega)).mono fun e w' ⟨x, c, h1, h2, h3⟩ => ⟨x, c, h1, ⟨h2.1, h2.2, h2.3, h2.4, h2.5⟩, h3⟩
set_option maxHeartbeats 4000000 in
theorem rderive_any (k : List Int) (ws : ByteArray) (x : Option Addr) (n c : Nat) (m : List Int) (w : World) (hk : k.length = 32) (hws : ws.size ≤ 1000) (hm : Bytes w x n c m) (hn : n ≤ 1000) :
    Calls Tryd.prog 30 #[.agg (row .u8 k), .string ws, .slice x n c] w fun e w' => e = .returned (.agg (row .u8 (derL k (wordL ws ++ m)))) ∧ Below w.heap.size w w' := by
  have hk0 := Holds.new w .u8 23 k
  have HML : Veil (n = m.length ∧ (wordL ws).length = ws.size) := ⟨hm.len_eq, wordL_length ws⟩
  obtain ⟨Z, hZl, hZ⟩ : ∃ Z : List Int, Z.length = 32 ∧ Z = List.replicate 32 0 := ⟨_, rfl, rfl⟩
  have hr0 := Holds.new (w.alloc (.cells (row .u8 k) 23)) .u8 23 Z
  rw [World.size_alloc] at hr0
  have hk1 := hk0.alloc (.cells (row .u8 Z) 23)
  have hB : Below w.heap.size w ((w.alloc (.cells (row .u8 k) 23)).alloc (.cells (row .u8 Z) 23)) := ((Below.refl _ _).alloc (Nat.le_refl _) _).alloc (by simp) _
  go_enter Tryd.func30, Tryd.ntmps30
  go_upto_region 1 with fail
  refine forget (p := fun y => Code.wp _ _ _ _ y) (fun W => Below w.heap.size w W ∧ Holds W w.heap.size .u8 23 k ∧ Holds W (w.heap.size + 1) .u8 23 Z) ⟨by rw [hZ] at hB; exact hB, by rw [hZ] at hk1; exact hk1, by rw [hZ] at hr0 ⊢; exact hr0⟩ ?_
  clear hB hk1 hr0 hk0 hZ
  rintro W ⟨hB, hk0, hr0⟩
  have uK : Tryd.prog.underlying 23 = _ := Tryd.underlying23
  have iK : (Tryd.prog.info? 23).map (·.size) = some (k.map (Value.int .u8)).length := by rw [List.length_map, hk]; exact sizeKeyD
  have HK : ∀ W' : World, Holds W' w.heap.size .u8 23 k → W'.rangeAt w.heap.size 0 (k.map (Value.int .u8)) := fun W' h => by
    have := h.cellsAt.range 0 32
    rw [List.drop_zero, List.take_of_length_le (by simp [hk])] at this
    exact this
  refine wp_region_gate (fun w' => w'.rangeAt w.heap.size 0 (k.map (Value.int .u8))) 5 (by kernel_rfl) ?_
  have hS := HK W.drew hk0
  refine wpAnyG_load (i := 0) (dst := some 12) (ty := 23) (x := .tmp 3) (b := w.heap.size) (o := (0)) (cs := (k.map (Value.int .u8))) (by kernel_rfl) (by kernel_rfl) (by kernel_rfl) (by kernel_rfl) (by kernel_rfl) (fun _ _ _ h => h) (by kernel_rfl) (by kernel_rfl) (by kernel_rfl) hS (by kernel_rfl) (fun _ h => h) uK rfl iK ?_
  simp only [Act.put, List.getElem_toArray, List.getElem_cons_succ, List.getElem_cons_zero, List.setIfInBounds_toArray, List.set_cons_zero, List.set_cons_succ]
  refine wpAnyG_any (i := 1) (v := ?_) rfl (by kernel_rfl) (by kernel_rfl) (by kernel_rfl) (fun _ _ _ h => h) (by kernel_rfl) (fun _ => hS) (by kernel_rfl) ?_ ?_
  rotate_left
  · intro _; go_simp; try with_reducible rfl
  simp only [Act.put, List.getElem_toArray, List.getElem_cons_succ, List.getElem_cons_zero, List.setIfInBounds_toArray, List.set_cons_zero, List.set_cons_succ]
  refine wpAnyG_any (i := 3) (v := ?_) rfl (by kernel_rfl) (by kernel_rfl) (by kernel_rfl) (fun _ _ _ h => h) (by kernel_rfl) (fun _ => hS) (by kernel_rfl) ?_ ?_
  rotate_left
  · intro _; go_simp; try with_reducible rfl
  simp only [Act.put, List.getElem_toArray, List.getElem_cons_succ, List.getElem_cons_zero, List.setIfInBounds_toArray, List.set_cons_zero, List.set_cons_succ]
  refine wpAnyG_one (i := 2) rfl (by kernel_rfl) (by kernel_rfl) (fun K hK => ?_)
  obtain ⟨c2, W2, hrun2, hc2, hcm2, hrow2, hB2, hs2⟩ := conv_word2 ws W.drew hws
  refine wpx_conv _ _ _ rfl _ _ _ rfl hrun2 ?_
  have hb02 : Below W.heap.size W W2 := Below.trans (Below.refl _ W).drew hB2
  have hk2 := hk0.below hb02 hk0.lt
  have hr2 := hr0.below hb02 hr0.lt
  have hBw2 : Below w.heap.size w W2 := hB.trans (hb02.mono hB.size)
  have hg2w : w.heap.size + 1 < W.drew.heap.size := hr0.lt
  obtain ⟨g2, hg2⟩ : ∃ g2, W.drew.heap.size = g2 := ⟨_, rfl⟩
  rw [hg2] at hrow2 hs2 hg2w ⊢
  clear hrun2 hB2 hb02 hk0 hr0 hB hg2
  replace hS := HK W2 hk2
  refine hK.out _ _ (fun _ => hS) ?_
  clear hK K
  try simp only [Act.put, List.getElem_toArray, List.getElem_cons_succ, List.getElem_cons_zero, List.setIfInBounds_toArray, List.set_cons_zero, List.set_cons_succ]
  refine wpAnyG_one (i := 4) rfl (by kernel_rfl) (by kernel_rfl) (fun K hK => ?_)
  obtain ⟨x3, n3, c3, W3, hrun3, hb3, hB3⟩ := app_word ws W2 g2 c2 _ hrow2 hc2 hcm2 x n c m (hm.below hBw2) hn hws (fun b off hx hn0 => by
    rcases hm.at_ with h0 | ⟨b', off', hx', hcs⟩
    · omega
    · rw [hx] at hx'; cases hx'
      have := block_lt_of_cell (hcs 0 hn0)
      simp at this
      omega)
  refine wpx_app _ _ _ _ rfl _ _ _ _ rfl rfl hrun3 ?_
  have hk3 := hk2.below hB3 (by omega)
  have hr3 := hr2.below hB3 (by omega)
  have hBw3 : Below w.heap.size w W3 := hBw2.trans (hB3.mono (by omega))
  replace hS := HK W3 hk3
  refine hK.out _ _ (fun _ => hS) ?_
  clear hK K
  try simp only [Act.put, List.getElem_toArray, List.getElem_cons_succ, List.getElem_cons_zero, List.setIfInBounds_toArray, List.set_cons_zero, List.set_cons_succ]
  have hn3 : n3 ≤ 100000 := by have := hb3.len_eq; rw [List.length_append] at this; have := HML.out; omega
  have he := rexpandK_any k x3 n3 c3 _ W3 hk hb3 hn3
  clear hk2 hr2 hrow2 hrun3 hb3 hB3
  refine wpAnyG_one (i := 5) rfl (by kernel_rfl) (by kernel_rfl) (fun K hK => ?_)
  refine wpx_call _ _ (by kernel_rfl) (he.mono ?_)
  rintro e W6 ⟨x6, c6, rfl, hby, hb6⟩
  refine ⟨_, rfl, ?_⟩
  have hB6 := hBw3.trans (hb6.mono hBw3.size)
  have hr6 := hr3.below hb6 hr3.lt
  refine hK.out _ _ (fun h => absurd (show true = false from h) (by decide)) ?_
  clear hK K
  try simp only [Act.put, List.getElem_toArray, List.getElem_cons_succ, List.getElem_cons_zero, List.setIfInBounds_toArray, List.set_cons_zero, List.set_cons_succ]
  refine wpAnyG_any (i := 6) (v := ?_) rfl (by kernel_rfl) (by kernel_rfl) (by kernel_rfl) (fun _ _ _ h => h) (by kernel_rfl) (fun h => absurd (show true = false from h) (by decide)) (by kernel_rfl) ?_ ?_
  rotate_left
  · intro _; go_simp; try with_reducible rfl
  simp only [Act.put, List.getElem_toArray, List.getElem_cons_succ, List.getElem_cons_zero, List.setIfInBounds_toArray, List.set_cons_zero, List.set_cons_succ]
  refine wpAnyG_any (i := 7) (v := ?_) rfl (by kernel_rfl) (by kernel_rfl) (by kernel_rfl) (fun _ _ _ h => h) (by kernel_rfl) (fun h => absurd (show true = false from h) (by decide)) (by kernel_rfl) ?_ ?_
  rotate_left
  · intro _; go_simp; try with_reducible rfl
  simp only [Act.put, List.getElem_toArray, List.getElem_cons_succ, List.getElem_cons_zero, List.setIfInBounds_toArray, List.set_cons_zero, List.set_cons_succ]
  refine wpAnyG_any (i := 8) (v := ?_) rfl (by kernel_rfl) (by kernel_rfl) (by kernel_rfl) (fun _ _ _ h => h) (by kernel_rfl) (fun h => absurd (show true = false from h) (by decide)) (by kernel_rfl) ?_ ?_
  rotate_left
  · intro _; go_simp; try with_reducible rfl
  simp only [Act.put, List.getElem_toArray, List.getElem_cons_succ, List.getElem_cons_zero, List.setIfInBounds_toArray, List.set_cons_zero, List.set_cons_succ]
  refine wpAnyG_any (i := 9) (v := ?_) rfl (by kernel_rfl) (by kernel_rfl) (by kernel_rfl) (fun _ _ _ h => h) (by kernel_rfl) (fun h => absurd (show true = false from h) (by decide)) (by kernel_rfl) ?_ ?_
  rotate_left
  · intro _; go_simp; try with_reducible rfl
  simp only [Act.put, List.getElem_toArray, List.getElem_cons_succ, List.getElem_cons_zero, List.setIfInBounds_toArray, List.set_cons_zero, List.set_cons_succ]
  refine wpAnyG_any (i := 10) (v := ?_) rfl (by kernel_rfl) (by kernel_rfl) (by kernel_rfl) (fun _ _ _ h => h) (by kernel_rfl) (fun h => absurd (show true = false from h) (by decide)) (by kernel_rfl) ?_ ?_
  rotate_left
  · intro _; go_simp; try with_reducible rfl
  simp only [Act.put, List.getElem_toArray, List.getElem_cons_succ, List.getElem_cons_zero, List.setIfInBounds_toArray, List.set_cons_zero, List.set_cons_succ]
  refine wpAnyG_done (by kernel_rfl) ?_ _
  have hdl := derL_length k (wordL ws ++ m)
  obtain ⟨DK, hDK⟩ : ∃ q, derL k (wordL ws ++ m) = q := ⟨_, rfl⟩
  have HDK := Veil.mk hDK
  rw [hDK] at hby hdl
  obtain ⟨g6, o6, rfl, hcs6⟩ : ∃ b off, x6 = some ⟨b, off, none⟩ ∧ ∀ j, j < 32 → W6.cell? ⟨b, off + j, none⟩ = some (.int .u8 (DK[j]?.getD 0)) := by
    rcases hby.at_ with h0 | h
    · omega
    · exact h
  have HDL := Veil.mk hdl
  have hl6 : w.heap.size + 1 < W6.heap.size := hr6.lt
  clear hDK he hk3 hr3 hS hBw3 hb6 iK uK HK hdl
  go_upto_region 3 with fail
  have hbn : Below W6.heap.size W6 (W6.alloc (.cells (row .u8 (List.replicate 32 0)) 23)) := (Below.refl _ _).alloc (Nat.le_refl _) _
  have hgn := Holds.new W6 .u8 23 (List.replicate 32 0)
  refine forget (p := fun y => Code.wp _ _ _ _ y) (fun V => Below w.heap.size w V ∧ Holds V (w.heap.size + 1) .u8 23 Z ∧ Bytes V (some ⟨g6, o6, none⟩) 32 c6 DK ∧ Holds V W6.heap.size .u8 23 (List.replicate 32 0)) ⟨hB6.trans (hbn.mono hB6.size), hr6.below hbn hr6.lt, hby.below hbn, hgn⟩ ?_
  have hg6l : g6 ≠ W6.heap.size := fun e => by
    have := block_lt_of_cell (hcs6 0 (by omega))
    simp at this
    omega
  obtain ⟨G, hG⟩ : ∃ q, W6.heap.size = q := ⟨_, rfl⟩
  rw [hG] at hl6 hg6l ⊢
  clear hbn hby hr6 hB6 hG hgn hcs6
  rintro V ⟨hB, hr, hb, hg⟩
  go_wp2_with fail
  go_loopw [10] (fun iv wr => ∃ i : Nat, i ≤ 32 ∧ iv = .int .i64 i ∧ Below w.heap.size w wr ∧ Holds wr (w.heap.size + 1) .u8 23 Z ∧ Bytes wr (some ⟨g6, o6, none⟩) 32 c6 DK ∧ Holds wr G .u8 23 (DK.take i ++ List.replicate (32 - i) 0)) (fun iv _ => 32 - (intOf iv).toNat)
  case atStart => exact ⟨0, by omega, rfl, hB, hr, hb, by rw [List.take_zero, List.nil_append]; exact hg⟩
  case round =>
    clear hB hr hb hg
    obtain ⟨i, hi, rfl, hB, hr, hb, hg⟩ := hrel
    by_cases hlt : i < 32
    · have hcap := hb.le
      have hc1 : wr.cell? ⟨g6, o6 + i, none⟩ = some (.int .u8 (DK[i]?.getD 0)) := by
        rcases hb.at_ with h0 | ⟨b', off', hx', hcs⟩
        · omega
        · cases hx'
          exact hcs i hlt
      have hgl : (DK.take i ++ List.replicate (32 - i) 0).length = 32 := by rw [List.length_append, List.length_take, List.length_replicate, HDL.out]; omega
      have hc2 := hg.cell i (by omega)
      have hf2 := hg.frozen i
      have hi0 : (0 : Int) ≤ (i : Int) := by omega
      have hi1 : (i : Int) < 32 := by omega
      have HST : Veil ((DK.take i ++ List.replicate (32 - i) 0).set i (DK[i]?.getD 0) = DK.take (i + 1) ++ List.replicate (32 - (i + 1)) 0) := ⟨by
        have hl := HDL.out
        rw [take_next DK i (by omega), show 32 - i = (32 - (i + 1)) + 1 by omega]
        have := set_next (DK.take i) (32 - (i + 1)) (DK[i]?.getD 0)
        rw [List.length_take, show min i DK.length = i by omega] at this
        exact this⟩
      obtain ⟨q, hq⟩ : ∃ q, DK[i]?.getD 0 = q := ⟨_, rfl⟩
      rw [hq] at hc1 HST
      have hs1 := hg.set i q
      rw [HST.out] at hs1
      have hr1 := hr.setOther ⟨G, i, none⟩ (.int .u8 q) (by simp; omega)
      have hb1 : Bytes (wr.setCell ⟨G, i, none⟩ (.int .u8 q)) (some ⟨g6, o6, none⟩) 32 c6 DK := ⟨hb.len_eq, hb.le, hb.top, hb.nil, by
        rcases hb.at_ with h0 | ⟨b', off', hx', hcs⟩
        · exact .inl h0
        · cases hx'
          exact .inr ⟨_, _, rfl, fun j hj => by rw [World.cell?_of_block (w := wr) (Below.heap_setCell wr _ _ _ hg6l)]; exact hcs j hj⟩⟩
      have hB1 := hB.setCell (p := ⟨G, i, none⟩) (by show w.heap.size ≤ G; omega) (.int .u8 q)
      clear hq hb HST
      go_wp2
      go_roundw
      case rel => exact ⟨i + 1, by omega, by go_num, hB1, hr1, hb1, hs1⟩
      case measure => simp [intOf]; omega
    · obtain rfl : i = 32 := by omega
      have hl := HDL.out
      rw [show DK.take 32 ++ List.replicate (32 - 32) 0 = DK by rw [List.take_of_length_le (by omega)]; simp] at hg
      go_wp2_with (first
        | (refine wpList_ld rfl 23 _ rfl _ rfl hg Tryd.underlying23 sizeKeyD hl ?_)
        | (refine wpList_st rfl 23 _ _ rfl _ rfl rfl hr (by rw [hl]; exact sizeKeyD) (by rw [hZl, hl]) ?_))
      refine bodyPost_ret (results_holds (Tryd.results30) _ rfl (hr.setRow _) Tryd.underlying23 sizeKeyD hl) rfl ⟨?_, ?_⟩
      · rw [HDK.out]
      · exact below_setRow hB (by omega) _
end Go.Proofs.YtlalcnmcnkompaaDoor
