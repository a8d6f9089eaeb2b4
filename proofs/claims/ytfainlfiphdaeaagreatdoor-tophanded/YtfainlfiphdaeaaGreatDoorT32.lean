/- An5 An6 Eqd -/
import Derived.Test.YtfainlfiphdaeaaGreatDoorT31
import Derived.Lib.SlBytesConst
import Derived.Test.YtfainlfiphdaeaaGreatDoorT01
import Derived.Test.YtfainlfiphdaeaaGreatDoorT02
import Derived.Laws.StructEq
namespace Go.Proofs.YtfainlfiphdaeaaGreatDoor
open Go.RowKit
set_option maxRecDepth 20000
set_option linter.unusedSimpArgs false
theorem tagL_in (k n o h : List Int) (ho : ∀ v ∈ o, isB v) (hh : ∀ v ∈ h, isB v) : ∀ v ∈ tagL k n o h, isB v := by
  unfold tagL
  rw [poly_val (onceL k n) (framedL o h) (onceL_length k n) (fun v hv => joinK_u8 _ 16 v (List.mem_of_mem_take hv)) (framedL_in o h ho hh)]
  exact le16_in _
theorem xorL_in (k n : List Int) (c : Int) (z : List Int) (hz : ∀ v ∈ z, isB v) : ∀ v ∈ xorL k n c z, isB v := by
  intro v hv
  obtain ⟨i, hi, rfl⟩ := List.getElem_of_mem hv
  have h := xorL_get k n c z i (by rw [xorL_length] at hi; exact hi)
  rw [List.getElem?_eq_getElem hi, Option.getD_some] at h
  rw [h]
  exact xor_u8 (getD_u8 hz i) (strm_u8 k n c i)
theorem Bytes.rangeCut {w : World} {b off len cap : Nat} {z : List Int} (h : Bytes w (some ⟨b, off, none⟩) len cap z) (l : Nat) : w.rangeAt b (off + l) ((z.drop l).map (Value.int .u8)) := fun j v hv => by
  rw [List.getElem?_map, List.getElem?_drop] at hv
  have hlt : l + j < z.length := by
    by_cases hl : l + j < z.length
    · exact hl
    · rw [List.getElem?_eq_none (by omega)] at hv; simp at hv
  rcases h.at_ with h0 | ⟨b', off', hx, hc⟩
  · have := h.len_eq; omega
  · cases hx
    rw [Nat.add_assoc, hc (l + j) (by rw [h.len_eq]; exact hlt)]
    rw [List.getElem?_eq_getElem hlt] at hv ⊢
    simpa using hv
set_option maxHeartbeats 1000000 in
theorem open_short (k n : List Int) (x : Option Addr) (len cap : Nat) (y : Option Addr) (lb cb : Nat) (w : World) (hl : lb < 16) :
    Calls Tryz.prog 68 #[.agg (row .u8 k), .agg (row .u8 n), .slice x len cap, .slice y lb cb] w fun e w' => e = .returned (.tuple #[.slice none 0 0, .int .i64 3]) ∧ Below w.heap.size w w' := by
  obtain ⟨D, hD⟩ : ∃ D : Int, IntKind.i64.wrap ((lb : Int) - 16) = D := ⟨_, rfl⟩
  have hD0 : D < 0 := by rw [← hD, IntKind.wrap_i64]; omega
  have hB0 : Below w.heap.size w ((w.alloc (.cells (row .u8 k) 23)).alloc (.cells (row .u8 n) 101)) := ((Below.refl _ _).alloc (Nat.le_refl _) _).alloc (by simp) _
  go_enter Tryz.func68, Tryz.ntmps68
  go_wp2
  go_ret2
  exact ⟨rfl, hB0⟩
set_option maxHeartbeats 2000000 in
theorem open_ok (k n : List Int) (x : Option Addr) (len cap : Nat) (o : List Int) (y : Option Addr) (lb cb : Nat) (z : List Int) (w : World) (hk : k.length = 32) (hn : n.length = 12) (hx : Bytes w x len cap o) (hy : Bytes w y lb cb z) (hl1 : len ≤ 100000) (hl2 : lb ≤ 100000) (hl : 16 ≤ lb) (huo : ∀ v ∈ o, isB v) (huz : ∀ v ∈ z, isB v)
    (he : tagL k n o (z.take (lb - 16)) = z.drop (lb - 16)) :
    Calls Tryz.prog 68 #[.agg (row .u8 k), .agg (row .u8 n), .slice x len cap, .slice y lb cb] w fun e w' => ∃ g, e = .returned (.tuple #[.slice (some ⟨g, 0, none⟩) (lb - 16) (lb - 16), .int .i64 0]) ∧ w.heap.size ≤ g ∧ Holds w' g .u8 5 (xorL k n 1 (z.take (lb - 16))) ∧ Below w.heap.size w w' := by
  obtain ⟨M, hM⟩ : ∃ M, lb - 16 = M := ⟨_, rfl⟩
  rw [hM] at he
  try rw [hM]
  have hzl := hy.len_eq
  have hcb := hy.le
  have htop := hy.top
  have hwM : IntKind.i64.wrap ((lb : Int) - 16) = (M : Int) := by rw [IntKind.wrap_i64]; omega
  have hM0 : ¬ (M : Int) < 0 := by omega
  obtain ⟨b, off, hyb⟩ : ∃ b off, y = some ⟨b, off, none⟩ := by
    rcases hy.at_ with h0 | ⟨b, off, h, _⟩
    · omega
    · exact ⟨b, off, h⟩
  subst hyb
  have hcutL : ∀ wx, (Instr.slice 41 (.slice (some ⟨b, off, none⟩) lb cb) none (some (.int .i64 (M : Int))) none).run Tryz.prog wx = .ok (.slice (subA (some ⟨b, off, none⟩) cb 0) M cb) wx := fun wx => run_cut_h wx _ lb cb M (by omega)
  have hcutR : ∀ wx, (Instr.slice 41 (.slice (some ⟨b, off, none⟩) lb cb) (some (.int .i64 (M : Int))) none none).run Tryz.prog wx = .ok (.slice (some ⟨b, off + M, none⟩) 16 (cb - M)) wx := fun wx => by
    have := run_cut_l wx (some ⟨b, off, none⟩) lb cb M (by omega)
    rw [show subA (some ⟨b, off, none⟩) cb M = some ⟨b, off + M, none⟩ by unfold subA; rw [if_neg (by omega), Option.map_some, Addr.add_mid', Nat.mul_one], show lb - M = 16 by omega] at this
    exact this
  have hat : ∀ (b off cap : Nat) (wx : World), (Instr.arrayAt 149 (.slice (some ⟨b, off, none⟩) 16 cap)).run Tryz.prog wx = .ok (.pointer (some ⟨b, off, none⟩)) wx := fun b off cap wx => run_arrayAt wx 149 _ 16 _ 16 cap Tryz.underlying149 (by omega)
  have hhid := fun wx (hb : Below w.heap.size w wx) => (hy.below hb).cut 0 M (by omega) (by omega)
  rw [List.drop_zero, Nat.sub_zero, Nat.sub_zero] at hhid
  have hrng := fun wx (hb : Below w.heap.size w wx) => (hy.below hb).rangeCut M
  have hHu : ∀ v ∈ z.take M, isB v := fun v hv => huz v (List.mem_of_mem_take hv)
  have hDu : ∀ v ∈ z.drop M, isB v := fun v hv => huz v (List.mem_of_mem_drop hv)
  have hDl : (z.drop M).length = 16 := by rw [List.length_drop]; omega
  have hTl : (tagL k n o (z.take M)).length = 16 := polyL_length _ _
  have hTu := tagL_in k n o (z.take M) huo hHu
  obtain ⟨H, hH⟩ : ∃ q, z.take M = q := ⟨_, rfl⟩
  obtain ⟨T, hT⟩ : ∃ q, z.drop M = q := ⟨_, rfl⟩
  obtain ⟨Y1, hY1⟩ : ∃ q, subA (some ⟨b, off, none⟩) cb 0 = q := ⟨_, rfl⟩
  rw [hH] at he hhid hHu hTl hTu
  try rw [hH]
  rw [hT] at he hrng hDu hDl
  rw [hY1] at hcutL hhid
  have htag := fun wx (hb : Below w.heap.size w wx) => tagOf_any k n x len cap o Y1 M cb H wx hk hn (hx.below hb) (hhid wx hb) hl1 (by omega)
  have hxor := fun wx (hb : Below w.heap.size w wx) => xor_any k n 1 Y1 M cb H wx hk hn ⟨by decide, by decide⟩ (hhid wx hb) (by omega)
  have HE : Veil (tagL k n o H = T) := ⟨he⟩
  obtain ⟨TG, hTG⟩ : ∃ q, tagL k n o H = q := ⟨_, rfl⟩
  rw [hTG] at htag hTl hTu HE
  have iT : (Tryz.prog.info? 149).map (·.size) = some (T.map (Value.int .u8)).length := by rw [List.length_map, hDl]; exact sizeT
  have uT := Tryz.underlying149
  have hK0 := (Holds.new w .u8 23 k).alloc (.cells (row .u8 n) 101)
  have hN0 := Holds.new (w.alloc (.cells (row .u8 k) 23)) .u8 101 n
  have hB0 : Below w.heap.size w ((w.alloc (.cells (row .u8 k) 23)).alloc (.cells (row .u8 n) 101)) := ((Below.refl _ _).alloc (Nat.le_refl _) _).alloc (by simp) _
  rw [World.size_alloc] at hN0
  clear hH hT hY1 hTG hx hy he huo huz hzl hM
  go_enter Tryz.func68, Tryz.ntmps68
  go_upto_region 4 with fail
  refine forget (p := fun y => Code.wp _ _ _ _ y) (fun W0 => Below w.heap.size w W0 ∧ Holds W0 w.heap.size .u8 23 k ∧ Holds W0 (w.heap.size + 1) .u8 101 n) ⟨hB0, hK0, hN0⟩ ?_
  clear hK0 hN0 hB0
  rintro W0 ⟨hB0, hK0, hN0⟩
  have hA1 := (Holds.new W0 .u8 149 (List.replicate 16 0)).drew
  have hBd := hB0.drew
  refine wp_region_gate (fun w' => w'.rangeAt b (off + M) (T.map (Value.int .u8))) 10 (by kernel_rfl) ?_
  have hS := hrng _ hBd
  refine wpAnyG_any (i := 0) (v := ?_) rfl (by kernel_rfl) (by kernel_rfl) (by kernel_rfl) (fun _ _ _ h => h) (by kernel_rfl) (fun _ => hS) (by kernel_rfl) ?_ ?_
  rotate_left
  · intro _; go_simp; try with_reducible rfl
  simp only [Act.put, sI, sZ, sS]
  refine wpAnyG_any (i := 1) (v := ?_) rfl (by kernel_rfl) (by kernel_rfl) (by kernel_rfl) (fun _ _ _ h => h) (by kernel_rfl) (fun _ => hS) (by kernel_rfl) ?_ ?_
  rotate_left
  · intro _; go_simp; try with_reducible rfl
  simp only [Act.put, sI, sZ, sS]
  refine wpAnyG_any (i := 2) (v := ?_) rfl (by kernel_rfl) (by kernel_rfl) (by kernel_rfl) (fun _ _ _ h => h) (by kernel_rfl) (fun _ => hS) (by kernel_rfl) ?_ ?_
  rotate_left
  · intro _; go_simp; try with_reducible rfl
  simp only [Act.put, sI, sZ, sS]
  refine wpAnyG_any (i := 3) (v := ?_) rfl (by kernel_rfl) (by kernel_rfl) (by kernel_rfl) (fun _ _ _ h => h) (by kernel_rfl) (fun _ => hS) (by kernel_rfl) ?_ ?_
  rotate_left
  · intro _; go_simp; try with_reducible rfl
  simp only [Act.put, sI, sZ, sS]
  refine wpAnyG_any (i := 4) (v := ?_) rfl (by kernel_rfl) (by kernel_rfl) (by kernel_rfl) (fun _ _ _ h => h) (by kernel_rfl) (fun _ => hS) (by kernel_rfl) ?_ ?_
  rotate_left
  · intro _; go_simp; try with_reducible rfl
  simp only [Act.put, sI, sZ, sS]
  refine wpAnyG_any (i := 5) (v := ?_) rfl (by kernel_rfl) (by kernel_rfl) (by kernel_rfl) (fun _ _ _ h => h) (by kernel_rfl) (fun _ => hS) (by kernel_rfl) ?_ ?_
  rotate_left
  · intro _; go_simp; try with_reducible rfl
  simp only [Act.put, sI, sZ, sS]
  refine wpAnyG_any (i := 6) (v := ?_) rfl (by kernel_rfl) (by kernel_rfl) (by kernel_rfl) (fun _ _ _ h => h) (by kernel_rfl) (fun _ => hS) (by kernel_rfl) ?_ ?_
  rotate_left
  · intro _; go_simp; try with_reducible rfl
  simp only [Act.put, sI, sZ, sS]
  refine wpAnyG_load (i := 7) (dst := some 26) (ty := 149) (x := .tmp 25) (b := b) (o := ((off + M))) (cs := (T.map (Value.int .u8))) (by kernel_rfl) (by kernel_rfl) (by kernel_rfl) (by kernel_rfl) (by kernel_rfl) (fun _ _ _ h => h) (by kernel_rfl) (by kernel_rfl) (by kernel_rfl) hS (by kernel_rfl) (fun _ h => h) uT rfl iT ?_
  simp only [Act.put, sI, sZ, sS]
  refine wpAnyG_one (i := 8) rfl (by kernel_rfl) (by kernel_rfl) (fun K hK => ?_)
  go_simp
  replace hS := hrng _ (hB0.alloc hB0.size (.cells (row .u8 (List.replicate 16 0)) 149)).drew
  refine hK.out _ _ (fun _ => hS) ?_
  clear hK K
  refine wpAnyG_any (i := 9) (v := ?_) rfl (by kernel_rfl) (by kernel_rfl) (by kernel_rfl) (fun _ _ _ h => h) (by kernel_rfl) (fun _ => hS) (by kernel_rfl) ?_ ?_
  rotate_left
  · intro _; go_simp; try with_reducible rfl
  simp only [Act.put, sI, sZ, sS]
  refine wpAnyG_one (i := 10) rfl (by kernel_rfl) (by kernel_rfl) (fun K hK => ?_)
  refine wp_stG 149 _ _ rfl _ rfl rfl hA1 (by rw [hDl]; exact sizeT) (by simp [hDl]) ?_
  refine hK.out _ _ (fun h => absurd (show true = false from h) (by decide)) ?_
  clear hK K
  refine wpAnyG_done (by kernel_rfl) ?_ _
  have hsz := hB0.size
  refine forget (p := fun y => Exit.then _ _ _ _ y) (fun W1 => Below w.heap.size w W1 ∧ Below W0.heap.size W0 W1 ∧ Holds W1 W0.heap.size .u8 149 T) ⟨below_setRow (hB0.alloc hB0.size _).drew hB0.size _, below_setRow ((Below.refl _ _).alloc (Nat.le_refl _) _).drew (Nat.le_refl _) _, hA1.setRow _⟩ ?_
  rintro W1 ⟨hB1, hb01, hT1⟩
  have hK1 := hK0.below hb01 hK0.lt
  have hN1 := hN0.below hb01 hN0.lt
  have hlt1 := hT1.lt
  obtain ⟨G1, hG1⟩ : ∃ q, W0.heap.size = q := ⟨_, rfl⟩
  rw [hG1] at hT1 hsz hlt1 ⊢
  clear hG1 hA1 hBd hK0 hN0 hB0 hb01 hS hrng hcutL hcutR hat
  have htg := htag W1 hB1
  simp only [Act.put, sI, sZ, sS]
  go_upto_region 6 with (first
    | (refine wpList_ld rfl 23 _ rfl _ rfl hK1 Tryz.underlying23 sizeK hk ?_)
    | (refine wpList_ld rfl 101 _ rfl _ rfl hN1 Tryz.underlying101 sizeN hn ?_)
    | (go_at_call 107; refine htg.mono ?_; rintro e w2 ⟨rfl, hb2⟩; have hA2 := Holds.new w2 .u8 149 (List.replicate 16 0))
    | (refine wpList_st rfl 149 _ _ rfl _ rfl rfl hA2 (by rw [hTl]; exact sizeT) (by simp [hTl]) ?_))
  have hB2 : Below w.heap.size w w2 := hB1.trans (hb2.mono hB1.size)
  have hb12 : Below W1.heap.size W1 ((w2.alloc (.cells (row .u8 (List.replicate 16 0)) 149)).setRow w2.heap.size (row .u8 TG)) := below_setRow (hb2.alloc hb2.size _) hb2.size _
  have hB3 := below_setRow (g := w2.heap.size) (hB2.alloc hB2.size (.cells (row .u8 (List.replicate 16 0)) 149)) hB2.size (row .u8 TG)
  refine forget (p := fun y => Code.wp _ _ _ _ y) (fun W3 => Below w.heap.size w W3 ∧ Holds W3 w2.heap.size .u8 149 TG ∧ Holds W3 G1 .u8 149 T ∧ Holds W3 w.heap.size .u8 23 k ∧ Holds W3 (w.heap.size + 1) .u8 101 n) ⟨hB3, hA2.setRow _, hT1.below hb12 hT1.lt, hK1.below hb12 hK1.lt, hN1.below hb12 hN1.lt⟩ ?_
  obtain ⟨G2, hG2⟩ : ∃ q, w2.heap.size = q := ⟨_, rfl⟩
  rw [hG2]
  clear hB2 hb12 hB3 hA2 hb2 htg htag hB1 hK1 hN1 hT1 hG2 hlt1
  rintro W3 ⟨hB3, hTG3, hT3, hK3, hN3⟩
  have heq0 := equal_any (some ⟨G2, 0, none⟩) 16 16 TG (some ⟨G1, 0, none⟩) 16 16 T W3.drew (hTG3.drew.bytes hTl.symm (by omega)) (hT3.drew.bytes hDl.symm (by omega)) hTu hDu
  rw [show (TG == T) = true by rw [beq_iff_eq]; exact HE.out] at heq0
  have heq := heq0.mono (R' := fun e w' => e = .returned (.bool true) ∧ Below W3.heap.size W3 w') fun e w' ⟨h1, m, h2⟩ => ⟨h1, by rw [h2]; exact below_drewN (Below.refl _ _).drew m⟩
  clear heq0
  refine wp_region_gate (fun _ => True) 3 (by kernel_rfl) ?_
  have hS : (fun _ : World => True) W3.drew := trivial
  refine wpAnyG_any (i := 0) (v := ?_) rfl (by kernel_rfl) (by kernel_rfl) (by kernel_rfl) (fun _ _ _ h => h) (by kernel_rfl) (fun _ => hS) (by kernel_rfl) ?_ ?_
  rotate_left
  · intro _; go_simp; try with_reducible rfl
  simp only [Act.put, sI, sZ, sS]
  refine wpAnyG_any (i := 1) (v := ?_) rfl (by kernel_rfl) (by kernel_rfl) (by kernel_rfl) (fun _ _ _ h => h) (by kernel_rfl) (fun _ => hS) (by kernel_rfl) ?_ ?_
  rotate_left
  · intro _; go_simp; try with_reducible rfl
  simp only [Act.put, sI, sZ, sS]
  refine wpAnyG_one (i := 2) rfl (by kernel_rfl) (by kernel_rfl) (fun K hK => ?_)
  go_wp2_with (go_at_call 77; refine heq.mono ?_; rintro e w4 ⟨rfl, hb4⟩)
  refine hK.out _ _ (fun _ => hS) ?_
  clear hK K
  refine wpAnyG_one (i := 3) rfl (by kernel_rfl) (by kernel_rfl) (fun K hK => ?_)
  go_simp
  refine hK.out _ _ (fun h => absurd (show true = false from h) (by decide)) ?_
  clear hK K
  refine wpAnyG_done (by kernel_rfl) ?_ _
  have hK4 := hK3.below hb4 hK3.lt
  have hN4 := hN3.below hb4 hN3.lt
  have hB4 : Below w.heap.size w w4 := hB3.trans (hb4.mono hB3.size)
  have hxr := hxor w4 hB4
  clear hxor hK3 hN3 heq
  go_wp2_with (first
    | (refine wpList_ld rfl 23 _ rfl _ rfl hK4 Tryz.underlying23 sizeK hk ?_)
    | (refine wpList_ld rfl 101 _ rfl _ rfl hN4 Tryz.underlying101 sizeN hn ?_)
    | (go_at_call 106; refine hxr.mono ?_; rintro e w5 ⟨g5, rfl, hg5, hH5, hb5⟩))
  go_ret2
  exact ⟨g5, rfl, by have := hB4.size; omega, hH5, hB4.trans (hb5.mono hB4.size)⟩
set_option maxHeartbeats 2000000 in
theorem open_bad (k n : List Int) (x : Option Addr) (len cap : Nat) (o : List Int) (y : Option Addr) (lb cb : Nat) (z : List Int) (w : World) (hk : k.length = 32) (hn : n.length = 12) (hx : Bytes w x len cap o) (hy : Bytes w y lb cb z) (hl1 : len ≤ 100000) (hl2 : lb ≤ 100000) (hl : 16 ≤ lb) (huo : ∀ v ∈ o, isB v) (huz : ∀ v ∈ z, isB v)
    (he : ¬ tagL k n o (z.take (lb - 16)) = z.drop (lb - 16)) :
    Calls Tryz.prog 68 #[.agg (row .u8 k), .agg (row .u8 n), .slice x len cap, .slice y lb cb] w fun e w' => e = .returned (.tuple #[.slice none 0 0, .int .i64 4]) ∧ Below w.heap.size w w' := by
  obtain ⟨M, hM⟩ : ∃ M, lb - 16 = M := ⟨_, rfl⟩
  rw [hM] at he
  try rw [hM]
  have hzl := hy.len_eq
  have hcb := hy.le
  have htop := hy.top
  have hwM : IntKind.i64.wrap ((lb : Int) - 16) = (M : Int) := by rw [IntKind.wrap_i64]; omega
  have hM0 : ¬ (M : Int) < 0 := by omega
  obtain ⟨b, off, hyb⟩ : ∃ b off, y = some ⟨b, off, none⟩ := by
    rcases hy.at_ with h0 | ⟨b, off, h, _⟩
    · omega
    · exact ⟨b, off, h⟩
  subst hyb
  have hcutL : ∀ wx, (Instr.slice 41 (.slice (some ⟨b, off, none⟩) lb cb) none (some (.int .i64 (M : Int))) none).run Tryz.prog wx = .ok (.slice (subA (some ⟨b, off, none⟩) cb 0) M cb) wx := fun wx => run_cut_h wx _ lb cb M (by omega)
  have hcutR : ∀ wx, (Instr.slice 41 (.slice (some ⟨b, off, none⟩) lb cb) (some (.int .i64 (M : Int))) none none).run Tryz.prog wx = .ok (.slice (some ⟨b, off + M, none⟩) 16 (cb - M)) wx := fun wx => by
    have := run_cut_l wx (some ⟨b, off, none⟩) lb cb M (by omega)
    rw [show subA (some ⟨b, off, none⟩) cb M = some ⟨b, off + M, none⟩ by unfold subA; rw [if_neg (by omega), Option.map_some, Addr.add_mid', Nat.mul_one], show lb - M = 16 by omega] at this
    exact this
  have hat : ∀ (b off cap : Nat) (wx : World), (Instr.arrayAt 149 (.slice (some ⟨b, off, none⟩) 16 cap)).run Tryz.prog wx = .ok (.pointer (some ⟨b, off, none⟩)) wx := fun b off cap wx => run_arrayAt wx 149 _ 16 _ 16 cap Tryz.underlying149 (by omega)
  have hhid := fun wx (hb : Below w.heap.size w wx) => (hy.below hb).cut 0 M (by omega) (by omega)
  rw [List.drop_zero, Nat.sub_zero, Nat.sub_zero] at hhid
  have hrng := fun wx (hb : Below w.heap.size w wx) => (hy.below hb).rangeCut M
  have hHu : ∀ v ∈ z.take M, isB v := fun v hv => huz v (List.mem_of_mem_take hv)
  have hDu : ∀ v ∈ z.drop M, isB v := fun v hv => huz v (List.mem_of_mem_drop hv)
  have hDl : (z.drop M).length = 16 := by rw [List.length_drop]; omega
  have hTl : (tagL k n o (z.take M)).length = 16 := polyL_length _ _
  have hTu := tagL_in k n o (z.take M) huo hHu
  obtain ⟨H, hH⟩ : ∃ q, z.take M = q := ⟨_, rfl⟩
  obtain ⟨T, hT⟩ : ∃ q, z.drop M = q := ⟨_, rfl⟩
  obtain ⟨Y1, hY1⟩ : ∃ q, subA (some ⟨b, off, none⟩) cb 0 = q := ⟨_, rfl⟩
  rw [hH] at he hhid hHu hTl hTu
  try rw [hH]
  rw [hT] at he hrng hDu hDl
  rw [hY1] at hcutL hhid
  have htag := fun wx (hb : Below w.heap.size w wx) => tagOf_any k n x len cap o Y1 M cb H wx hk hn (hx.below hb) (hhid wx hb) hl1 (by omega)
  have hxor := fun wx (hb : Below w.heap.size w wx) => xor_any k n 1 Y1 M cb H wx hk hn ⟨by decide, by decide⟩ (hhid wx hb) (by omega)
  have HE : Veil (¬ tagL k n o H = T) := ⟨he⟩
  obtain ⟨TG, hTG⟩ : ∃ q, tagL k n o H = q := ⟨_, rfl⟩
  rw [hTG] at htag hTl hTu HE
  have iT : (Tryz.prog.info? 149).map (·.size) = some (T.map (Value.int .u8)).length := by rw [List.length_map, hDl]; exact sizeT
  have uT := Tryz.underlying149
  have hK0 := (Holds.new w .u8 23 k).alloc (.cells (row .u8 n) 101)
  have hN0 := Holds.new (w.alloc (.cells (row .u8 k) 23)) .u8 101 n
  have hB0 : Below w.heap.size w ((w.alloc (.cells (row .u8 k) 23)).alloc (.cells (row .u8 n) 101)) := ((Below.refl _ _).alloc (Nat.le_refl _) _).alloc (by simp) _
  rw [World.size_alloc] at hN0
  clear hH hT hY1 hTG hx hy he huo huz hzl hM
  go_enter Tryz.func68, Tryz.ntmps68
  go_upto_region 4 with fail
  refine forget (p := fun y => Code.wp _ _ _ _ y) (fun W0 => Below w.heap.size w W0 ∧ Holds W0 w.heap.size .u8 23 k ∧ Holds W0 (w.heap.size + 1) .u8 101 n) ⟨hB0, hK0, hN0⟩ ?_
  clear hK0 hN0 hB0
  rintro W0 ⟨hB0, hK0, hN0⟩
  have hA1 := (Holds.new W0 .u8 149 (List.replicate 16 0)).drew
  have hBd := hB0.drew
  refine wp_region_gate (fun w' => w'.rangeAt b (off + M) (T.map (Value.int .u8))) 10 (by kernel_rfl) ?_
  have hS := hrng _ hBd
  refine wpAnyG_any (i := 0) (v := ?_) rfl (by kernel_rfl) (by kernel_rfl) (by kernel_rfl) (fun _ _ _ h => h) (by kernel_rfl) (fun _ => hS) (by kernel_rfl) ?_ ?_
  rotate_left
  · intro _; go_simp; try with_reducible rfl
  simp only [Act.put, sI, sZ, sS]
  refine wpAnyG_any (i := 1) (v := ?_) rfl (by kernel_rfl) (by kernel_rfl) (by kernel_rfl) (fun _ _ _ h => h) (by kernel_rfl) (fun _ => hS) (by kernel_rfl) ?_ ?_
  rotate_left
  · intro _; go_simp; try with_reducible rfl
  simp only [Act.put, sI, sZ, sS]
  refine wpAnyG_any (i := 2) (v := ?_) rfl (by kernel_rfl) (by kernel_rfl) (by kernel_rfl) (fun _ _ _ h => h) (by kernel_rfl) (fun _ => hS) (by kernel_rfl) ?_ ?_
  rotate_left
  · intro _; go_simp; try with_reducible rfl
  simp only [Act.put, sI, sZ, sS]
  refine wpAnyG_any (i := 3) (v := ?_) rfl (by kernel_rfl) (by kernel_rfl) (by kernel_rfl) (fun _ _ _ h => h) (by kernel_rfl) (fun _ => hS) (by kernel_rfl) ?_ ?_
  rotate_left
  · intro _; go_simp; try with_reducible rfl
  simp only [Act.put, sI, sZ, sS]
  refine wpAnyG_any (i := 4) (v := ?_) rfl (by kernel_rfl) (by kernel_rfl) (by kernel_rfl) (fun _ _ _ h => h) (by kernel_rfl) (fun _ => hS) (by kernel_rfl) ?_ ?_
  rotate_left
  · intro _; go_simp; try with_reducible rfl
  simp only [Act.put, sI, sZ, sS]
  refine wpAnyG_any (i := 5) (v := ?_) rfl (by kernel_rfl) (by kernel_rfl) (by kernel_rfl) (fun _ _ _ h => h) (by kernel_rfl) (fun _ => hS) (by kernel_rfl) ?_ ?_
  rotate_left
  · intro _; go_simp; try with_reducible rfl
  simp only [Act.put, sI, sZ, sS]
  refine wpAnyG_any (i := 6) (v := ?_) rfl (by kernel_rfl) (by kernel_rfl) (by kernel_rfl) (fun _ _ _ h => h) (by kernel_rfl) (fun _ => hS) (by kernel_rfl) ?_ ?_
  rotate_left
  · intro _; go_simp; try with_reducible rfl
  simp only [Act.put, sI, sZ, sS]
  refine wpAnyG_load (i := 7) (dst := some 26) (ty := 149) (x := .tmp 25) (b := b) (o := ((off + M))) (cs := (T.map (Value.int .u8))) (by kernel_rfl) (by kernel_rfl) (by kernel_rfl) (by kernel_rfl) (by kernel_rfl) (fun _ _ _ h => h) (by kernel_rfl) (by kernel_rfl) (by kernel_rfl) hS (by kernel_rfl) (fun _ h => h) uT rfl iT ?_
  simp only [Act.put, sI, sZ, sS]
  refine wpAnyG_one (i := 8) rfl (by kernel_rfl) (by kernel_rfl) (fun K hK => ?_)
  go_simp
  replace hS := hrng _ (hB0.alloc hB0.size (.cells (row .u8 (List.replicate 16 0)) 149)).drew
  refine hK.out _ _ (fun _ => hS) ?_
  clear hK K
  refine wpAnyG_any (i := 9) (v := ?_) rfl (by kernel_rfl) (by kernel_rfl) (by kernel_rfl) (fun _ _ _ h => h) (by kernel_rfl) (fun _ => hS) (by kernel_rfl) ?_ ?_
  rotate_left
  · intro _; go_simp; try with_reducible rfl
  simp only [Act.put, sI, sZ, sS]
  refine wpAnyG_one (i := 10) rfl (by kernel_rfl) (by kernel_rfl) (fun K hK => ?_)
  refine wp_stG 149 _ _ rfl _ rfl rfl hA1 (by rw [hDl]; exact sizeT) (by simp [hDl]) ?_
  refine hK.out _ _ (fun h => absurd (show true = false from h) (by decide)) ?_
  clear hK K
  refine wpAnyG_done (by kernel_rfl) ?_ _
  have hsz := hB0.size
  refine forget (p := fun y => Exit.then _ _ _ _ y) (fun W1 => Below w.heap.size w W1 ∧ Below W0.heap.size W0 W1 ∧ Holds W1 W0.heap.size .u8 149 T) ⟨below_setRow (hB0.alloc hB0.size _).drew hB0.size _, below_setRow ((Below.refl _ _).alloc (Nat.le_refl _) _).drew (Nat.le_refl _) _, hA1.setRow _⟩ ?_
  rintro W1 ⟨hB1, hb01, hT1⟩
  have hK1 := hK0.below hb01 hK0.lt
  have hN1 := hN0.below hb01 hN0.lt
  have hlt1 := hT1.lt
  obtain ⟨G1, hG1⟩ : ∃ q, W0.heap.size = q := ⟨_, rfl⟩
  rw [hG1] at hT1 hsz hlt1 ⊢
  clear hG1 hA1 hBd hK0 hN0 hB0 hb01 hS hrng hcutL hcutR hat
  have htg := htag W1 hB1
  simp only [Act.put, sI, sZ, sS]
  go_upto_region 6 with (first
    | (refine wpList_ld rfl 23 _ rfl _ rfl hK1 Tryz.underlying23 sizeK hk ?_)
    | (refine wpList_ld rfl 101 _ rfl _ rfl hN1 Tryz.underlying101 sizeN hn ?_)
    | (go_at_call 107; refine htg.mono ?_; rintro e w2 ⟨rfl, hb2⟩; have hA2 := Holds.new w2 .u8 149 (List.replicate 16 0))
    | (refine wpList_st rfl 149 _ _ rfl _ rfl rfl hA2 (by rw [hTl]; exact sizeT) (by simp [hTl]) ?_))
  have hB2 : Below w.heap.size w w2 := hB1.trans (hb2.mono hB1.size)
  have hb12 : Below W1.heap.size W1 ((w2.alloc (.cells (row .u8 (List.replicate 16 0)) 149)).setRow w2.heap.size (row .u8 TG)) := below_setRow (hb2.alloc hb2.size _) hb2.size _
  have hB3 := below_setRow (g := w2.heap.size) (hB2.alloc hB2.size (.cells (row .u8 (List.replicate 16 0)) 149)) hB2.size (row .u8 TG)
  refine forget (p := fun y => Code.wp _ _ _ _ y) (fun W3 => Below w.heap.size w W3 ∧ Holds W3 w2.heap.size .u8 149 TG ∧ Holds W3 G1 .u8 149 T ∧ Holds W3 w.heap.size .u8 23 k ∧ Holds W3 (w.heap.size + 1) .u8 101 n) ⟨hB3, hA2.setRow _, hT1.below hb12 hT1.lt, hK1.below hb12 hK1.lt, hN1.below hb12 hN1.lt⟩ ?_
  obtain ⟨G2, hG2⟩ : ∃ q, w2.heap.size = q := ⟨_, rfl⟩
  rw [hG2]
  clear hB2 hb12 hB3 hA2 hb2 htg htag hB1 hK1 hN1 hT1 hG2 hlt1
  rintro W3 ⟨hB3, hTG3, hT3, hK3, hN3⟩
  have heq0 := equal_any (some ⟨G2, 0, none⟩) 16 16 TG (some ⟨G1, 0, none⟩) 16 16 T W3.drew (hTG3.drew.bytes hTl.symm (by omega)) (hT3.drew.bytes hDl.symm (by omega)) hTu hDu
  rw [show (TG == T) = false by rw [beq_eq_false_iff_ne]; exact HE.out] at heq0
  have heq := heq0.mono (R' := fun e w' => e = .returned (.bool false) ∧ Below W3.heap.size W3 w') fun e w' ⟨h1, m, h2⟩ => ⟨h1, by rw [h2]; exact below_drewN (Below.refl _ _).drew m⟩
  clear heq0
  refine wp_region_gate (fun _ => True) 3 (by kernel_rfl) ?_
  have hS : (fun _ : World => True) W3.drew := trivial
  refine wpAnyG_any (i := 0) (v := ?_) rfl (by kernel_rfl) (by kernel_rfl) (by kernel_rfl) (fun _ _ _ h => h) (by kernel_rfl) (fun _ => hS) (by kernel_rfl) ?_ ?_
  rotate_left
  · intro _; go_simp; try with_reducible rfl
  simp only [Act.put, sI, sZ, sS]
  refine wpAnyG_any (i := 1) (v := ?_) rfl (by kernel_rfl) (by kernel_rfl) (by kernel_rfl) (fun _ _ _ h => h) (by kernel_rfl) (fun _ => hS) (by kernel_rfl) ?_ ?_
  rotate_left
  · intro _; go_simp; try with_reducible rfl
  simp only [Act.put, sI, sZ, sS]
  refine wpAnyG_one (i := 2) rfl (by kernel_rfl) (by kernel_rfl) (fun K hK => ?_)
  go_wp2_with (go_at_call 77; refine heq.mono ?_; rintro e w4 ⟨rfl, hb4⟩)
  refine hK.out _ _ (fun _ => hS) ?_
  clear hK K
  refine wpAnyG_one (i := 3) rfl (by kernel_rfl) (by kernel_rfl) (fun K hK => ?_)
  go_simp
  refine hK.out _ _ (fun h => absurd (show true = false from h) (by decide)) ?_
  clear hK K
  refine wpAnyG_done (by kernel_rfl) ?_ _
  have hB4 : Below w.heap.size w w4 := hB3.trans (hb4.mono hB3.size)
  clear hxor hK3 hN3 heq
  go_wp2
  go_ret2
  exact ⟨rfl, hB4⟩
end Go.Proofs.YtfainlfiphdaeaaGreatDoor
namespace Go.Proofs.YtfainlfiphdaeaaGreatDoor
open Go.RowKit
set_option maxRecDepth 20000
set_option linter.unusedSimpArgs false
theorem sealL_length (k n o b : List Int) : (sealL k n o b).length = b.length + 16 := by
  unfold sealL
  rw [List.length_append, xorL_length, show (tagL k n o (xorL k n 1 b)).length = 16 from polyL_length _ _]
theorem seal_take (k n o b : List Int) (m : Nat) (hm : m = b.length) : (sealL k n o b).take m = xorL k n 1 b := by
  unfold sealL
  rw [List.take_left' (by rw [xorL_length, hm])]
theorem seal_drop (k n o b : List Int) (m : Nat) (hm : m = b.length) : (sealL k n o b).drop m = tagL k n o (xorL k n 1 b) := by
  unfold sealL
  rw [List.drop_left' (by rw [xorL_length, hm])]
theorem sealL_in (k n o b : List Int) (ho : ∀ v ∈ o, isB v) (hb : ∀ v ∈ b, isB v) : ∀ v ∈ sealL k n o b, isB v := by
  intro v hv
  unfold sealL at hv
  rcases List.mem_append.1 hv with h | h
  · exact xorL_in k n 1 b hb v h
  · exact tagL_in k n o _ ho (xorL_in k n 1 b hb) v h
end Go.Proofs.YtfainlfiphdaeaaGreatDoor
namespace Go.Proofs.YtfainlfiphdaeaaGreatDoor
open Go.RowKit
set_option maxRecDepth 20000
set_option linter.unusedSimpArgs false
theorem part_one {P : Program} (w : World) (t : TypeId) (k : IntKind) (cs : List Value) (off : Nat) (v : Value) (hu : P.underlying t = some (.int k)) (hv : cs[off]? = some v) : (part t cs.toArray off).run P w = .ok v w := by
  simp [part, isAgg, run_underlying hu, hv]
theorem eqFields_2 {P : Program} (w : World) (d : Nat) (xs ys : Array Value) (t1 t2 : TypeId) (o1 o2 : Nat) (a1 b1 a2 b2 : Value) (r1 r2 : Bool) (h1 : (part t1 xs o1).run P w = .ok a1 w) (k1 : (part t1 ys o1).run P w = .ok b1 w) (h2 : (part t2 xs o2).run P w = .ok a2 w) (k2 : (part t2 ys o2).run P w = .ok b2 w)
    (e1 : (Op.equalIn d t1 a1 b1).run P w = .ok r1 w) (e2 : (Op.equalIn d t2 a2 b2).run P w = .ok r2 w) : ∀ L : List Field, L.map (fun f => (f.name != "_", f.type, f.offset)) = [(true, t1, o1), (true, t2, o2)] → (Op.eqFields d xs ys L).run P w = .ok (r1 && r2) w
  | [], hf => by simp at hf
  | [_], hf => by simp at hf
  | _ :: _ :: _ :: _, hf => by simp at hf
  | [f, g], hf => by
    simp only [List.map_cons, List.map_nil, List.cons.injEq, Prod.mk.injEq, and_true, bne_iff_ne, ne_eq] at hf
    obtain ⟨⟨q1, q2, q3⟩, p1, p2, p3⟩ := hf
    cases r1 <;> cases r2 <;> simp only [Op.eqFields, q1, q2, q3, p1, p2, p3, ne_eq, not_false_eq_true, if_true, Sem.run_bind, h1, h2, k1, k2, e1, e2, Result.andThen_ok, Bool.not_true, Bool.not_false, Bool.false_eq_true, if_false, Sem.run_pure, Bool.and_true, Bool.and_false]
theorem dot_fields : (Tryz.prog.fieldsOf 26).toList.map (fun f => (f.name != "_", f.type, f.offset)) = [(true, 5, 0), (true, 24, 1)] := by kernel_rfl
theorem dot_under : Tryz.prog.underlying 26 = some (.struct (Tryz.prog.fieldsOf 26)) := by kernel_rfl
theorem dot_held : Tryz.prog.stoodInHeld 26 = false := by kernel_rfl
theorem dot_eqIn (d : Nat) (a s a' s' : Int) (wx : World) : (Op.equalIn (d + 1 + 1) 26 (.agg (dotC a s).toArray) (.agg (dotC a' s').toArray)).run Tryz.prog wx = .ok ((a == a') && (s == s')) wx := by
  rw [run_equalIn_struct wx _ 26 _ _ dot_under dot_held]
  exact eqFields_2 wx _ _ _ _ _ _ _ (.int .u8 a) (.int .u8 a') (.int .u32 s) (.int .u32 s') _ _ (part_one wx _ _ (dotC a s) 0 _ Tryz.underlying5 rfl) (part_one wx _ _ (dotC a' s') 0 _ Tryz.underlying5 rfl) (part_one wx _ _ (dotC a s) 1 _ Tryz.underlying24 rfl) (part_one wx _ _ (dotC a' s') 1 _ Tryz.underlying24 rfl)
    (run_equalIn_int wx d 5 .u8 .u8 a a' Tryz.underlying5) (run_equalIn_int wx d 24 .u32 .u32 s s' Tryz.underlying24) _ dot_fields
theorem dot_eql (a s a' s' : Int) (wx : World) : (binOp BinOp.eql 26 (.agg (dotC a s).toArray) (.agg (dotC a' s').toArray)).run Tryz.prog wx = .ok (.bool ((a == a') && (s == s'))) wx := by
  rw [run_eql_struct, dot_eqIn 9998]; rfl
end Go.Proofs.YtfainlfiphdaeaaGreatDoor
