/- The statement AeadFramed, walked. -/
import Derived.Test.YtipfphnfkiildaaAo2
import Derived.Test.YtipfphnfkiildaaAn6
import Derived.Test.YtipfphnfkiildaaAa
namespace Go.Proofs.Ytipfphnfkiildaa
open Go.RowKit
set_option maxRecDepth 20000
set_option linter.unusedSimpArgs false

theorem eqKeyA (l : List Int) (hl : l.length = 32) (w : World) : (Op.equalIn 10000 23 (.agg (row .u8 l)) (.agg (row .u8 l))).run Try.prog w = .ok true w := by
  have := run_equalIn_rows w 9998 .u8 l l Try.underlying23 Try.underlying5 cellsU8P infoSomeU8P hl hl
  rw [beq_self_eq_true] at this
  exact this
theorem guardKeyA : Try.prog.eqGuardType Try.prog.depth 23 = false := by kernel_rfl

set_option maxHeartbeats 4000000 in
theorem framed_walk (k n : List Int) (x : Option Addr) (len cap : Nat) (o : List Int) (y : Option Addr) (lb cb : Nat) (z : List Int) (w : World) (hk : k.length = 32) (hn : n.length = 12) (hx : Bytes w x len cap o) (hz : Bytes w y lb cb z) :
    Calls Try.prog 3 #[.agg (ask5Row k n (.slice x len cap)), .slice y lb cb] w fun e w' => e = .returned (.bool true) ∧ Below w.heap.size w w' := by
  have uK := Try.underlying23
  have uN := Try.underlying25
  have iK := sizeKey5 k hk
  have iN := sizeNonce5 n hn
  have hf1 : ∀ wx, Below w.heap.size w wx → Calls Try.prog 4 #[.slice x len cap, .int .i64 200] wx fun e w' => e = .returned (.slice x (min len 200) cap) ∧ wx = w' := fun wx hb => few5_any x len cap 200 o wx (hx.below hb) (by omega) (by omega)
  have hf2 : ∀ wx, Below w.heap.size w wx → Calls Try.prog 4 #[.slice y lb cb, .int .i64 300] wx fun e w' => e = .returned (.slice y (min lb 300) cb) ∧ wx = w' := fun wx hb => few5_any y lb cb 300 z wx (hz.below hb) (by omega) (by omega)
  have hx2 := hx.few 200
  have hz2 := hz.few 300
  obtain ⟨m1, hm1⟩ : ∃ q, min len 200 = q := ⟨_, rfl⟩
  obtain ⟨m2, hm2⟩ : ∃ q, min lb 300 = q := ⟨_, rfl⟩
  have h1 : m1 ≤ 200 := by omega
  have h2 : m2 ≤ 300 := by omega
  rw [hm1] at hf1 hx2
  rw [hm2] at hf2 hz2
  obtain ⟨O, hO⟩ : ∃ q, o.take 200 = q := ⟨_, rfl⟩
  obtain ⟨Z, hZ⟩ : ∃ q, z.take 300 = q := ⟨_, rfl⟩
  rw [hO] at hx2
  rw [hZ] at hz2
  have hFl := framedL_length O Z
  have hFm := framedL_mod O Z
  rw [← hx2.len_eq, ← hz2.len_eq] at hFl
  have hfl1 := fillN_lt m1
  have hfl2 := fillN_lt m2
  have hfr := fun wx (hb : Below w.heap.size w wx) => framed_any x m1 cap O y m2 cb Z wx (hx2.below hb) (hz2.below hb) (by omega) (by omega)
  have hrf := fun wx (hb : Below w.heap.size w wx) => refFramed_any x m1 cap O y m2 cb Z wx (hx2.below hb) (hz2.below hb) (by omega) (by omega)
  have hon : ∀ wx, Calls Try.prog 7 #[.agg (List.map (Value.int .u8) k).toArray, .agg (List.map (Value.int .u8) n).toArray] wx fun e w' => e = .returned (.agg (row .u8 (onceL k n))) ∧ Below wx.heap.size wx w' := fun wx => onetime_any k n wx hk hn
  have hro : ∀ wx, Calls Try.prog 8 #[.agg (List.map (Value.int .u8) k).toArray, .agg (List.map (Value.int .u8) n).toArray] wx fun e w' => e = .returned (.agg (row .u8 (onceL k n))) ∧ Below wx.heap.size wx w' := fun wx => refOnce_any k n wx hk hn
  have hE := fun wx => eqKeyA (onceL k n) (onceL_length k n) wx
  have hgd := guardKeyA
  obtain ⟨OT, hOT⟩ : ∃ q, onceL k n = q := ⟨_, rfl⟩
  rw [hOT] at hon hro hE
  obtain ⟨F, hF⟩ : ∃ q, framedL O Z = q := ⟨_, rfl⟩
  rw [hF] at hfr hrf hFl hFm
  obtain ⟨NF, hNF⟩ : ∃ q, F.length = q := ⟨_, rfl⟩
  rw [hNF] at hFl hFm
  have HNF : Veil (F.length = NF) := ⟨hNF⟩
  have hmod : (NF : Int).tmod 16 = 0 := by rw [Int.tmod_eq_emod_of_nonneg (by omega)]; omega
  have hwa : IntKind.i64.wrap ((m1 : Int) + (m2 : Int)) = (m1 : Int) + (m2 : Int) := by rw [IntKind.wrap_i64]; omega
  have hwb : IntKind.i64.wrap ((m1 : Int) + (m2 : Int) + 16) = (m1 : Int) + (m2 : Int) + 16 := by rw [IntKind.wrap_i64]; omega
  have hge : (NF : Int) ≥ (m1 : Int) + (m2 : Int) + 16 := by omega
  have hA0 := Ask5At.new w k n (.slice x len cap)
  have hB0 : Below w.heap.size w (w.alloc (.cells (ask5Row k n (.slice x len cap)) 28)) := (Below.refl _ _).alloc (Nat.le_refl _) _
  clear hm1 hm2 hx hz hO hZ hOT hF hNF hFl hFm hfl1 hfl2 hx2 hz2
  go_enter Try.func3, Try.ntmps3
  go_upto_region 1 with fail
  obtain ⟨W0, hW0⟩ : ∃ W, w.alloc (.cells (ask5Row k n (.slice x len cap)) 28) = W := ⟨_, rfl⟩
  rw [hW0] at hA0 hB0 ⊢
  clear hW0
  have c44 := hA0.open_ hk hn
  have f44 := hA0.frozen 44
  go_upto_region 2 with (first
    | (go_at_call 4; refine (hf1 _ hB0).mono ?_; rintro e w3 ⟨rfl, rfl⟩; clear hf1)
    | (go_at_call 4; refine (hf2 _ hB0).mono ?_; rintro e w3 ⟨rfl, rfl⟩))
  refine forget (p := fun y => Code.wp _ _ _ _ y) (fun W1 => Below w.heap.size w W1 ∧ Ask5At W1 w.heap.size k n (.slice x m1 cap)) ⟨hB0.setCell (by simp) _, hA0.set hk hn _⟩ ?_
  clear c44 f44 hA0 hB0 hf2
  rintro W1 ⟨hB1, hA1⟩
  have c44 := hA1.open_ hk hn
  have hfr1 := hfr W1 hB1
  go_upto_region 3 with (go_at_call 5; refine hfr1.mono ?_; rintro e w1 ⟨v1, rfl, ho1, hb1⟩)
  obtain ⟨x1, n1, c1, rfl, hn1⟩ := ho1.isSlice
  rw [HNF.out] at hn1
  have hn1' := hn1.symm
  clear hn1
  subst hn1'
  have hy1 := ho1.bytes.2
  have hB2 : Below w.heap.size w w1 := hB1.trans (hb1.mono hB1.size)
  have hA2 := hA1.below hb1 hA1.lt
  clear ho1 hA1 c44 hfr1 hfr
  obtain ⟨SF, hSF⟩ : ∃ s, strOfNums F = s := ⟨_, rfl⟩
  have keep : ∀ w', Below w1.heap.size w1 w' → w'.rangeAt w.heap.size 0 (k.map (Value.int .u8)) ∧ w'.rangeAt w.heap.size 32 (n.map (Value.int .u8)) ∧ w'.cell? ⟨w.heap.size, 44, none⟩ = some (.slice x m1 cap) ∧ (convert 26 9 (.slice x1 NF c1)).run Try.prog w' = .ok (.string SF) w' := fun w' hb => by
    have hA' := hA2.below hb hA2.lt
    exact ⟨hA'.key, hA'.nonce hk, hA'.open_ hk hn, by rw [← hSF]; exact conv_bytes (hy1.below hb)⟩
  have hrf2 : ∀ wx, Below w1.heap.size w1 wx → Calls Try.prog 9 #[.slice x m1 cap, .slice y m2 cb] wx fun e w' => ∃ x' n' c', e = .returned (.slice x' n' c') ∧ Bytes w' x' n' c' F ∧ Below wx.heap.size wx w' := fun wx hx => (hrf wx (hB2.trans (hx.mono hB2.size))).mono fun e w' ⟨u, h1, h2, h3⟩ => by
      obtain ⟨x', n', c', rfl, _⟩ := h2.isSlice
      exact ⟨x', n', c', h1, h2.bytes.2, h3⟩
  clear hrf hA2 hy1
  refine wp_region_gate (fun w' => w'.rangeAt w.heap.size 0 (k.map (Value.int .u8)) ∧ w'.rangeAt w.heap.size 32 (n.map (Value.int .u8)) ∧ w'.cell? ⟨w.heap.size, 44, none⟩ = some (.slice x m1 cap) ∧ (convert 26 9 (.slice x1 NF c1)).run Try.prog w' = .ok (.string SF) w') 42 (by kernel_rfl) ?_
  refine wpAnyG_one (i := 0) rfl (by kernel_rfl) (by kernel_rfl) (fun K hK => ?_)
  go_wp2_with (go_at_call 6; refine (live5_any _).mono ?_; rintro e w3 ⟨rfl, hb3⟩)
  have hB3 : Below w1.heap.size w1 w3 := ((Below.refl _ _).drew).trans hb3
  have hS := keep _ hB3
  refine hK.out _ _ (fun _ => hS) ?_
  clear hK K
  refine wpAnyG_any (i := 1) (v := ?_) rfl (by kernel_rfl) (by kernel_rfl) (by kernel_rfl) (fun _ _ _ h => h) (by kernel_rfl) (fun _ => hS) (by kernel_rfl) ?_ ?_
  rotate_left
  · intro _; go_simp; try with_reducible rfl
  simp only [Act.put, List.setIfInBounds_toArray, List.set_cons_zero, List.set_cons_succ]
  refine wpAnyG_any (i := 2) (v := ?_) rfl (by kernel_rfl) (by kernel_rfl) (by kernel_rfl) (fun _ _ _ h => h) (by kernel_rfl) (fun _ => hS) (by kernel_rfl) ?_ ?_
  rotate_left
  · intro _; go_simp; try with_reducible rfl
  simp only [Act.put, List.setIfInBounds_toArray, List.set_cons_zero, List.set_cons_succ]
  refine wpAnyG_load (i := 3) (dst := some 19) (ty := 23) (x := .tmp 18) (b := w.heap.size) (o := (0)) (cs := (k.map (Value.int .u8))) (by kernel_rfl) (by kernel_rfl) (by kernel_rfl) (by kernel_rfl) (by kernel_rfl) (fun _ _ _ h => h) (by kernel_rfl) (by kernel_rfl) (by kernel_rfl) hS (by kernel_rfl) (fun _ h => h.1) uK rfl iK ?_
  simp only [Act.put, List.setIfInBounds_toArray, List.set_cons_zero, List.set_cons_succ]
  refine wpAnyG_any (i := 4) (v := ?_) rfl (by kernel_rfl) (by kernel_rfl) (by kernel_rfl) (fun _ _ _ h => h) (by kernel_rfl) (fun _ => hS) (by kernel_rfl) ?_ ?_
  rotate_left
  · intro _; go_simp; try with_reducible rfl
  simp only [Act.put, List.setIfInBounds_toArray, List.set_cons_zero, List.set_cons_succ]
  refine wpAnyG_load (i := 5) (dst := some 21) (ty := 25) (x := .tmp 20) (b := w.heap.size) (o := (32)) (cs := (n.map (Value.int .u8))) (by kernel_rfl) (by kernel_rfl) (by kernel_rfl) (by kernel_rfl) (by kernel_rfl) (fun _ _ _ h => h) (by kernel_rfl) (by kernel_rfl) (by kernel_rfl) hS (by kernel_rfl) (fun _ h => h.2.1) uN rfl iN ?_
  simp only [Act.put, List.setIfInBounds_toArray, List.set_cons_zero, List.set_cons_succ]
  refine wpAnyG_any (i := 7) (v := ?_) rfl (by kernel_rfl) (by kernel_rfl) (by kernel_rfl) (fun _ _ _ h => h) (by kernel_rfl) (fun _ => hS) (by kernel_rfl) ?_ ?_
  rotate_left
  · intro _; go_simp; try with_reducible rfl
  simp only [Act.put, List.setIfInBounds_toArray, List.set_cons_zero, List.set_cons_succ]
  refine wpAnyG_load (i := 8) (dst := some 24) (ty := 23) (x := .tmp 23) (b := w.heap.size) (o := (0)) (cs := (k.map (Value.int .u8))) (by kernel_rfl) (by kernel_rfl) (by kernel_rfl) (by kernel_rfl) (by kernel_rfl) (fun _ _ _ h => h) (by kernel_rfl) (by kernel_rfl) (by kernel_rfl) hS (by kernel_rfl) (fun _ h => h.1) uK rfl iK ?_
  simp only [Act.put, List.setIfInBounds_toArray, List.set_cons_zero, List.set_cons_succ]
  refine wpAnyG_any (i := 9) (v := ?_) rfl (by kernel_rfl) (by kernel_rfl) (by kernel_rfl) (fun _ _ _ h => h) (by kernel_rfl) (fun _ => hS) (by kernel_rfl) ?_ ?_
  rotate_left
  · intro _; go_simp; try with_reducible rfl
  simp only [Act.put, List.setIfInBounds_toArray, List.set_cons_zero, List.set_cons_succ]
  refine wpAnyG_load (i := 10) (dst := some 26) (ty := 25) (x := .tmp 25) (b := w.heap.size) (o := (32)) (cs := (n.map (Value.int .u8))) (by kernel_rfl) (by kernel_rfl) (by kernel_rfl) (by kernel_rfl) (by kernel_rfl) (fun _ _ _ h => h) (by kernel_rfl) (by kernel_rfl) (by kernel_rfl) hS (by kernel_rfl) (fun _ h => h.2.1) uN rfl iN ?_
  simp only [Act.put, List.setIfInBounds_toArray, List.set_cons_zero, List.set_cons_succ]
  refine wpAnyG_one (i := 6) rfl (by kernel_rfl) (by kernel_rfl) (fun K hK => ?_)
  go_wp2_with (go_at_call 7; refine (hon _).mono ?_; rintro e w4 ⟨rfl, hb4⟩)
  have hB4 : Below w1.heap.size w1 w4 := hB3.trans (hb4.mono hB3.size)
  replace hS := keep _ hB4
  refine hK.out _ _ (fun _ => hS) ?_
  clear hK K
  refine wpAnyG_one (i := 11) rfl (by kernel_rfl) (by kernel_rfl) (fun K hK => ?_)
  go_wp2_with (go_at_call 8; refine (hro _).mono ?_; rintro e w5 ⟨rfl, hb5⟩)
  have hB5 : Below w1.heap.size w1 w5 := hB4.trans (hb5.mono hB4.size)
  replace hS := keep _ hB5
  refine hK.out _ _ (fun _ => hS) ?_
  clear hK K
  refine wpAnyG_any (i := 12) (v := .bool true) rfl (by kernel_rfl) (by kernel_rfl) (by kernel_rfl) (fun _ _ _ h => h) (by kernel_rfl) (fun _ => hS) (by kernel_rfl) ?_ ?_
  · intro _; go_simp
  simp only [Act.put, List.setIfInBounds_toArray, List.set_cons_zero, List.set_cons_succ]
  refine wpAnyG_any (i := 13) (v := .bool true) rfl (by kernel_rfl) (by kernel_rfl) (by kernel_rfl) (fun _ _ _ h => h) (by kernel_rfl) (fun _ => hS) (by kernel_rfl) ?_ ?_
  · intro _; go_simp
  simp only [Act.put, List.setIfInBounds_toArray, List.set_cons_zero, List.set_cons_succ]
  refine wpAnyG_any (i := 14) (v := .bool true) rfl (by kernel_rfl) (by kernel_rfl) (by kernel_rfl) (fun _ _ _ h => h) (by kernel_rfl) (fun _ => hS) (by kernel_rfl) ?_ ?_
  · intro _; go_simp
  simp only [Act.put, List.setIfInBounds_toArray, List.set_cons_zero, List.set_cons_succ]
  refine wpAnyG_any (i := 15) (v := ?_) rfl (by kernel_rfl) (by kernel_rfl) (by kernel_rfl) (fun _ _ _ h => h) (by kernel_rfl) (fun _ => hS) (by kernel_rfl) ?_ ?_
  rotate_left
  · intro _; go_simp; try with_reducible rfl
  simp only [Act.put, List.setIfInBounds_toArray, List.set_cons_zero, List.set_cons_succ]
  refine wpAnyG_read (i := 16) (v := ?_) rfl (by kernel_rfl) (by kernel_rfl) (by kernel_rfl) (fun _ _ _ h => h) (by kernel_rfl) (by kernel_rfl) (by kernel_rfl) hS (by kernel_rfl) ?_ ?_
  rotate_left
  · intro wx hSw; go_split_ands; go_simp; try with_reducible rfl
  simp only [Act.put, List.setIfInBounds_toArray, List.set_cons_zero, List.set_cons_succ]
  refine wpAnyG_any (i := 17) (v := ?_) rfl (by kernel_rfl) (by kernel_rfl) (by kernel_rfl) (fun _ _ _ h => h) (by kernel_rfl) (fun _ => hS) (by kernel_rfl) ?_ ?_
  rotate_left
  · intro _; go_simp; try with_reducible rfl
  simp only [Act.put, List.setIfInBounds_toArray, List.set_cons_zero, List.set_cons_succ]
  refine wpAnyG_read (i := 18) (v := ?_) rfl (by kernel_rfl) (by kernel_rfl) (by kernel_rfl) (fun _ _ _ h => h) (by kernel_rfl) (by kernel_rfl) (by kernel_rfl) hS (by kernel_rfl) ?_ ?_
  rotate_left
  · intro wx hSw; go_split_ands; go_simp; try with_reducible rfl
  simp only [Act.put, List.setIfInBounds_toArray, List.set_cons_zero, List.set_cons_succ]
  refine wpAnyG_any (i := 19) (v := ?_) rfl (by kernel_rfl) (by kernel_rfl) (by kernel_rfl) (fun _ _ _ h => h) (by kernel_rfl) (fun _ => hS) (by kernel_rfl) ?_ ?_
  rotate_left
  · intro _; go_simp; try with_reducible rfl
  simp only [Act.put, List.setIfInBounds_toArray, List.set_cons_zero, List.set_cons_succ]
  refine wpAnyG_one (i := 20) rfl (by kernel_rfl) (by kernel_rfl) (fun K hK => ?_)
  go_wp2_with (go_at_call 9; refine (hrf2 _ hB5).mono ?_; rintro e w6 ⟨x6, n6, c6, rfl, hY6, hb6⟩)
  have hB6 : Below w1.heap.size w1 w6 := hB5.trans (hb6.mono hB5.size)
  replace hS := keep _ hB6
  have hcv : (convert 26 9 (.slice x6 n6 c6)).run Try.prog w6 = .ok (.string SF) w6 := by rw [← hSF]; exact conv_bytes hY6
  clear hSF
  refine hK.out _ _ (fun _ => hS) ?_
  clear hK K
  refine wpAnyG_one (i := 21) rfl (by kernel_rfl) (by kernel_rfl) (fun K hK => ?_)
  go_simp
  refine hK.out _ _ (fun _ => hS) ?_
  clear hK K
  refine wpAnyG_any (i := 22) (v := .bool true) rfl (by kernel_rfl) (by kernel_rfl) (by kernel_rfl) (fun _ _ _ h => h) (by kernel_rfl) (fun _ => hS) (by kernel_rfl) ?_ ?_
  · intro _; go_simp
  simp only [Act.put, List.setIfInBounds_toArray, List.set_cons_zero, List.set_cons_succ]
  refine wpAnyG_any (i := 23) (v := .bool true) rfl (by kernel_rfl) (by kernel_rfl) (by kernel_rfl) (fun _ _ _ h => h) (by kernel_rfl) (fun _ => hS) (by kernel_rfl) ?_ ?_
  · intro _; go_simp
  simp only [Act.put, List.setIfInBounds_toArray, List.set_cons_zero, List.set_cons_succ]
  refine wpAnyG_any (i := 24) (v := .bool true) rfl (by kernel_rfl) (by kernel_rfl) (by kernel_rfl) (fun _ _ _ h => h) (by kernel_rfl) (fun _ => hS) (by kernel_rfl) ?_ ?_
  · intro _; go_simp
  simp only [Act.put, List.setIfInBounds_toArray, List.set_cons_zero, List.set_cons_succ]
  refine wpAnyG_any (i := 25) (v := ?_) rfl (by kernel_rfl) (by kernel_rfl) (by kernel_rfl) (fun _ _ _ h => h) (by kernel_rfl) (fun _ => hS) (by kernel_rfl) ?_ ?_
  rotate_left
  · intro _; go_simp; try with_reducible rfl
  simp only [Act.put, List.setIfInBounds_toArray, List.set_cons_zero, List.set_cons_succ]
  refine wpAnyG_any (i := 26) (v := ?_) rfl (by kernel_rfl) (by kernel_rfl) (by kernel_rfl) (fun _ _ _ h => h) (by kernel_rfl) (fun _ => hS) (by kernel_rfl) ?_ ?_
  rotate_left
  · intro _; go_simp; try with_reducible rfl
  simp only [Act.put, List.setIfInBounds_toArray, List.set_cons_zero, List.set_cons_succ]
  refine wpAnyG_any (i := 27) (v := .int .i64 0) rfl (by kernel_rfl) (by kernel_rfl) (by kernel_rfl) (fun _ _ _ h => h) (by kernel_rfl) (fun _ => hS) (by kernel_rfl) ?_ ?_
  · intro _; go_simp
  simp only [Act.put, List.setIfInBounds_toArray, List.set_cons_zero, List.set_cons_succ]
  refine wpAnyG_any (i := 28) (v := .bool true) rfl (by kernel_rfl) (by kernel_rfl) (by kernel_rfl) (fun _ _ _ h => h) (by kernel_rfl) (fun _ => hS) (by kernel_rfl) ?_ ?_
  · intro _; go_simp
  simp only [Act.put, List.setIfInBounds_toArray, List.set_cons_zero, List.set_cons_succ]
  refine wpAnyG_any (i := 29) (v := .bool true) rfl (by kernel_rfl) (by kernel_rfl) (by kernel_rfl) (fun _ _ _ h => h) (by kernel_rfl) (fun _ => hS) (by kernel_rfl) ?_ ?_
  · intro _; go_simp
  simp only [Act.put, List.setIfInBounds_toArray, List.set_cons_zero, List.set_cons_succ]
  refine wpAnyG_any (i := 30) (v := .bool true) rfl (by kernel_rfl) (by kernel_rfl) (by kernel_rfl) (fun _ _ _ h => h) (by kernel_rfl) (fun _ => hS) (by kernel_rfl) ?_ ?_
  · intro _; go_simp
  simp only [Act.put, List.setIfInBounds_toArray, List.set_cons_zero, List.set_cons_succ]
  refine wpAnyG_any (i := 31) (v := ?_) rfl (by kernel_rfl) (by kernel_rfl) (by kernel_rfl) (fun _ _ _ h => h) (by kernel_rfl) (fun _ => hS) (by kernel_rfl) ?_ ?_
  rotate_left
  · intro _; go_simp; try with_reducible rfl
  simp only [Act.put, List.setIfInBounds_toArray, List.set_cons_zero, List.set_cons_succ]
  refine wpAnyG_any (i := 32) (v := ?_) rfl (by kernel_rfl) (by kernel_rfl) (by kernel_rfl) (fun _ _ _ h => h) (by kernel_rfl) (fun _ => hS) (by kernel_rfl) ?_ ?_
  rotate_left
  · intro _; go_simp; try with_reducible rfl
  simp only [Act.put, List.setIfInBounds_toArray, List.set_cons_zero, List.set_cons_succ]
  refine wpAnyG_any (i := 33) (v := ?_) rfl (by kernel_rfl) (by kernel_rfl) (by kernel_rfl) (fun _ _ _ h => h) (by kernel_rfl) (fun _ => hS) (by kernel_rfl) ?_ ?_
  rotate_left
  · intro _; go_simp; try with_reducible rfl
  simp only [Act.put, List.setIfInBounds_toArray, List.set_cons_zero, List.set_cons_succ]
  refine wpAnyG_read (i := 34) (v := ?_) rfl (by kernel_rfl) (by kernel_rfl) (by kernel_rfl) (fun _ _ _ h => h) (by kernel_rfl) (by kernel_rfl) (by kernel_rfl) hS (by kernel_rfl) ?_ ?_
  rotate_left
  · intro wx hSw; go_split_ands; go_simp; try with_reducible rfl
  simp only [Act.put, List.setIfInBounds_toArray, List.set_cons_zero, List.set_cons_succ]
  refine wpAnyG_any (i := 35) (v := ?_) rfl (by kernel_rfl) (by kernel_rfl) (by kernel_rfl) (fun _ _ _ h => h) (by kernel_rfl) (fun _ => hS) (by kernel_rfl) ?_ ?_
  rotate_left
  · intro _; go_simp; try with_reducible rfl
  simp only [Act.put, List.setIfInBounds_toArray, List.set_cons_zero, List.set_cons_succ]
  refine wpAnyG_any (i := 36) (v := ?_) rfl (by kernel_rfl) (by kernel_rfl) (by kernel_rfl) (fun _ _ _ h => h) (by kernel_rfl) (fun _ => hS) (by kernel_rfl) ?_ ?_
  rotate_left
  · intro _; go_simp; try with_reducible rfl
  simp only [Act.put, List.setIfInBounds_toArray, List.set_cons_zero, List.set_cons_succ]
  refine wpAnyG_any (i := 37) (v := ?_) rfl (by kernel_rfl) (by kernel_rfl) (by kernel_rfl) (fun _ _ _ h => h) (by kernel_rfl) (fun _ => hS) (by kernel_rfl) ?_ ?_
  rotate_left
  · intro _; go_simp; try with_reducible rfl
  simp only [Act.put, List.setIfInBounds_toArray, List.set_cons_zero, List.set_cons_succ]
  refine wpAnyG_any (i := 38) (v := .int .i64 ((m1 : Int) + (m2 : Int))) rfl (by kernel_rfl) (by kernel_rfl) (by kernel_rfl) (fun _ _ _ h => h) (by kernel_rfl) (fun _ => hS) (by kernel_rfl) ?_ ?_
  · intro _; go_simp
  simp only [Act.put, List.setIfInBounds_toArray, List.set_cons_zero, List.set_cons_succ]
  refine wpAnyG_any (i := 39) (v := .int .i64 ((m1 : Int) + (m2 : Int) + 16)) rfl (by kernel_rfl) (by kernel_rfl) (by kernel_rfl) (fun _ _ _ h => h) (by kernel_rfl) (fun _ => hS) (by kernel_rfl) ?_ ?_
  · intro _; go_simp
  simp only [Act.put, List.setIfInBounds_toArray, List.set_cons_zero, List.set_cons_succ]
  refine wpAnyG_any (i := 40) (v := .bool true) rfl (by kernel_rfl) (by kernel_rfl) (by kernel_rfl) (fun _ _ _ h => h) (by kernel_rfl) (fun _ => hS) (by kernel_rfl) ?_ ?_
  · intro _; go_simp
  simp only [Act.put, List.setIfInBounds_toArray, List.set_cons_zero, List.set_cons_succ]
  refine wpAnyG_any (i := 41) (v := .bool true) rfl (by kernel_rfl) (by kernel_rfl) (by kernel_rfl) (fun _ _ _ h => h) (by kernel_rfl) (fun _ => hS) (by kernel_rfl) ?_ ?_
  · intro _; go_simp
  simp only [Act.put, List.setIfInBounds_toArray, List.set_cons_zero, List.set_cons_succ]
  refine wpAnyG_one (i := 42) rfl (by kernel_rfl) (by kernel_rfl) (fun K hK => ?_)
  go_simp
  refine hK.out _ _ (fun h => absurd (show true = false from h) (by decide)) ?_
  clear hK K
  refine wpAnyG_done (by kernel_rfl) ?_ _
  go_wp2
  go_ret
  exact ⟨rfl, hB2.trans (hB6.mono hB2.size)⟩
end Go.Proofs.Ytipfphnfkiildaa
