/- The statement AeadTags, walked. (Written by mktags.py.) -/
import Derived.Test.YtbekaoefaolnnaaAn6
import Derived.Test.YtbekaoefaolnnaaAa
import Derived.Test.YtbekaoefaolnnaaStrC
namespace Go.Proofs.Ytbekaoefaolnnaa
open Go.RowKit
set_option maxRecDepth 20000
set_option linter.unusedSimpArgs false

theorem other_eq (k n O Z T : List Int) (h : tagL k n O (xorL k n 1 Z) = T) : xorL k n 1 Z ++ T = sealL k n O Z := by subst h; rfl
theorem other_ne (k n O Z T : List Int) (h : ¬ tagL k n O (xorL k n 1 Z) = T) : ¬ xorL k n 1 Z ++ T = sealL k n O Z := fun e => h (by
  unfold sealL at e
  exact (List.append_cancel_left e).symm)

set_option maxHeartbeats 4000000 in
theorem tags_ok (k n : List Int) (x : Option Addr) (len cap : Nat) (o : List Int) (y : Option Addr) (lb cb : Nat) (z T : List Int) (w : World) (hk : k.length = 32) (hn : n.length = 12) (hT : T.length = 16) (hx : Bytes w x len cap o) (huo : ∀ v ∈ o, 0 ≤ v ∧ v ≤ 255) (hz : Bytes w y lb cb z) (huz : ∀ v ∈ z, 0 ≤ v ∧ v ≤ 255) (huT : ∀ v ∈ T, 0 ≤ v ∧ v ≤ 255)
    (he : tagL k n (o.take 200) (xorL k n 1 (z.take 300)) = T) :
    Calls Try.prog 3 #[.agg (ask5Row k n (.slice x len cap)), .slice y lb cb, .agg (row .u8 T)] w fun e w' => e = .returned (.bool true) ∧ Below w.heap.size w w' := by
  have hf1 : ∀ wx, Below w.heap.size w wx → Calls Try.prog 4 #[.slice x len cap, .int .i64 200] wx fun e w' => e = .returned (.slice x (min len 200) cap) ∧ wx = w' := fun wx hb => few5_any x len cap 200 o wx (hx.below hb) (by omega) (by omega)
  have hf2 : ∀ wx, Below w.heap.size w wx → Calls Try.prog 4 #[.slice y lb cb, .int .i64 300] wx fun e w' => e = .returned (.slice y (min lb 300) cb) ∧ wx = w' := fun wx hb => few5_any y lb cb 300 z wx (hz.below hb) (by omega) (by omega)
  have hx2 := hx.few 200
  have hz2 := hz.few 300
  have huo2 : ∀ v ∈ o.take 200, isB v := fun v hv => huo v (List.mem_of_mem_take hv)
  have huz2 : ∀ v ∈ z.take 300, isB v := fun v hv => huz v (List.mem_of_mem_take hv)
  obtain ⟨m1, hm1⟩ : ∃ q, min len 200 = q := ⟨_, rfl⟩
  obtain ⟨m2, hm2⟩ : ∃ q, min lb 300 = q := ⟨_, rfl⟩
  have h1 : m1 ≤ 200 := by omega
  have h2 : m2 ≤ 300 := by omega
  rw [hm1] at hf1 hx2
  rw [hm2] at hf2 hz2
  obtain ⟨O, hO⟩ : ∃ q, o.take 200 = q := ⟨_, rfl⟩
  obtain ⟨Z, hZ⟩ : ∃ q, z.take 300 = q := ⟨_, rfl⟩
  rw [hO] at hx2 huo2 he
  rw [hZ] at hz2 huz2 he
  have hzl : Z.length = m2 := hz2.len_eq.symm
  have hseal := fun wx (hb : Below w.heap.size w wx) => seal_any k n x m1 cap O y m2 cb Z wx hk hn (hx2.below hb) (hz2.below hb) (by omega) (by omega)
  have hSl : (sealL k n O Z).length = m2 + 16 := by rw [sealL_length, hzl]
  have hSt := seal_take k n O Z m2 hzl.symm
  have hXl : (xorL k n 1 Z).length = m2 := by rw [xorL_length, hzl]
  have hXu := xorL_in k n 1 Z huz2
  have hOu : ∀ v ∈ xorL k n 1 Z ++ T, isB v := fun v hv => by
    rcases List.mem_append.1 hv with h | h
    · exact hXu v h
    · exact huT v h
  have hSu := sealL_in k n O Z huo2 huz2
  have hoe := other_eq k n O Z T he
  have hopen := fun wx (hb : Below w.heap.size w wx) (v : Option Addr) (lv cv : Nat) (hv : Bytes wx v lv cv (xorL k n 1 Z ++ T)) => back_any k n x m1 cap O v lv cv Z wx hk hn (hx2.below hb) (hoe ▸ hv) (by omega) (by omega) huo2 huz2
  rw [hzl] at hopen
  obtain ⟨SL, hSL⟩ : ∃ q, sealL k n O Z = q := ⟨_, rfl⟩
  rw [hSL] at hseal hSl hSt hSu hoe
  obtain ⟨X, hX⟩ : ∃ q, xorL k n 1 Z = q := ⟨_, rfl⟩
  rw [hX] at hSt hXl hOu hopen hoe
  have HOE : Veil (X ++ T = SL) := ⟨hoe⟩
  clear hoe
  have HSL : Veil (SL.length = m2 + 16) := ⟨hSl⟩
  have HST : Veil (SL.take m2 = X) := ⟨hSt⟩
  have HXL : Veil (X.length = m2) := ⟨hXl⟩
  have HTL : Veil (T.length = 16) := ⟨hT⟩
  have hA0 := (Ask5At.new w k n (.slice x len cap)).below ((Below.refl _ _).alloc (Nat.le_refl _) (.cells (row .u8 T) 30)) (Ask5At.new w k n (.slice x len cap)).lt
  have hT0 := Holds.new (w.alloc (.cells (ask5Row k n (.slice x len cap)) 28)) .u8 30 T
  rw [World.size_alloc] at hT0
  have hB0 : Below w.heap.size w ((w.alloc (.cells (ask5Row k n (.slice x len cap)) 28)).alloc (.cells (row .u8 T) 30)) := ((Below.refl _ _).alloc (Nat.le_refl _) _).alloc (by simp) _
  clear hm1 hm2 hx hz huo huz hO hZ hSL hzl hSl huo2 huz2 hX hXl hXu hOu hSu hSt hT huT he 
  go_enter Try.func3, Try.ntmps3
  go_upto_region 1 with fail
  refine forget (p := fun y => Code.wp _ _ _ _ y) (fun W0 => Below w.heap.size w W0 ∧ Ask5At W0 w.heap.size k n (.slice x len cap) ∧ Holds W0 (w.heap.size + 1) .u8 30 T) ⟨hB0, hA0, hT0⟩ ?_
  clear hA0 hT0 hB0
  rintro W0 ⟨hB0, hA0, hT0⟩
  have c44 := hA0.open_ hk hn
  have f44 := hA0.frozen 44
  go_upto_region 2 with (first
    | (go_at_call 4; refine (hf1 _ hB0).mono ?_; rintro e w3 ⟨rfl, rfl⟩; clear hf1)
    | (go_at_call 4; refine (hf2 _ hB0).mono ?_; rintro e w3 ⟨rfl, rfl⟩))
  refine forget (p := fun y => Code.wp _ _ _ _ y) (fun W1 => Below w.heap.size w W1 ∧ Ask5At W1 w.heap.size k n (.slice x m1 cap) ∧ Holds W1 (w.heap.size + 1) .u8 30 T) ⟨hB0.setCell (by simp) _, hA0.set hk hn _, hT0.setOther _ _ (by simp)⟩ ?_
  clear c44 f44 hA0 hB0 hf2 hT0
  rintro W1 ⟨hB1, hA1, hT1⟩
  have r1 := hA1.key
  have r2 := hA1.nonce hk
  have c44 := hA1.open_ hk hn
  have hs1 := hseal W1 hB1
  go_upto_region 3 with (first
    | (refine wpList_ldr rfl 23 _ rfl _ _ rfl r1 Try.underlying23 sizeK hk ?_)
    | (refine wpList_ldr rfl 25 _ rfl _ _ rfl r2 Try.underlying25 sizeN hn ?_)
    | (go_at_call 5; refine hs1.mono ?_; rintro e w2 ⟨v2, rfl, ho2, hb2⟩))
  obtain ⟨g2, c2, hv2, hg2⟩ := ho2.slice (by rw [HSL.out]; omega)
  rw [HSL.out] at hv2
  subst hv2
  have hS2 := ho2.bytes.2
  have hB2 : Below w.heap.size w w2 := hB1.trans (hb2.mono hB1.size)
  have hA2 := hA1.below hb2 hA1.lt
  have hT2 := hT1.below hb2 hT1.lt
  have hc2 := hS2.le
  have ht2 := hS2.top
  have hw16 : IntKind.i64.wrap ((m2 : Int) + 16) = (m2 : Int) + 16 := by rw [IntKind.wrap_i64]; omega
  clear r1 r2 c44 hs1 hseal ho2 hA1 hT1
  go_upto_region 5 with fail
  have hX2 : Bytes w2 (some ⟨g2, 0, none⟩) m2 c2 X := by
    have := hS2.cut 0 m2 (by omega) (by omega)
    rw [List.drop_zero, Nat.sub_zero, Nat.sub_zero, HST.out, show subA (some ⟨g2, 0, none⟩) c2 0 = some ⟨g2, 0, none⟩ by unfold subA; split <;> rfl] at this
    exact this
  have hcut : ∀ wx, (Instr.slice 26 (.slice (some ⟨g2, 0, none⟩) (m2 + 16) c2) none (some (.int .i64 (m2 : Int))) none).run Try.prog wx = .ok (.slice (some ⟨g2, 0, none⟩) m2 c2) wx := fun wx => by
    have := run_cut_h wx (some ⟨g2, 0, none⟩) (m2 + 16) c2 m2 (by omega)
    rw [show subA (some ⟨g2, 0, none⟩) c2 0 = some ⟨g2, 0, none⟩ by unfold subA; split <;> rfl] at this
    exact this
  have hE0 : OwnB (w2.alloc (.cells #[] 5)).drew w2.heap.size (.slice (some ⟨w2.heap.size, 0, none⟩) 0 0) [] := OwnB.ofHolds (Holds.new w2 .u8 5 []).drew (Nat.le_refl _) (by simp)
  have hX3 : Bytes (w2.alloc (.cells #[] 5)).drew (some ⟨g2, 0, none⟩) m2 c2 X := hX2.below ((Below.refl _ _).alloc (Nat.le_refl _) _).drew
  have hB3 : Below w2.heap.size w2 (w2.alloc (.cells #[] 5)).drew := ((Below.refl _ _).alloc (Nat.le_refl _) _).drew
  refine wp_region_gate (fun _ => True) 8 (by kernel_rfl) ?_
  have hS : (fun _ : World => True) w2.drew := trivial
  refine wpAnyG_any (i := 1) (v := ?_) rfl (by kernel_rfl) (by kernel_rfl) (by kernel_rfl) (fun _ _ _ h => h) (by kernel_rfl) (fun _ => hS) (by kernel_rfl) ?_ ?_
  rotate_left
  · intro _; go_simp; try with_reducible rfl
  simp only [Act.put, List.setIfInBounds_toArray, List.set_cons_zero, List.set_cons_succ]
  refine wpAnyG_any (i := 2) (v := ?_) rfl (by kernel_rfl) (by kernel_rfl) (by kernel_rfl) (fun _ _ _ h => h) (by kernel_rfl) (fun _ => hS) (by kernel_rfl) ?_ ?_
  rotate_left
  · intro _; go_simp; try with_reducible rfl
  simp only [Act.put, List.setIfInBounds_toArray, List.set_cons_zero, List.set_cons_succ]
  refine wpAnyG_any (i := 3) (v := ?_) rfl (by kernel_rfl) (by kernel_rfl) (by kernel_rfl) (fun _ _ _ h => h) (by kernel_rfl) (fun _ => hS) (by kernel_rfl) ?_ ?_
  rotate_left
  · intro _; go_simp; try with_reducible rfl
  simp only [Act.put, List.setIfInBounds_toArray, List.set_cons_zero, List.set_cons_succ]
  refine wpAnyG_any (i := 4) (v := ?_) rfl (by kernel_rfl) (by kernel_rfl) (by kernel_rfl) (fun _ _ _ h => h) (by kernel_rfl) (fun _ => hS) (by kernel_rfl) ?_ ?_
  rotate_left
  · intro _; go_simp; try with_reducible rfl
  simp only [Act.put, List.setIfInBounds_toArray, List.set_cons_zero, List.set_cons_succ]
  refine wpAnyG_any (i := 6) (v := ?_) rfl (by kernel_rfl) (by kernel_rfl) (by kernel_rfl) (fun _ _ _ h => h) (by kernel_rfl) (fun _ => hS) (by kernel_rfl) ?_ ?_
  rotate_left
  · intro _; go_simp; try with_reducible rfl
  simp only [Act.put, List.setIfInBounds_toArray, List.set_cons_zero, List.set_cons_succ]
  refine wpAnyG_one (i := 0) rfl (by kernel_rfl) (by kernel_rfl) (fun K hK => ?_)
  go_simp
  refine hK.out _ _ (fun _ => hS) ?_
  clear hK K
  refine wpAnyG_one (i := 5) rfl (by kernel_rfl) (by kernel_rfl) (fun K hK => ?_)
  refine wp_app _ _ rfl w2.heap.size _ [] rfl hE0 g2 m2 c2 X rfl hX3 (by simp; omega) (by simp) ?_
  intro v4 w4 ho4 hg4
  have hB4 : Below w2.heap.size w2 w4 := below_grown hB3 hE0 hg4 (by simp)
  rw [List.nil_append] at ho4
  have hT4 : Bytes w4 (some ⟨w.heap.size + 1, 0, none⟩) 16 16 T := (hT2.below hB4 hT2.lt).bytes HTL.out.symm (by rw [HTL.out]; omega)
  have hs4 := hB4.size
  refine hK.out _ _ (fun _ => hS) ?_
  clear hK K
  refine wpAnyG_one (i := 7) rfl (by kernel_rfl) (by kernel_rfl) (fun K hK => ?_)
  refine wp_app _ _ rfl w2.heap.size _ X rfl ho4 (w.heap.size + 1) 16 16 T rfl hT4 (by rw [HXL.out]; omega) hs4 ?_
  intro v5 w5 ho5 hg5
  have hB5 : Below w2.heap.size w2 w5 := below_grown hB4 ho4 hg5 hs4
  refine hK.out _ _ (fun _ => hS) ?_
  clear hK K
  refine wpAnyG_one (i := 8) rfl (by kernel_rfl) (by kernel_rfl) (fun K hK => ?_)
  go_simp
  refine hK.out _ _ (fun h => absurd (show true = false from h) (by decide)) ?_
  clear hK K
  refine wpAnyG_done (by kernel_rfl) ?_ _
  obtain ⟨x5, n5, c5, rfl, hn5⟩ := ho5.isSlice
  rw [List.length_append, HXL.out, HTL.out] at hn5
  subst hn5
  have hY5 := ho5.bytes.2
  have hS5 := hS2.below hB5
  have hA5 := hA2.below hB5 hA2.lt
  have hBw5 : Below w.heap.size w w5 := hB2.trans (hB5.mono hB2.size)
  have r1 := hA5.key
  have r2 := hA5.nonce hk
  have c44 := hA5.open_ hk hn
  have ho6 := hopen w5 hBw5 x5 (m2 + 16) c5 hY5
  clear hopen hA2 hT2 hX2 hX3 hE0 hB3 hB4 ho4 hT4 ho5 hg4 hg5 hcut hS
  go_upto_region 7 with (first
    | (refine wpList_ldr rfl 23 _ rfl _ _ rfl r1 Try.underlying23 sizeK hk ?_)
    | (refine wpList_ldr rfl 25 _ rfl _ _ rfl r2 Try.underlying25 sizeN hn ?_)
    | (go_at_call 6; refine ho6.mono ?_; rintro e w6 ⟨g6, rfl, hg6, hH6, hb6⟩))
  have hB6 : Below w.heap.size w w6 := hBw5.trans (hb6.mono hBw5.size)
  have hY6 := hY5.below hb6
  have hS6 := hS5.below hb6
  have hc1 : (convert 26 9 (.slice x5 (m2 + 16) c5)).run Try.prog w6 = .ok (.string (strOfNums SL)) w6 := by rw [← HOE.out]; exact conv_bytes hY6
  have hc2 : (convert 26 9 (.slice (some ⟨g2, 0, none⟩) (m2 + 16) c2)).run Try.prog w6 = .ok (.string (strOfNums SL)) w6 := conv_bytes hS6
  obtain ⟨SS, hSS⟩ : ∃ s, strOfNums SL = s := ⟨_, rfl⟩
  rw [hSS] at hc1 hc2
  clear hSS hH6
  clear r1 r2 c44 ho6 hA5 hY5 hS5 hS2 hY6 hS6
  go_wp2_with (go_at_call 7; refine (live5_any _).mono ?_; rintro e w7 ⟨rfl, hb7⟩)
  go_ret
  exact ⟨rfl, hB6.trans (hb7.mono hB6.size)⟩

set_option maxHeartbeats 4000000 in
theorem tags_bad (k n : List Int) (x : Option Addr) (len cap : Nat) (o : List Int) (y : Option Addr) (lb cb : Nat) (z T : List Int) (w : World) (hk : k.length = 32) (hn : n.length = 12) (hT : T.length = 16) (hx : Bytes w x len cap o) (huo : ∀ v ∈ o, 0 ≤ v ∧ v ≤ 255) (hz : Bytes w y lb cb z) (huz : ∀ v ∈ z, 0 ≤ v ∧ v ≤ 255) (huT : ∀ v ∈ T, 0 ≤ v ∧ v ≤ 255)
    (he : ¬ tagL k n (o.take 200) (xorL k n 1 (z.take 300)) = T) :
    Calls Try.prog 3 #[.agg (ask5Row k n (.slice x len cap)), .slice y lb cb, .agg (row .u8 T)] w fun e w' => e = .returned (.bool true) ∧ Below w.heap.size w w' := by
  have hf1 : ∀ wx, Below w.heap.size w wx → Calls Try.prog 4 #[.slice x len cap, .int .i64 200] wx fun e w' => e = .returned (.slice x (min len 200) cap) ∧ wx = w' := fun wx hb => few5_any x len cap 200 o wx (hx.below hb) (by omega) (by omega)
  have hf2 : ∀ wx, Below w.heap.size w wx → Calls Try.prog 4 #[.slice y lb cb, .int .i64 300] wx fun e w' => e = .returned (.slice y (min lb 300) cb) ∧ wx = w' := fun wx hb => few5_any y lb cb 300 z wx (hz.below hb) (by omega) (by omega)
  have hx2 := hx.few 200
  have hz2 := hz.few 300
  have huo2 : ∀ v ∈ o.take 200, isB v := fun v hv => huo v (List.mem_of_mem_take hv)
  have huz2 : ∀ v ∈ z.take 300, isB v := fun v hv => huz v (List.mem_of_mem_take hv)
  obtain ⟨m1, hm1⟩ : ∃ q, min len 200 = q := ⟨_, rfl⟩
  obtain ⟨m2, hm2⟩ : ∃ q, min lb 300 = q := ⟨_, rfl⟩
  have h1 : m1 ≤ 200 := by omega
  have h2 : m2 ≤ 300 := by omega
  rw [hm1] at hf1 hx2
  rw [hm2] at hf2 hz2
  obtain ⟨O, hO⟩ : ∃ q, o.take 200 = q := ⟨_, rfl⟩
  obtain ⟨Z, hZ⟩ : ∃ q, z.take 300 = q := ⟨_, rfl⟩
  rw [hO] at hx2 huo2 he
  rw [hZ] at hz2 huz2 he
  have hzl : Z.length = m2 := hz2.len_eq.symm
  have hseal := fun wx (hb : Below w.heap.size w wx) => seal_any k n x m1 cap O y m2 cb Z wx hk hn (hx2.below hb) (hz2.below hb) (by omega) (by omega)
  have hSl : (sealL k n O Z).length = m2 + 16 := by rw [sealL_length, hzl]
  have hSt := seal_take k n O Z m2 hzl.symm
  have hXl : (xorL k n 1 Z).length = m2 := by rw [xorL_length, hzl]
  have hXu := xorL_in k n 1 Z huz2
  have hOu : ∀ v ∈ xorL k n 1 Z ++ T, isB v := fun v hv => by
    rcases List.mem_append.1 hv with h | h
    · exact hXu v h
    · exact huT v h
  have hSu := sealL_in k n O Z huo2 huz2
  have hne := other_ne k n O Z T he
  have hse := strEq _ _ hOu hSu
  rw [show (xorL k n 1 Z ++ T == sealL k n O Z) = false by rw [beq_eq_false_iff_ne]; exact hne] at hse
  have hopen := fun wx (hb : Below w.heap.size w wx) (v : Option Addr) (lv cv : Nat) (hv : Bytes wx v lv cv (xorL k n 1 Z ++ T)) => open_bad k n x m1 cap O v lv cv (xorL k n 1 Z ++ T) wx hk hn (hx2.below hb) hv (by omega) (by rw [hv.len_eq, List.length_append, hXl, hT]; omega) (by rw [hv.len_eq, List.length_append, hXl, hT]; omega) huo2 hOu (by
    have hlv : lv - 16 = (xorL k n 1 Z).length := by rw [hv.len_eq, List.length_append, hT]; omega
    rw [hlv, List.take_left' rfl, List.drop_left' rfl]
    exact he)
  obtain ⟨SL, hSL⟩ : ∃ q, sealL k n O Z = q := ⟨_, rfl⟩
  rw [hSL] at hseal hSl hSt hSu hse
  obtain ⟨X, hX⟩ : ∃ q, xorL k n 1 Z = q := ⟨_, rfl⟩
  rw [hX] at hSt hXl hOu hopen hse
  have HSL : Veil (SL.length = m2 + 16) := ⟨hSl⟩
  have HST : Veil (SL.take m2 = X) := ⟨hSt⟩
  have HXL : Veil (X.length = m2) := ⟨hXl⟩
  have HTL : Veil (T.length = 16) := ⟨hT⟩
  have hA0 := (Ask5At.new w k n (.slice x len cap)).below ((Below.refl _ _).alloc (Nat.le_refl _) (.cells (row .u8 T) 30)) (Ask5At.new w k n (.slice x len cap)).lt
  have hT0 := Holds.new (w.alloc (.cells (ask5Row k n (.slice x len cap)) 28)) .u8 30 T
  rw [World.size_alloc] at hT0
  have hB0 : Below w.heap.size w ((w.alloc (.cells (ask5Row k n (.slice x len cap)) 28)).alloc (.cells (row .u8 T) 30)) := ((Below.refl _ _).alloc (Nat.le_refl _) _).alloc (by simp) _
  clear hm1 hm2 hx hz huo huz hO hZ hSL hzl hSl huo2 huz2 hX hXl hXu hOu hSu hSt hT huT he hne
  go_enter Try.func3, Try.ntmps3
  go_upto_region 1 with fail
  refine forget (p := fun y => Code.wp _ _ _ _ y) (fun W0 => Below w.heap.size w W0 ∧ Ask5At W0 w.heap.size k n (.slice x len cap) ∧ Holds W0 (w.heap.size + 1) .u8 30 T) ⟨hB0, hA0, hT0⟩ ?_
  clear hA0 hT0 hB0
  rintro W0 ⟨hB0, hA0, hT0⟩
  have c44 := hA0.open_ hk hn
  have f44 := hA0.frozen 44
  go_upto_region 2 with (first
    | (go_at_call 4; refine (hf1 _ hB0).mono ?_; rintro e w3 ⟨rfl, rfl⟩; clear hf1)
    | (go_at_call 4; refine (hf2 _ hB0).mono ?_; rintro e w3 ⟨rfl, rfl⟩))
  refine forget (p := fun y => Code.wp _ _ _ _ y) (fun W1 => Below w.heap.size w W1 ∧ Ask5At W1 w.heap.size k n (.slice x m1 cap) ∧ Holds W1 (w.heap.size + 1) .u8 30 T) ⟨hB0.setCell (by simp) _, hA0.set hk hn _, hT0.setOther _ _ (by simp)⟩ ?_
  clear c44 f44 hA0 hB0 hf2 hT0
  rintro W1 ⟨hB1, hA1, hT1⟩
  have r1 := hA1.key
  have r2 := hA1.nonce hk
  have c44 := hA1.open_ hk hn
  have hs1 := hseal W1 hB1
  go_upto_region 3 with (first
    | (refine wpList_ldr rfl 23 _ rfl _ _ rfl r1 Try.underlying23 sizeK hk ?_)
    | (refine wpList_ldr rfl 25 _ rfl _ _ rfl r2 Try.underlying25 sizeN hn ?_)
    | (go_at_call 5; refine hs1.mono ?_; rintro e w2 ⟨v2, rfl, ho2, hb2⟩))
  obtain ⟨g2, c2, hv2, hg2⟩ := ho2.slice (by rw [HSL.out]; omega)
  rw [HSL.out] at hv2
  subst hv2
  have hS2 := ho2.bytes.2
  have hB2 : Below w.heap.size w w2 := hB1.trans (hb2.mono hB1.size)
  have hA2 := hA1.below hb2 hA1.lt
  have hT2 := hT1.below hb2 hT1.lt
  have hc2 := hS2.le
  have ht2 := hS2.top
  have hw16 : IntKind.i64.wrap ((m2 : Int) + 16) = (m2 : Int) + 16 := by rw [IntKind.wrap_i64]; omega
  clear r1 r2 c44 hs1 hseal ho2 hA1 hT1
  go_upto_region 5 with fail
  have hX2 : Bytes w2 (some ⟨g2, 0, none⟩) m2 c2 X := by
    have := hS2.cut 0 m2 (by omega) (by omega)
    rw [List.drop_zero, Nat.sub_zero, Nat.sub_zero, HST.out, show subA (some ⟨g2, 0, none⟩) c2 0 = some ⟨g2, 0, none⟩ by unfold subA; split <;> rfl] at this
    exact this
  have hcut : ∀ wx, (Instr.slice 26 (.slice (some ⟨g2, 0, none⟩) (m2 + 16) c2) none (some (.int .i64 (m2 : Int))) none).run Try.prog wx = .ok (.slice (some ⟨g2, 0, none⟩) m2 c2) wx := fun wx => by
    have := run_cut_h wx (some ⟨g2, 0, none⟩) (m2 + 16) c2 m2 (by omega)
    rw [show subA (some ⟨g2, 0, none⟩) c2 0 = some ⟨g2, 0, none⟩ by unfold subA; split <;> rfl] at this
    exact this
  have hE0 : OwnB (w2.alloc (.cells #[] 5)).drew w2.heap.size (.slice (some ⟨w2.heap.size, 0, none⟩) 0 0) [] := OwnB.ofHolds (Holds.new w2 .u8 5 []).drew (Nat.le_refl _) (by simp)
  have hX3 : Bytes (w2.alloc (.cells #[] 5)).drew (some ⟨g2, 0, none⟩) m2 c2 X := hX2.below ((Below.refl _ _).alloc (Nat.le_refl _) _).drew
  have hB3 : Below w2.heap.size w2 (w2.alloc (.cells #[] 5)).drew := ((Below.refl _ _).alloc (Nat.le_refl _) _).drew
  refine wp_region_gate (fun _ => True) 8 (by kernel_rfl) ?_
  have hS : (fun _ : World => True) w2.drew := trivial
  refine wpAnyG_any (i := 1) (v := ?_) rfl (by kernel_rfl) (by kernel_rfl) (by kernel_rfl) (fun _ _ _ h => h) (by kernel_rfl) (fun _ => hS) (by kernel_rfl) ?_ ?_
  rotate_left
  · intro _; go_simp; try with_reducible rfl
  simp only [Act.put, List.setIfInBounds_toArray, List.set_cons_zero, List.set_cons_succ]
  refine wpAnyG_any (i := 2) (v := ?_) rfl (by kernel_rfl) (by kernel_rfl) (by kernel_rfl) (fun _ _ _ h => h) (by kernel_rfl) (fun _ => hS) (by kernel_rfl) ?_ ?_
  rotate_left
  · intro _; go_simp; try with_reducible rfl
  simp only [Act.put, List.setIfInBounds_toArray, List.set_cons_zero, List.set_cons_succ]
  refine wpAnyG_any (i := 3) (v := ?_) rfl (by kernel_rfl) (by kernel_rfl) (by kernel_rfl) (fun _ _ _ h => h) (by kernel_rfl) (fun _ => hS) (by kernel_rfl) ?_ ?_
  rotate_left
  · intro _; go_simp; try with_reducible rfl
  simp only [Act.put, List.setIfInBounds_toArray, List.set_cons_zero, List.set_cons_succ]
  refine wpAnyG_any (i := 4) (v := ?_) rfl (by kernel_rfl) (by kernel_rfl) (by kernel_rfl) (fun _ _ _ h => h) (by kernel_rfl) (fun _ => hS) (by kernel_rfl) ?_ ?_
  rotate_left
  · intro _; go_simp; try with_reducible rfl
  simp only [Act.put, List.setIfInBounds_toArray, List.set_cons_zero, List.set_cons_succ]
  refine wpAnyG_any (i := 6) (v := ?_) rfl (by kernel_rfl) (by kernel_rfl) (by kernel_rfl) (fun _ _ _ h => h) (by kernel_rfl) (fun _ => hS) (by kernel_rfl) ?_ ?_
  rotate_left
  · intro _; go_simp; try with_reducible rfl
  simp only [Act.put, List.setIfInBounds_toArray, List.set_cons_zero, List.set_cons_succ]
  refine wpAnyG_one (i := 0) rfl (by kernel_rfl) (by kernel_rfl) (fun K hK => ?_)
  go_simp
  refine hK.out _ _ (fun _ => hS) ?_
  clear hK K
  refine wpAnyG_one (i := 5) rfl (by kernel_rfl) (by kernel_rfl) (fun K hK => ?_)
  refine wp_app _ _ rfl w2.heap.size _ [] rfl hE0 g2 m2 c2 X rfl hX3 (by simp; omega) (by simp) ?_
  intro v4 w4 ho4 hg4
  have hB4 : Below w2.heap.size w2 w4 := below_grown hB3 hE0 hg4 (by simp)
  rw [List.nil_append] at ho4
  have hT4 : Bytes w4 (some ⟨w.heap.size + 1, 0, none⟩) 16 16 T := (hT2.below hB4 hT2.lt).bytes HTL.out.symm (by rw [HTL.out]; omega)
  have hs4 := hB4.size
  refine hK.out _ _ (fun _ => hS) ?_
  clear hK K
  refine wpAnyG_one (i := 7) rfl (by kernel_rfl) (by kernel_rfl) (fun K hK => ?_)
  refine wp_app _ _ rfl w2.heap.size _ X rfl ho4 (w.heap.size + 1) 16 16 T rfl hT4 (by rw [HXL.out]; omega) hs4 ?_
  intro v5 w5 ho5 hg5
  have hB5 : Below w2.heap.size w2 w5 := below_grown hB4 ho4 hg5 hs4
  refine hK.out _ _ (fun _ => hS) ?_
  clear hK K
  refine wpAnyG_one (i := 8) rfl (by kernel_rfl) (by kernel_rfl) (fun K hK => ?_)
  go_simp
  refine hK.out _ _ (fun h => absurd (show true = false from h) (by decide)) ?_
  clear hK K
  refine wpAnyG_done (by kernel_rfl) ?_ _
  obtain ⟨x5, n5, c5, rfl, hn5⟩ := ho5.isSlice
  rw [List.length_append, HXL.out, HTL.out] at hn5
  subst hn5
  have hY5 := ho5.bytes.2
  have hS5 := hS2.below hB5
  have hA5 := hA2.below hB5 hA2.lt
  have hBw5 : Below w.heap.size w w5 := hB2.trans (hB5.mono hB2.size)
  have r1 := hA5.key
  have r2 := hA5.nonce hk
  have c44 := hA5.open_ hk hn
  have ho6 := hopen w5 hBw5 x5 (m2 + 16) c5 hY5
  clear hopen hA2 hT2 hX2 hX3 hE0 hB3 hB4 ho4 hT4 ho5 hg4 hg5 hcut hS
  go_upto_region 7 with (first
    | (refine wpList_ldr rfl 23 _ rfl _ _ rfl r1 Try.underlying23 sizeK hk ?_)
    | (refine wpList_ldr rfl 25 _ rfl _ _ rfl r2 Try.underlying25 sizeN hn ?_)
    | (go_at_call 6; refine ho6.mono ?_; rintro e w6 ⟨rfl, hb6⟩))
  have hB6 : Below w.heap.size w w6 := hBw5.trans (hb6.mono hBw5.size)
  have hY6 := hY5.below hb6
  have hS6 := hS5.below hb6
  have hc1 : (convert 26 9 (.slice x5 (m2 + 16) c5)).run Try.prog w6 = .ok (.string (strOfNums (X ++ T))) w6 := conv_bytes hY6
  have hc2 : (convert 26 9 (.slice (some ⟨g2, 0, none⟩) (m2 + 16) c2)).run Try.prog w6 = .ok (.string (strOfNums SL)) w6 := conv_bytes hS6
  obtain ⟨SS, hSS⟩ : ∃ s, strOfNums SL = s := ⟨_, rfl⟩
  obtain ⟨SO, hSO⟩ : ∃ s, strOfNums (X ++ T) = s := ⟨_, rfl⟩
  rw [hSS] at hc2 hse
  rw [hSO] at hc1 hse
  clear hSS hSO
  clear r1 r2 c44 ho6 hA5 hY5 hS5 hS2 hY6 hS6
  go_wp2_with (go_at_call 7; refine (live5_any _).mono ?_; rintro e w7 ⟨rfl, hb7⟩)
  go_ret
  exact ⟨rfl, hB6.trans (hb7.mono hB6.size)⟩

theorem tags_walk (k n : List Int) (x : Option Addr) (len cap : Nat) (o : List Int) (y : Option Addr) (lb cb : Nat) (z T : List Int) (w : World) (hk : k.length = 32) (hn : n.length = 12) (hT : T.length = 16) (hx : Bytes w x len cap o) (huo : ∀ v ∈ o, 0 ≤ v ∧ v ≤ 255) (hz : Bytes w y lb cb z) (huz : ∀ v ∈ z, 0 ≤ v ∧ v ≤ 255) (huT : ∀ v ∈ T, 0 ≤ v ∧ v ≤ 255) :
    Calls Try.prog 3 #[.agg (ask5Row k n (.slice x len cap)), .slice y lb cb, .agg (row .u8 T)] w fun e w' => e = .returned (.bool true) ∧ Below w.heap.size w w' := by
  by_cases he : tagL k n (o.take 200) (xorL k n 1 (z.take 300)) = T
  · exact tags_ok k n x len cap o y lb cb z T w hk hn hT hx huo hz huz huT he
  · exact tags_bad k n x len cap o y lb cb z T w hk hn hT hx huo hz huz huT he
end Go.Proofs.Ytbekaoefaolnnaa
