/- The statement PolyOne, walked. -/
import Derived.Test.YteolgonoodfniacPolyOneP
import Derived.Test.YteolgonoodfniacFew4
namespace Go.Proofs.Yteolgonoodfniac
open Go.RowKit
set_option maxRecDepth 20000
set_option linter.unusedSimpArgs false

set_option maxHeartbeats 4000000 in
theorem one_walk (k : List Int) (y : Option Addr) (lb cb : Nat) (z0 : List Int) (w : World) (hk : k.length = 32) (hu : ∀ v ∈ k, 0 ≤ v ∧ v ≤ 255) (hy : Bytes w y lb cb z0) (huz : ∀ v ∈ z0, 0 ≤ v ∧ v ≤ 255) :
    Calls Try.prog 3 #[.agg (row .u8 k), .slice y lb cb] w fun e w' => e = .returned (.bool true) ∧ Below w.heap.size w w' := by
  have hy6 := hy.few 15
  have huz6 : ∀ v ∈ z0.take 15, isB v := fun v hv => huz v (List.mem_of_mem_take hv)
  obtain ⟨m, hm⟩ : ∃ q, min lb 15 = q := ⟨_, rfl⟩
  obtain ⟨z, hz⟩ : ∃ q, z0.take 15 = q := ⟨_, rfl⟩
  have hm6 : m ≤ 15 := by omega
  have hf1 : ∀ wx, Below w.heap.size w wx → Calls Try.prog 5 #[.slice y lb cb, .int .i64 15] wx (fun e w' => e = .returned (.slice y m cb) ∧ wx = w') := fun wx hb' => by
    rw [← hm]; exact few4_any y lb cb 15 z0 wx (hy.below hb') (by omega) (by omega)
  rw [hm, hz] at hy6
  rw [hz] at huz6
  clear hm hz hy huz
  have hzl := hy6.len_eq
  have hgd := guardTag
  have hN := Holds.new w .u8 23 k
  have uTyK := Try.underlying23
  have iTyK : (Try.prog.info? 23).map (·.size) = some (k.map (Value.int .u8)).length := by rw [List.length_map, hk]; exact sizeKeyP
  by_cases hm0 : m = 0
  · obtain rfl : z = [] := List.length_eq_zero_iff.1 (by omega)
    have p1 := poly_none k hk hu
    have hs1 : ∀ wx, Below w.heap.size w wx → Calls Try.prog 7 #[.agg (List.map (Value.int .u8) k).toArray, .slice y m cb] wx fun e w' => e = .returned (.agg (row .u8 (k.drop 16))) ∧ Below wx.heap.size wx w' := fun wx hx => by
      have := psum_any k y m cb [] wx hk (hy6.below hx) (by omega)
      rw [p1] at this
      exact this
    have hh : ∀ wx, Calls Try.prog 8 #[.agg (List.map (Value.int .u8) k).toArray] wx fun e w' => e = .returned (.agg (row .u8 (k.drop 16))) ∧ Below wx.heap.size wx w' := fun wx => half4_any k wx hk
    have hsl : (k.drop 16).length = 16 := by rw [List.length_drop]; omega
    obtain ⟨S, hS⟩ : ∃ q, k.drop 16 = q := ⟨_, rfl⟩
    rw [hS] at hs1 hh hsl
    have hE : ∀ wx, (Op.equalIn 10000 28 (.agg (row .u8 S)) (.agg (row .u8 S))).run Try.prog wx = .ok true wx := fun wx => by
      have := eqTag S S hsl hsl wx
      rw [beq_self_eq_true] at this
      exact this
    subst hm0
    clear p1 hS hzl
    go_enter Try.func3, Try.ntmps3
    go_upto_region 1 with fail
    refine forget (p := fun y => Code.wp _ _ _ _ y) (fun W0 => Below w.heap.size w W0 ∧ Holds W0 w.heap.size .u8 23 k) ⟨(Below.refl _ _).alloc (Nat.le_refl _) _, hN⟩ ?_
    clear hN
    rintro W0 ⟨hB0, hK0⟩
    go_upto_region 3 with (go_at_call 5; refine (hf1 _ hB0).mono ?_; rintro e w' ⟨rfl, rfl⟩)
    refine wp_region_gate (fun w' => w'.rangeAt w.heap.size 0 (k.map (Value.int .u8))) 9 (by kernel_rfl) ?_
    refine wpAnyG_one (i := 0) rfl (by kernel_rfl) (by kernel_rfl) (fun K hK => ?_)
    go_wp2_with (go_at_call 6; refine (live4_any _).mono ?_; rintro e w4 ⟨rfl, hb4⟩)
    have hb4' : Below W0.heap.size W0 w4 := ((Below.refl _ _).drew).trans hb4
    have hB4 : Below w.heap.size w w4 := hB0.trans (hb4'.mono hB0.size)
    have hS := (hK0.below hb4' hK0.lt).rangeAll
    refine hK.out _ _ (fun _ => hS) ?_
    clear hK K
    refine wpAnyG_any (i := 1) (v := ?_) rfl (by kernel_rfl) (by kernel_rfl) (by kernel_rfl) (fun _ _ _ h => h) (by kernel_rfl) (fun _ => hS) (by kernel_rfl) ?_ ?_
    rotate_left
    · intro _; go_simp; try with_reducible rfl
    simp only [Act.put, List.setIfInBounds_toArray, List.set_cons_zero, List.set_cons_succ]
    refine wpAnyG_load (i := 2) (dst := some 16) (ty := 23) (x := .tmp 2) (b := w.heap.size) (o := 0) (cs := (k.map (Value.int .u8))) (by kernel_rfl) (by kernel_rfl) (by kernel_rfl) (by kernel_rfl) (by kernel_rfl) (fun _ _ _ h => h) (by kernel_rfl) (by kernel_rfl) (by kernel_rfl) hS (by kernel_rfl) (fun _ h => h) uTyK rfl iTyK ?_
    simp only [Act.put, List.setIfInBounds_toArray, List.set_cons_zero, List.set_cons_succ]
    refine wpAnyG_any (i := 3) (v := ?_) rfl (by kernel_rfl) (by kernel_rfl) (by kernel_rfl) (fun _ _ _ h => h) (by kernel_rfl) (fun _ => hS) (by kernel_rfl) ?_ ?_
    rotate_left
    · intro _; go_simp; try with_reducible rfl
    simp only [Act.put, List.setIfInBounds_toArray, List.set_cons_zero, List.set_cons_succ]
    refine wpAnyG_load (i := 5) (dst := some 19) (ty := 23) (x := .tmp 2) (b := w.heap.size) (o := 0) (cs := (k.map (Value.int .u8))) (by kernel_rfl) (by kernel_rfl) (by kernel_rfl) (by kernel_rfl) (by kernel_rfl) (fun _ _ _ h => h) (by kernel_rfl) (by kernel_rfl) (by kernel_rfl) hS (by kernel_rfl) (fun _ h => h) uTyK rfl iTyK ?_
    simp only [Act.put, List.setIfInBounds_toArray, List.set_cons_zero, List.set_cons_succ]
    refine wpAnyG_one (i := 4) rfl (by kernel_rfl) (by kernel_rfl) (fun K hK => ?_)
    go_wp2_with (go_at_call 7; refine (hs1 _ hB4).mono ?_; rintro e w5 ⟨rfl, hb5⟩)
    have hb5' : Below W0.heap.size W0 w5 := hb4'.trans (hb5.mono hb4'.size)
    replace hS := (hK0.below hb5' hK0.lt).rangeAll
    refine hK.out _ _ (fun _ => hS) ?_
    clear hK K
    refine wpAnyG_one (i := 6) rfl (by kernel_rfl) (by kernel_rfl) (fun K hK => ?_)
    go_wp2_with (go_at_call 8; refine (hh _).mono ?_; rintro e w6 ⟨rfl, hb6⟩)
    have hb6' : Below W0.heap.size W0 w6 := hb5'.trans (hb6.mono hb5'.size)
    replace hS := (hK0.below hb6' hK0.lt).rangeAll
    refine hK.out _ _ (fun _ => hS) ?_
    clear hK K
    refine wpAnyG_any (i := 7) (v := .bool true) rfl (by kernel_rfl) (by kernel_rfl) (by kernel_rfl) (fun _ _ _ h => h) (by kernel_rfl) (fun _ => hS) (by kernel_rfl) ?_ ?_
    · intro _; go_simp
    simp only [Act.put, List.setIfInBounds_toArray, List.set_cons_zero, List.set_cons_succ]
    refine wpAnyG_any (i := 8) (v := .bool true) rfl (by kernel_rfl) (by kernel_rfl) (by kernel_rfl) (fun _ _ _ h => h) (by kernel_rfl) (fun _ => hS) (by kernel_rfl) ?_ ?_
    · intro _; go_simp
    simp only [Act.put, List.setIfInBounds_toArray, List.set_cons_zero, List.set_cons_succ]
    refine wpAnyG_one (i := 9) rfl (by kernel_rfl) (by kernel_rfl) (fun K hK => ?_)
    go_simp
    refine hK.out _ _ (fun h => absurd (show true = false from h) (by decide)) ?_
    clear hK K
    refine wpAnyG_done (by kernel_rfl) ?_ _
    go_wp2
    go_ret
    exact ⟨rfl, hB0.trans (hb6'.mono hB0.size)⟩
  · -- a first half of 1
    have hK1l : ([1, 0, 0, 0, 0, 0, 0, 0, 0, 0, 0, 0, 0, 0, 0, 0] ++ k.drop 16).length = 32 := by rw [List.length_append, List.length_drop, hk]; rfl
    have hK1u : ∀ v ∈ [1, 0, 0, 0, 0, 0, 0, 0, 0, 0, 0, 0, 0, 0, 0, 0] ++ k.drop 16, isB v := fun v hv => by
      rcases List.mem_append.1 hv with h | h
      · simp only [List.mem_cons, List.not_mem_nil, or_false] at h
        unfold isB
        omega
      · exact hu v (List.mem_of_mem_drop h)
    have hK1t : ([1, 0, 0, 0, 0, 0, 0, 0, 0, 0, 0, 0, 0, 0, 0, 0] ++ k.drop 16).take 16 = [1, 0, 0, 0, 0, 0, 0, 0, 0, 0, 0, 0, 0, 0, 0, 0] := by rw [List.take_append_of_le_length (by simp), List.take_of_length_le (by simp)]
    have hK1d : ([1, 0, 0, 0, 0, 0, 0, 0, 0, 0, 0, 0, 0, 0, 0, 0] ++ k.drop 16).drop 16 = k.drop 16 := by rw [List.drop_append_of_le_length (by simp), List.drop_of_length_le (by simp), List.nil_append]
    have p1 := poly_one _ z hK1l hK1u huz6 (by omega) (by omega) hK1t
    rw [hK1d] at p1
    have hsl : (k.drop 16).length = 16 := by rw [List.length_drop]; omega
    have hsb := getB (z := k.drop 16) (fun v hv => hu v (List.mem_of_mem_drop hv))
    have hyb := getB (z := (blkP z 0).take 16) (fun v hv => blkP_in' z huz6 0 v (List.mem_of_mem_take hv))
    have hcb := oneC_in (k.drop 16) ((blkP z 0).take 16) hsb hyb
    have hbo := blk_one z (by omega)
    have hzb := getB huz6
    have hs1 : ∀ wx, Below w.heap.size w wx → Calls Try.prog 7 #[.agg (List.map (Value.int .u8) ([1, 0, 0, 0, 0, 0, 0, 0, 0, 0, 0, 0, 0, 0, 0, 0] ++ k.drop 16)).toArray, .slice y m cb] wx fun e w' => e = .returned (.agg (row .u8 (oneK (k.drop 16) ((blkP z 0).take 16) 16))) ∧ Below wx.heap.size wx w' := fun wx hx => by
      have := psum_any _ y m cb z wx hK1l (hy6.below hx) (by omega)
      rw [p1] at this
      exact this
    have HK0 : Veil (List.replicate 16 0 ++ k.drop 16 = [0, 0, 0, 0, 0, 0, 0, 0, 0, 0, 0, 0, 0, 0, 0, 0] ++ k.drop 16) := ⟨rfl⟩
    have HZS : Veil (∀ i, i < 16 → (List.replicate i 0 ++ k.drop i).set i 0 = List.replicate (i + 1) 0 ++ k.drop (i + 1)) := ⟨fun i hi => zeroK_set k i (by omega)⟩
    have HZL : Veil (∀ i, i ≤ 16 → (List.replicate i 0 ++ k.drop i).length = 32) := ⟨fun i hi => by rw [List.length_append, List.length_drop, List.length_replicate]; omega⟩
    have HZ1 : Veil ((List.replicate 16 0 ++ k.drop 16).set 0 1 = [1, 0, 0, 0, 0, 0, 0, 0, 0, 0, 0, 0, 0, 0, 0, 0] ++ k.drop 16) := ⟨rfl⟩
    have HKd : Veil (∀ i : Nat, ([1, 0, 0, 0, 0, 0, 0, 0, 0, 0, 0, 0, 0, 0, 0, 0] ++ k.drop 16)[16 + i]?.getD 0 = (k.drop 16)[i]?.getD 0) := ⟨fun i => by rw [List.getElem?_append_right (by simp)]; simp⟩
    obtain ⟨S, hS⟩ : ∃ q, k.drop 16 = q := ⟨_, rfl⟩
    have HS16 : Veil (k.drop 16 = S) := ⟨hS⟩
    obtain ⟨Y, hY⟩ : ∃ q, (blkP z 0).take 16 = q := ⟨_, rfl⟩
    rw [hS] at hs1 hsl hsb hcb HZ1 HKd hK1l
    rw [hY] at hs1 hyb hcb hbo
    obtain ⟨K1, hK1⟩ : ∃ q, [1, 0, 0, 0, 0, 0, 0, 0, 0, 0, 0, 0, 0, 0, 0, 0] ++ S = q := ⟨_, rfl⟩
    rw [hK1] at hs1 HZ1 HKd hK1l
    have HOC : Veil (∀ i, oneC S Y (i + 1) = (oneC S Y i + S[i]?.getD 0 + Y[i]?.getD 0) / 256) := ⟨fun _ => rfl⟩
    have HOK : Veil (∀ i, oneK S Y (i + 1) = (oneK S Y i).set i ((oneC S Y i + S[i]?.getD 0 + Y[i]?.getD 0) % 256)) := ⟨fun _ => rfl⟩
    have HOL : Veil (∀ i, (oneK S Y i).length = 16) := ⟨oneK_length S Y⟩
    have HBO : Veil (∀ i, i < 16 → Y[i]?.getD 0 = if i < z.length then z[i]?.getD 0 else if i = z.length then 1 else 0) := ⟨hbo⟩
    have HSB : Veil (∀ i : Nat, (0 : Int) ≤ S[i]?.getD (0 : Int) ∧ S[i]?.getD (0 : Int) ≤ 255) := ⟨hsb⟩
    have HCB : Veil (∀ i, 0 ≤ oneC S Y i ∧ oneC S Y i ≤ 1) := ⟨hcb⟩
    have HZB : Veil (∀ i : Nat, (0 : Int) ≤ z[i]?.getD (0 : Int) ∧ z[i]?.getD (0 : Int) ≤ 255) := ⟨hzb⟩
    have HZLEN : Veil (m = z.length) := ⟨hzl⟩
    have hO16 := oneK_length S Y 16
    have HO0 : Veil (oneK S Y 0 = List.replicate 16 0 ∧ oneC S Y 0 = 0) := ⟨rfl, rfl⟩
    have hE : ∀ wx, (Op.equalIn 10000 28 (.agg (row .u8 (oneK S Y 16))) (.agg (List.map (Value.int .u8) (oneK S Y 16)).toArray)).run Try.prog wx = .ok true wx := fun wx => by
      have := eqTag _ _ hO16 hO16 wx
      rw [beq_self_eq_true] at this
      exact this
    have iTy1 : (Try.prog.info? 23).map (·.size) = some (K1.map (Value.int .u8)).length := by rw [List.length_map, hK1l]; exact sizeKeyP
    have hm0i : ¬ ((m : Int) = 0) := by omega
    have hm1 : 0 < m := by omega
    clear p1 hK1t hK1d hK1u hbo hsb hcb hyb hzb hzl hu huz6 hS hY hK1 hsl hm0
    go_enter Try.func3, Try.ntmps3
    go_upto_region 1 with fail
    refine forget (p := fun y => Code.wp _ _ _ _ y) (fun W0 => Below w.heap.size w W0 ∧ Holds W0 w.heap.size .u8 23 k) ⟨(Below.refl _ _).alloc (Nat.le_refl _) _, hN⟩ ?_
    clear hN
    rintro W0 ⟨hB0, hK0⟩
    go_wp2_with (go_at_call 5; refine (hf1 _ hB0).mono ?_; rintro e w' ⟨rfl, rfl⟩)
    go_loopw [5] (fun q wr => ∃ i : Nat, i ≤ 16 ∧ q = .int .i64 i ∧ Below w.heap.size w wr ∧ Holds wr w.heap.size .u8 23 (List.replicate i 0 ++ k.drop i)) (fun q _ => 16 - (intOf q).toNat)
    case atStart => exact ⟨0, by omega, rfl, hB0, by simpa using hK0⟩
    case round =>
      clear hB0 hK0
      obtain ⟨i, hi, rfl, hB, hKy⟩ := hrel
      by_cases hlt : i < 16
      · have HS : Veil ((List.replicate i 0 ++ k.drop i).set i 0 = List.replicate (i + 1) 0 ++ k.drop (i + 1)) := ⟨HZS.out i hlt⟩
        have hAl := HZL.out i hi
        obtain ⟨A, hAe⟩ : ∃ q, List.replicate i 0 ++ k.drop i = q := ⟨_, rfl⟩
        rw [hAe] at hKy HS hAl
        have c2 := hKy.cell i (by omega)
        have f2 := hKy.frozen i
        have hi0 : (0 : Int) ≤ (i : Int) := by omega
        have hi6 : (i : Int) < 32 := by omega
        clear hAe
        go_wp2
        go_roundw
        case rel => exact ⟨i + 1, by omega, by go_num, hB.setCell (by simp) _, by rw [← HS.out]; exact hKy.set i _⟩
        case measure => simp [intOf]; omega
      · obtain rfl : i = 16 := by omega
        rw [show ((16 : Nat) : Int) = 16 from rfl]
        rw [HS16.out] at hKy
        have hAl : (List.replicate 16 0 ++ S).length = 32 := by have := HZL.out 16 (by omega); rw [HS16.out] at this; exact this
        obtain ⟨A, hAe⟩ : ∃ q, List.replicate 16 0 ++ S = q := ⟨_, rfl⟩
        rw [hAe] at hKy HZ1 hAl
        have c0 := hKy.cell 0 (by omega)
        have f0 := hKy.frozen 0
        clear hAe HZS HZL HK0 HS16
        go_upto_region 9 with fail
        refine forget (p := fun y => Code.wp _ _ _ _ y) (fun W1 => Below w.heap.size w W1 ∧ Holds W1 w.heap.size .u8 23 K1) ⟨hB.setCell (by simp) _, by rw [← HZ1.out]; exact hKy.set 0 _⟩ ?_
        clear hB hKy c0 f0 HZ1
        rintro W1 ⟨hB1, hK1⟩
        have hN := Holds.new W1 .u8 28 (List.replicate 16 0)
        have hl1 : w.heap.size < W1.heap.size := hK1.lt
        go_upto_region 10 with fail
        refine forget (p := fun y => Code.wp _ _ _ _ y) (fun W2 => Below w.heap.size w W2 ∧ Holds W2 w.heap.size .u8 23 K1 ∧ Holds W2 W1.heap.size .u8 28 (oneK S Y 0)) ⟨hB1.alloc hB1.size _, hK1.alloc _, by rw [HO0.out.1]; exact hN⟩ ?_
        obtain ⟨g, hg⟩ : ∃ q, W1.heap.size = q := ⟨_, rfl⟩
        rw [hg] at hl1 ⊢
        clear hg hN hK1 hB1
        rintro W2 ⟨hB2, hK2, hT2⟩
        go_wp2_with fail
        go_loopw [7, 8] (fun cv q wr => ∃ i : Nat, i ≤ 16 ∧ cv = .int .i64 (oneC S Y i) ∧ q = .int .i64 i ∧ Below w.heap.size w wr ∧ Holds wr w.heap.size .u8 23 K1 ∧ Holds wr g .u8 28 (oneK S Y i)) (fun _ q _ => 16 - (intOf q).toNat)
        case atStart => exact ⟨0, by omega, by rw [HO0.out.2], rfl, hB2, hK2, hT2⟩
        case round =>
          clear hB2 hK2 hT2
          obtain ⟨i, hi, rfl, rfl, hB, hKy, hT⟩ := hrel
          by_cases hlt : i < 16
          · have hsv := HSB.out i
            have hcv := HCB.out i
            have hTl := HOL.out i
            have hbo := HBO.out i hlt
            have hzv := HZB.out i
            have hzm := HZLEN.out
            have ck := hKy.cell (16 + i) (by omega)
            rw [HKd.out i] at ck
            have HN : Veil (∃ t : Int, t = oneC S Y i + S[i]?.getD 0 + Y[i]?.getD 0 ∧ oneC S Y (i + 1) = t / 256 ∧ oneK S Y (i + 1) = (oneK S Y i).set i (t % 256)) := ⟨_, rfl, HOC.out i, HOK.out i⟩
            obtain ⟨s, hs⟩ : ∃ q, S[i]?.getD 0 = q := ⟨_, rfl⟩
            obtain ⟨c, hc⟩ : ∃ q, oneC S Y i = q := ⟨_, rfl⟩
            obtain ⟨T, hTe⟩ : ∃ q, oneK S Y i = q := ⟨_, rfl⟩
            rw [hs] at ck hsv HN
            rw [hc] at hcv HN ⊢
            rw [hTe] at hT hTl HN
            have ct := hT.cell i (by omega)
            have ft := hT.frozen i
            have hi0 : (0 : Int) ≤ (i : Int) := by omega
            have hi6 : (i : Int) < 16 := by omega
            have hj0 : (0 : Int) ≤ 16 + (i : Int) := by omega
            have hj6 : 16 + (i : Int) < 32 := by omega
            have hjt : (16 + (i : Int)).toNat = 16 + i := by omega
            clear hs hc hTe
            by_cases h1 : i < m
            · rw [if_pos (by omega)] at hbo
              rw [hbo] at HN
              obtain ⟨b1, o1, hx1, hc1⟩ : ∃ b off, y = some ⟨b, off, none⟩ ∧ ∀ j, j < m → wr.cell? ⟨b, off + j, none⟩ = some (.int .u8 (z[j]?.getD 0)) := by
                rcases (hy6.below hB).at_ with h0 | h
                · omega
                · exact h
              have cz := hc1 i h1
              obtain ⟨v, hv⟩ : ∃ q, z[i]?.getD 0 = q := ⟨_, rfl⟩
              rw [hv] at cz HN hzv
              have hq : (c + s + v).tdiv 256 = (c + s + v) / 256 := Int.tdiv_eq_ediv_of_nonneg (by omega)
              have him : (i : Int) < (m : Int) := by omega
              subst hx1
              clear hc1 hv hbo hzm
              go_wp2
              go_roundw
              case rel =>
                obtain ⟨t, rfl, h2, h3⟩ := HN.out
                exact ⟨i + 1, by omega, by rw [h2], by go_num, hB.setCell (by show w.heap.size ≤ g; omega) _, hKy.setOther _ _ (by simp; omega), by rw [h3]; simpa [IntKind.wrap_u8] using hT.set i _⟩
              case measure => simp [intOf]; omega
            · rw [if_neg (by omega)] at hbo
              by_cases h4 : i = m
              · rw [if_pos (by omega)] at hbo
                rw [hbo] at HN
                have hq : (c + s + 1).tdiv 256 = (c + s + 1) / 256 := Int.tdiv_eq_ediv_of_nonneg (by omega)
                clear hbo hzm hzv h1
                subst h4
                go_wp2
                go_roundw
                case rel =>
                  obtain ⟨t, rfl, h2, h3⟩ := HN.out
                  exact ⟨i + 1, by omega, by rw [h2], by go_num, hB.setCell (by show w.heap.size ≤ g; omega) _, hKy.setOther _ _ (by simp; omega), by rw [h3]; simpa [IntKind.wrap_u8] using hT.set i _⟩
                case measure => simp [intOf]; omega
              · rw [if_neg (by omega)] at hbo
                rw [hbo, Int.add_zero] at HN
                have hq : (c + s).tdiv 256 = (c + s) / 256 := Int.tdiv_eq_ediv_of_nonneg (by omega)
                have hn1 : ¬ ((i : Int) < (m : Int)) := by omega
                have hn2 : ¬ ((i : Int) = (m : Int)) := by omega
                clear hbo hzm hzv
                go_wp2
                go_roundw
                case rel =>
                  obtain ⟨t, rfl, h2, h3⟩ := HN.out
                  exact ⟨i + 1, by omega, by rw [h2], by go_num, hB.setCell (by show w.heap.size ≤ g; omega) _, hKy.setOther _ _ (by simp; omega), by rw [h3]; simpa [IntKind.wrap_u8] using hT.set i _⟩
                case measure => simp [intOf]; omega
          · obtain rfl : i = 16 := by omega
            rw [show ((16 : Nat) : Int) = 16 from rfl]
            obtain ⟨cc, hcc⟩ : ∃ q, oneC S Y 16 = q := ⟨_, rfl⟩
            rw [hcc]
            obtain ⟨T, hTe⟩ : ∃ q, oneK S Y 16 = q := ⟨_, rfl⟩
            rw [hTe] at hT hs1 hE hO16
            have uTyT := Try.underlying28
            have iTyT : (Try.prog.info? 28).map (·.size) = some (T.map (Value.int .u8)).length := by rw [List.length_map, hO16]; exact sizeTag
            clear hTe hcc HOC HOK HOL HBO HSB HCB HZB HZLEN HO0 HKd
            go_upto_region 21 with fail
            refine wp_region_gate (fun w' => w'.rangeAt w.heap.size 0 (K1.map (Value.int .u8)) ∧ w'.rangeAt g 0 (T.map (Value.int .u8))) 8 (by kernel_rfl) ?_
            refine wpAnyG_one (i := 0) rfl (by kernel_rfl) (by kernel_rfl) (fun K hK => ?_)
            go_wp2_with (go_at_call 6; refine (live4_any _).mono ?_; rintro e w4 ⟨rfl, hb4⟩)
            have hb4' : Below wr.heap.size wr w4 := ((Below.refl _ _).drew).trans hb4
            have hB4 : Below w.heap.size w w4 := hB.trans (hb4'.mono hB.size)
            have hS := And.intro (hKy.below hb4' hKy.lt).rangeAll (hT.below hb4' hT.lt).rangeAll
            refine hK.out _ _ (fun _ => hS) ?_
            clear hK K
            refine wpAnyG_any (i := 1) (v := ?_) rfl (by kernel_rfl) (by kernel_rfl) (by kernel_rfl) (fun _ _ _ h => h) (by kernel_rfl) (fun _ => hS) (by kernel_rfl) ?_ ?_
            rotate_left
            · intro _; go_simp; try with_reducible rfl
            simp only [Act.put, List.setIfInBounds_toArray, List.set_cons_zero, List.set_cons_succ]
            refine wpAnyG_load (i := 2) (dst := some 66) (ty := 23) (x := .tmp 2) (b := w.heap.size) (o := 0) (cs := (K1.map (Value.int .u8))) (by kernel_rfl) (by kernel_rfl) (by kernel_rfl) (by kernel_rfl) (by kernel_rfl) (fun _ _ _ h => h) (by kernel_rfl) (by kernel_rfl) (by kernel_rfl) hS (by kernel_rfl) (fun _ h => h.1) uTyK rfl iTy1 ?_
            simp only [Act.put, List.setIfInBounds_toArray, List.set_cons_zero, List.set_cons_succ]
            refine wpAnyG_any (i := 3) (v := ?_) rfl (by kernel_rfl) (by kernel_rfl) (by kernel_rfl) (fun _ _ _ h => h) (by kernel_rfl) (fun _ => hS) (by kernel_rfl) ?_ ?_
            rotate_left
            · intro _; go_simp; try with_reducible rfl
            simp only [Act.put, List.setIfInBounds_toArray, List.set_cons_zero, List.set_cons_succ]
            refine wpAnyG_load (i := 5) (dst := some 69) (ty := 28) (x := .tmp 6) (b := g) (o := 0) (cs := (T.map (Value.int .u8))) (by kernel_rfl) (by kernel_rfl) (by kernel_rfl) (by kernel_rfl) (by kernel_rfl) (fun _ _ _ h => h) (by kernel_rfl) (by kernel_rfl) (by kernel_rfl) hS (by kernel_rfl) (fun _ h => h.2) uTyT rfl iTyT ?_
            simp only [Act.put, List.setIfInBounds_toArray, List.set_cons_zero, List.set_cons_succ]
            refine wpAnyG_one (i := 4) rfl (by kernel_rfl) (by kernel_rfl) (fun K hK => ?_)
            go_wp2_with (go_at_call 7; refine (hs1 _ hB4).mono ?_; rintro e w5 ⟨rfl, hb5⟩)
            have hb5' : Below wr.heap.size wr w5 := hb4'.trans (hb5.mono hb4'.size)
            replace hS := And.intro (hKy.below hb5' hKy.lt).rangeAll (hT.below hb5' hT.lt).rangeAll
            refine hK.out _ _ (fun _ => hS) ?_
            clear hK K
            refine wpAnyG_any (i := 6) (v := .bool true) rfl (by kernel_rfl) (by kernel_rfl) (by kernel_rfl) (fun _ _ _ h => h) (by kernel_rfl) (fun _ => hS) (by kernel_rfl) ?_ ?_
            · intro _; go_simp
            simp only [Act.put, List.setIfInBounds_toArray, List.set_cons_zero, List.set_cons_succ]
            refine wpAnyG_any (i := 7) (v := .bool true) rfl (by kernel_rfl) (by kernel_rfl) (by kernel_rfl) (fun _ _ _ h => h) (by kernel_rfl) (fun _ => hS) (by kernel_rfl) ?_ ?_
            · intro _; go_simp
            simp only [Act.put, List.setIfInBounds_toArray, List.set_cons_zero, List.set_cons_succ]
            refine wpAnyG_one (i := 8) rfl (by kernel_rfl) (by kernel_rfl) (fun K hK => ?_)
            go_simp
            refine hK.out _ _ (fun h => absurd (show true = false from h) (by decide)) ?_
            clear hK K
            refine wpAnyG_done (by kernel_rfl) ?_ _
            go_wp2
            go_ret
            exact ⟨rfl, hB.trans (hb5'.mono hB.size)⟩
end Go.Proofs.Yteolgonoodfniac
