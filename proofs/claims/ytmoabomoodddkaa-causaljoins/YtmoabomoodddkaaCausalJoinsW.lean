/- CausalJoins, walked (Written by mkcl.py.) -/
import Derived.Test.YtmoabomoodddkaaBlv
import Derived.Test.YtmoabomoodddkaaCausalVectorsW
namespace Go.Proofs.Ytmoabomoodddkaa
open Go.RowKit Go.Shelf
set_option maxRecDepth 20000
set_option linter.unusedSimpArgs false
theorem withinTo_iff (a b : List Int) : ∀ n, withinTo a b n = true ↔ ∀ k, k < n → a[k]?.getD 0 ≤ b[k]?.getD 0
  | 0 => by simp [withinTo]
  | n + 1 => by
    rw [withinTo, Bool.and_eq_true, withinTo_iff a b n]
    simp only [Bool.not_eq_true', decide_eq_false_iff_not, Int.not_lt, gt_iff_lt]
    constructor
    · rintro ⟨h1, h2⟩ k hk
      by_cases e : k = n
      · rw [e]; exact h2
      · exact h1 k (by omega)
    · intro h; exact ⟨fun k hk => h k (by omega), h n (by omega)⟩
theorem joinTo_get (a b : List Int) : ∀ n j, j < n → n ≤ a.length → (joinTo a b n)[j]?.getD 0 = if a[j]?.getD 0 < b[j]?.getD 0 then b[j]?.getD 0 else a[j]?.getD 0
  | 0, j, h, _ => absurd h (Nat.not_lt_zero _)
  | n + 1, j, h, hn => by
    rw [joinTo]
    by_cases e : j = n
    · rw [e, List.getElem?_set_self (by rw [joinTo_length]; omega)]; rfl
    · rw [List.getElem?_set_ne (by omega)]; exact joinTo_get a b n j (by omega) (by omega)
theorem joinV_get (a b : List Int) (ha : a.length = 8) (j : Nat) (hj : j < 8) : (joinV a b)[j]?.getD 0 = if a[j]?.getD 0 < b[j]?.getD 0 then b[j]?.getD 0 else a[j]?.getD 0 := joinTo_get a b 8 j hj (by omega)
theorem join_comm (a b : List Int) (ha : a.length = 8) (hb : b.length = 8) : joinV a b = joinV b a := by
  apply List.ext_getElem?
  intro j
  by_cases hj : j < 8
  · have h1 := joinV_get a b ha j hj
    have h2 := joinV_get b a hb j hj
    have l1 := joinV_length a b ha
    have l2 := joinV_length b a hb
    rw [List.getElem?_eq_getElem (by omega)] at h1 h2 ⊢
    rw [List.getElem?_eq_getElem (by omega)]
    simp only [Option.getD_some] at h1 h2
    rw [h1, h2]
    congr 1
    split <;> split <;> omega
  · rw [List.getElem?_eq_none (by rw [joinV_length a b ha]; omega), List.getElem?_eq_none (by rw [joinV_length b a hb]; omega)]
theorem within_join (a b : List Int) (ha : a.length = 8) : withinB a (joinV a b) = true ∧ withinB b (joinV a b) = true := by
  refine ⟨(withinTo_iff _ _ 8).2 fun k hk => ?_, (withinTo_iff _ _ 8).2 fun k hk => ?_⟩ <;>
  · rw [joinV_get a b ha k hk]; split <;> omega
theorem within_least (a b c : List Int) (ha : a.length = 8) (h : withinB a c = true) : withinB b c = withinB (joinV a b) c := by
  have h := (withinTo_iff _ _ 8).1 h
  rw [Bool.eq_iff_iff]
  unfold withinB
  rw [withinTo_iff, withinTo_iff]
  constructor
  · intro q k hk
    rw [joinV_get a b ha k hk]
    have := h k hk; have := q k hk
    split <;> omega
  · intro q k hk
    have q1 := q k hk
    rw [joinV_get a b ha k hk] at q1
    have h1 := h k hk
    split at q1 <;> omega
theorem has_join (a b : List Int) (ha : a.length = 8) (x s : Int) (hx : 0 ≤ x) : hasB (joinV a b) x s = (hasB a x s || hasB b x s) := by
  unfold hasB
  by_cases h8 : x < 8
  · obtain ⟨n, rfl⟩ := Int.eq_ofNat_of_zero_le hx
    rw [Int.toNat_natCast, joinV_get a b ha n (by omega)]
    by_cases hs : s = 0
    · simp [hs]
    · simp only [h8, decide_true, Bool.true_and, beq_eq_false_iff_ne.2 hs, Bool.not_false]
      rw [Bool.eq_iff_iff]
      simp only [decide_eq_true_eq, Bool.or_eq_true]
      split <;> omega
  · simp [h8]
set_option maxHeartbeats 8000000 in
theorem cjn_walk (a b c : List Int) (da ds : Int) (w : World) (ha : a.length = 8) (hb : b.length = 8) (hc : c.length = 8) (hd : okD da ds) :
    Calls Try.prog 4 #[.agg ((a ++ b ++ c).map (Value.int .u32)).toArray, .agg (dotC da ds).toArray] w fun e w' => e = .returned (.bool true) ∧ Below w.heap.size w w' := by
  have hj := joinV_length a b ha
  have HLV : Veil (∀ W, Calls Try.prog 12 #[] W fun r w' => r = .returned (.bool true) ∧ Below W.heap.size W w') := ⟨fun W => clive_any W⟩
  have HJ1 : Veil (∀ W, Calls Try.prog 17 #[.agg (a.map (Value.int .u32)).toArray, .agg (b.map (Value.int .u32)).toArray] W fun r w' => r = .returned (.agg ((joinV a b).map (Value.int .u32)).toArray) ∧ Below W.heap.size W w') := ⟨fun W => cjoin_any a b W ha hb⟩
  have HJ2 : Veil (∀ W, Calls Try.prog 17 #[.agg (b.map (Value.int .u32)).toArray, .agg (a.map (Value.int .u32)).toArray] W fun r w' => r = .returned (.agg ((joinV a b).map (Value.int .u32)).toArray) ∧ Below W.heap.size W w') := ⟨fun W => by rw [join_comm a b ha hb]; exact cjoin_any b a W hb ha⟩
  have HAC : Veil (∀ W, Calls Try.prog 15 #[.agg (a.map (Value.int .u32)).toArray, .agg (c.map (Value.int .u32)).toArray] W fun r w' => r = .returned (.bool (withinB a c)) ∧ Below W.heap.size W w') := ⟨fun W => cwithin_any a c W ha hc⟩
  have HBC : Veil (∀ W, Calls Try.prog 15 #[.agg (b.map (Value.int .u32)).toArray, .agg (c.map (Value.int .u32)).toArray] W fun r w' => r = .returned (.bool (withinB b c)) ∧ Below W.heap.size W w') := ⟨fun W => cwithin_any b c W hb hc⟩
  have HJC : Veil (∀ W, Calls Try.prog 15 #[.agg ((joinV a b).map (Value.int .u32)).toArray, .agg (c.map (Value.int .u32)).toArray] W fun r w' => r = .returned (.bool (withinB (joinV a b) c)) ∧ Below W.heap.size W w') := ⟨fun W => cwithin_any (joinV a b) c W hj hc⟩
  have HAJ : Veil (∀ W, Calls Try.prog 15 #[.agg (a.map (Value.int .u32)).toArray, .agg ((joinV a b).map (Value.int .u32)).toArray] W fun r w' => r = .returned (.bool true) ∧ Below W.heap.size W w') := ⟨fun W => by have := cwithin_any a (joinV a b) W ha hj; rw [(within_join a b ha).1] at this; exact this⟩
  have HBJ : Veil (∀ W, Calls Try.prog 15 #[.agg (b.map (Value.int .u32)).toArray, .agg ((joinV a b).map (Value.int .u32)).toArray] W fun r w' => r = .returned (.bool true) ∧ Below W.heap.size W w') := ⟨fun W => by have := cwithin_any b (joinV a b) W hb hj; rw [(within_join a b ha).2] at this; exact this⟩
  have HHJ : Veil (∀ W, Calls Try.prog 13 #[.agg ((joinV a b).map (Value.int .u32)).toArray, .agg (dotC da ds).toArray] W fun r w' => r = .returned (.bool (hasB a da ds || hasB b da ds)) ∧ Below W.heap.size W w') := ⟨fun W => by have := chas_any (joinV a b) da ds W hj hd.1.1 hd.2.1; rw [has_join a b ha da ds hd.1.1] at this; exact this⟩
  have HHA : Veil (∀ W, Calls Try.prog 13 #[.agg (a.map (Value.int .u32)).toArray, .agg (dotC da ds).toArray] W fun r w' => r = .returned (.bool (hasB a da ds)) ∧ Below W.heap.size W w') := ⟨fun W => chas_any a da ds W ha hd.1.1 hd.2.1⟩
  have HHB : Veil (∀ W, Calls Try.prog 13 #[.agg (b.map (Value.int .u32)).toArray, .agg (dotC da ds).toArray] W fun r w' => r = .returned (.bool (hasB b da ds)) ∧ Below W.heap.size W w') := ⟨fun W => chas_any b da ds W hb hd.1.1 hd.2.1⟩
  have HLE : Veil (withinB a c = true → withinB b c = withinB (joinV a b) c) := ⟨within_least a b c ha⟩
  have heq : ∀ wx, (binOp .eql 24 (.agg ((joinV a b).map (Value.int .u32)).toArray) (.agg ((joinV a b).map (Value.int .u32)).toArray)).run Try.prog wx = .ok (.bool true) wx := fun wx => by rw [vec_eql _ _ hj hj, beq_self_eq_true]
  have k0 := (CellsAt.new w 32 ((a ++ b ++ c).map (Value.int .u32))).alloc (.cells (dotC da ds).toArray 26)
  have k1 := CellsAt.new (w.alloc (.cells ((a ++ b ++ c).map (Value.int .u32)).toArray 32)) 26 (dotC da ds)
  rw [World.size_alloc] at k1
  have hB0 : Below w.heap.size w ((w.alloc (.cells ((a ++ b ++ c).map (Value.int .u32)).toArray 32)).alloc (.cells (dotC da ds).toArray 26)) := ((Below.refl _ _).alloc (Nat.le_refl _) _).alloc (by simp) _
  have HRG : Veil (∀ W, CellsAt W w.heap.size 32 ((a ++ b ++ c).map (Value.int .u32)) → W.rangeAt w.heap.size 0 (a.map (Value.int .u32)) ∧ W.rangeAt w.heap.size 8 (b.map (Value.int .u32)) ∧ W.rangeAt w.heap.size 16 (c.map (Value.int .u32))) := ⟨fun W h => by
    have h1 := h.range 0 8
    have h2 := h.range 8 8
    have h3 := h.range 16 8
    rw [List.map_append, List.map_append] at h1 h2 h3
    rw [List.append_assoc, List.drop_zero, List.take_left' (by simp [ha])] at h1
    rw [List.append_assoc, List.drop_left' (by simp [ha]), List.take_left' (by simp [hb])] at h2
    rw [List.drop_left' (by simp [ha, hb]), List.take_of_length_le (by simp [hc])] at h3
    exact ⟨h1, h2, h3⟩⟩
  have iA : (Try.prog.info? 24).map (·.size) = some (a.map (Value.int .u32)).length := by rw [List.length_map, ha]; exact sizeV8c
  have iB : (Try.prog.info? 24).map (·.size) = some (b.map (Value.int .u32)).length := by rw [List.length_map, hb]; exact sizeV8c
  have iC : (Try.prog.info? 24).map (·.size) = some (c.map (Value.int .u32)).length := by rw [List.length_map, hc]; exact sizeV8c
  have iJ : (Try.prog.info? 24).map (·.size) = some ((joinV a b).map (Value.int .u32)).length := by rw [List.length_map, hj]; exact sizeV8c
  have HJL : Veil (8 = ((joinV a b).map (Value.int .u32)).length) := ⟨by rw [List.length_map, hj]⟩
  have hJ1 : ∀ v ∈ (joinV a b).map (Value.int .u32), v.oneCell' = true := fun v hv => by obtain ⟨x, _, rfl⟩ := List.mem_map.1 hv; rfl
  have iD : (Try.prog.info? 26).map (·.size) = some (dotC da ds).length := sizeDot
  have uV := Try.underlying24
  have uD := Try.underlying26
  generalize withinB a c = WA at HAC HLE
  generalize withinB b c = WB at HBC HLE
  generalize withinB (joinV a b) c = WJ at HJC HLE
  generalize hasB a da ds = HA at HHJ HHA
  generalize hasB b da ds = HB at HHJ HHB
  generalize (a ++ b ++ c).map (Value.int .u32) = LV at k0 k1 hB0 HRG ⊢
  generalize (joinV a b).map (Value.int .u32) = JV at HJ1 HJ2 HJC HAJ HBJ HHJ heq iJ HJL hJ1
  generalize a.map (Value.int .u32) = AV at HJ1 HJ2 HAC HAJ HHA HRG iA
  generalize b.map (Value.int .u32) = BV at HJ1 HJ2 HBC HBJ HHB HRG iB
  generalize c.map (Value.int .u32) = CV at HAC HBC HJC HRG iC
  generalize dotC da ds = DC at HHJ HHA HHB k0 k1 hB0 iD ⊢
  clear ha hb hc hd hj
  go_enter Try.func4, Try.ntmps4
  go_upto_region 1 with fail
  refine forget (p := fun y => Code.wp _ _ _ _ y) (fun W => Below w.heap.size w W ∧ CellsAt W w.heap.size 32 LV ∧ CellsAt W (w.heap.size + 1) 26 DC) ⟨hB0, k0, k1⟩ ?_
  clear hB0 k0 k1
  rintro Wa ⟨hBa, c0, c1⟩
  obtain ⟨r1, r2, r3⟩ := HRG.out Wa c0
  have hjc := HJ1.out Wa
  go_upto_region 2 with (first
    | (refine wpList_ldv rfl 24 _ rfl w.heap.size 0 rfl AV r1 uV rfl iA ?_)
    | (refine wpList_ldv rfl 24 _ rfl w.heap.size 8 rfl BV r2 uV rfl iB ?_)
    | (go_at_call 17; refine hjc.mono ?_; rintro x Wb ⟨rfl, hbb⟩)
    | (refine wpList_stv rfl 24 _ _ rfl Wb.heap.size rfl rfl (CellsAt.new Wb 24 [.int .u32 0, .int .u32 0, .int .u32 0, .int .u32 0, .int .u32 0, .int .u32 0, .int .u32 0, .int .u32 0]) iJ HJL.out hJ1 ?_))
  have hz := (CellsAt.new Wb 24 [.int .u32 0, .int .u32 0, .int .u32 0, .int .u32 0, .int .u32 0, .int .u32 0, .int .u32 0, .int .u32 0]).setRow JV
  have hBj : Below Wb.heap.size Wb ((Wb.alloc (.cells #[.int .u32 0, .int .u32 0, .int .u32 0, .int .u32 0, .int .u32 0, .int .u32 0, .int .u32 0, .int .u32 0] 24)).setRow Wb.heap.size JV.toArray) := ⟨rfl, rfl, rfl, by simp [World.setRow, World.putObj], fun k hk => (setRow_other _ _ _ _ (by omega)).trans (Below.heap_alloc Wb _ k hk)⟩
  have hBb := hBa.trans (hbb.mono hBa.size)
  refine forget (p := fun y => Code.wp _ _ _ _ y) (fun W => Below w.heap.size w W ∧ CellsAt W w.heap.size 32 LV ∧ CellsAt W (w.heap.size + 1) 26 DC ∧ CellsAt W Wb.heap.size 24 JV) ⟨hBb.trans (hBj.mono hBb.size), (c0.farM hbb).farM hBj, (c1.farM hbb).farM hBj, hz⟩ ?_
  clear hz hBj hBb hBa c0 c1 r1 r2 r3 hjc hbb HJ1 hJ1 HJL
  rintro W0 ⟨hB, c0, c1, c2⟩
  generalize Wb.heap.size = Bj at c2 ⊢
  cases WA
  · have HT : Veil (∀ W, Below W0.heap.size W0 W → W.rangeAt w.heap.size 0 AV ∧ W.rangeAt w.heap.size 8 BV ∧ W.rangeAt w.heap.size 16 CV ∧ W.rangeAt Bj 0 JV ∧ W.rangeAt (w.heap.size + 1) 0 DC) := ⟨fun W hq => ⟨(HRG.out W (c0.farM hq)).1, (HRG.out W (c0.farM hq)).2.1, (HRG.out W (c0.farM hq)).2.2, (c2.farM hq).wholeM, (c1.farM hq).wholeM⟩⟩
    refine wp_region_gateT (fun w' => w'.rangeAt w.heap.size 0 AV ∧ w'.rangeAt w.heap.size 8 BV ∧ w'.rangeAt w.heap.size 16 CV ∧ w'.rangeAt Bj 0 JV ∧ w'.rangeAt (w.heap.size + 1) 0 DC) (fun _ => True) 99 (by kernel_rfl) ?_
    have hT : (fun w' : World => w'.rangeAt w.heap.size 0 AV ∧ w'.rangeAt w.heap.size 8 BV ∧ w'.rangeAt w.heap.size 16 CV ∧ w'.rangeAt Bj 0 JV ∧ w'.rangeAt (w.heap.size + 1) 0 DC) W0.drew := HT.out _ (Below.refl _ _).drew
    have hS : (fun _ : World => True) W0.drew := trivial
    have hb0 : Below W0.heap.size W0 W0.drew := (Below.refl _ _).drew
    refine wpAnyT_held (i := 0) (v := ?_) rfl (by kernel_rfl) (by kernel_rfl) (by kernel_rfl) (fun _ _ _ h => h) (by kernel_rfl) hT (fun _ => hS) (by kernel_rfl) ?_ ?_
    rotate_left
    · intro wx hSw; go_split_ands; go_simp; try with_reducible rfl
    simp only [Act.put, List.getElem_toArray, List.getElem_cons_succ, List.getElem_cons_zero, List.setIfInBounds_toArray, List.set_cons_zero, List.set_cons_succ]
    refine wpAnyT_load (i := 1) (dst := some 12) (ty := 24) (x := .tmp 11) (b := w.heap.size) (o := (0)) (cs := AV) (by kernel_rfl) (by kernel_rfl) (by kernel_rfl) (by kernel_rfl) (by kernel_rfl) (fun _ _ _ h => h) (by kernel_rfl) hT (fun _ => hS) (by kernel_rfl) (fun _ h => h.1) uV rfl iA ?_
    simp only [Act.put, List.getElem_toArray, List.getElem_cons_succ, List.getElem_cons_zero, List.setIfInBounds_toArray, List.set_cons_zero, List.set_cons_succ]
    refine wpAnyT_held (i := 2) (v := ?_) rfl (by kernel_rfl) (by kernel_rfl) (by kernel_rfl) (fun _ _ _ h => h) (by kernel_rfl) hT (fun _ => hS) (by kernel_rfl) ?_ ?_
    rotate_left
    · intro wx hSw; go_split_ands; go_simp; try with_reducible rfl
    simp only [Act.put, List.getElem_toArray, List.getElem_cons_succ, List.getElem_cons_zero, List.setIfInBounds_toArray, List.set_cons_zero, List.set_cons_succ]
    refine wpAnyT_load (i := 3) (dst := some 14) (ty := 24) (x := .tmp 13) (b := w.heap.size) (o := (16)) (cs := CV) (by kernel_rfl) (by kernel_rfl) (by kernel_rfl) (by kernel_rfl) (by kernel_rfl) (fun _ _ _ h => h) (by kernel_rfl) hT (fun _ => hS) (by kernel_rfl) (fun _ h => h.2.2.1) uV rfl iC ?_
    simp only [Act.put, List.getElem_toArray, List.getElem_cons_succ, List.getElem_cons_zero, List.setIfInBounds_toArray, List.set_cons_zero, List.set_cons_succ]
    refine wpAnyT_one (i := 4) rfl (by kernel_rfl) (by kernel_rfl) (fun K hK => ?_)
    refine wpx_call _ _ (by kernel_rfl) ((HAC.out _).mono ?_)
    rintro x W1 ⟨rfl, hq⟩
    refine ⟨_, rfl, ?_⟩
    have hb1 : Below W0.heap.size W0 W1 := hb0.trans (hq.mono hb0.size)
    clear hq hb0
    replace hT : (fun w' : World => w'.rangeAt w.heap.size 0 AV ∧ w'.rangeAt w.heap.size 8 BV ∧ w'.rangeAt w.heap.size 16 CV ∧ w'.rangeAt Bj 0 JV ∧ w'.rangeAt (w.heap.size + 1) 0 DC) W1 := HT.out _ hb1
    replace hS : (fun _ : World => True) W1 := trivial
    refine hK.out _ _ hT (fun _ => hS) ?_
    clear hK K
    try simp only [Act.put, List.getElem_toArray, List.getElem_cons_succ, List.getElem_cons_zero, List.setIfInBounds_toArray, List.set_cons_zero, List.set_cons_succ]
    refine wpAnyT_held (i := 5) (v := ?_) rfl (by kernel_rfl) (by kernel_rfl) (by kernel_rfl) (fun _ _ _ h => h) (by kernel_rfl) hT (fun _ => hS) (by kernel_rfl) ?_ ?_
    rotate_left
    · intro wx hSw; go_split_ands; go_simp; try with_reducible rfl
    simp only [Act.put, List.getElem_toArray, List.getElem_cons_succ, List.getElem_cons_zero, List.setIfInBounds_toArray, List.set_cons_zero, List.set_cons_succ]
    refine wpAnyT_skip (i := 6) rfl (by kernel_rfl) (by kernel_rfl) (by kernel_rfl) (fun _ _ _ h => h) (by kernel_rfl) hT (fun _ => hS) (by kernel_rfl) ?_
    simp only [Act.put, List.getElem_toArray, List.getElem_cons_succ, List.getElem_cons_zero, List.setIfInBounds_toArray, List.set_cons_zero, List.set_cons_succ]
    refine wpAnyT_skip (i := 7) rfl (by kernel_rfl) (by kernel_rfl) (by kernel_rfl) (fun _ _ _ h => h) (by kernel_rfl) hT (fun _ => hS) (by kernel_rfl) ?_
    simp only [Act.put, List.getElem_toArray, List.getElem_cons_succ, List.getElem_cons_zero, List.setIfInBounds_toArray, List.set_cons_zero, List.set_cons_succ]
    refine wpAnyT_skip (i := 8) rfl (by kernel_rfl) (by kernel_rfl) (by kernel_rfl) (fun _ _ _ h => h) (by kernel_rfl) hT (fun _ => hS) (by kernel_rfl) ?_
    simp only [Act.put, List.getElem_toArray, List.getElem_cons_succ, List.getElem_cons_zero, List.setIfInBounds_toArray, List.set_cons_zero, List.set_cons_succ]
    refine wpAnyT_skip (i := 9) rfl (by kernel_rfl) (by kernel_rfl) (by kernel_rfl) (fun _ _ _ h => h) (by kernel_rfl) hT (fun _ => hS) (by kernel_rfl) ?_
    simp only [Act.put, List.getElem_toArray, List.getElem_cons_succ, List.getElem_cons_zero, List.setIfInBounds_toArray, List.set_cons_zero, List.set_cons_succ]
    refine wpAnyT_skip (i := 10) rfl (by kernel_rfl) (by kernel_rfl) (by kernel_rfl) (fun _ _ _ h => h) (by kernel_rfl) hT (fun _ => hS) (by kernel_rfl) ?_
    simp only [Act.put, List.getElem_toArray, List.getElem_cons_succ, List.getElem_cons_zero, List.setIfInBounds_toArray, List.set_cons_zero, List.set_cons_succ]
    refine wpAnyT_skip (i := 11) rfl (by kernel_rfl) (by kernel_rfl) (by kernel_rfl) (fun _ _ _ h => h) (by kernel_rfl) hT (fun _ => hS) (by kernel_rfl) ?_
    simp only [Act.put, List.getElem_toArray, List.getElem_cons_succ, List.getElem_cons_zero, List.setIfInBounds_toArray, List.set_cons_zero, List.set_cons_succ]
    refine wpAnyT_skip (i := 12) rfl (by kernel_rfl) (by kernel_rfl) (by kernel_rfl) (fun _ _ _ h => h) (by kernel_rfl) hT (fun _ => hS) (by kernel_rfl) ?_
    simp only [Act.put, List.getElem_toArray, List.getElem_cons_succ, List.getElem_cons_zero, List.setIfInBounds_toArray, List.set_cons_zero, List.set_cons_succ]
    refine wpAnyT_skip (i := 13) rfl (by kernel_rfl) (by kernel_rfl) (by kernel_rfl) (fun _ _ _ h => h) (by kernel_rfl) hT (fun _ => hS) (by kernel_rfl) ?_
    simp only [Act.put, List.getElem_toArray, List.getElem_cons_succ, List.getElem_cons_zero, List.setIfInBounds_toArray, List.set_cons_zero, List.set_cons_succ]
    refine wpAnyT_skip (i := 14) rfl (by kernel_rfl) (by kernel_rfl) (by kernel_rfl) (fun _ _ _ h => h) (by kernel_rfl) hT (fun _ => hS) (by kernel_rfl) ?_
    simp only [Act.put, List.getElem_toArray, List.getElem_cons_succ, List.getElem_cons_zero, List.setIfInBounds_toArray, List.set_cons_zero, List.set_cons_succ]
    refine wpAnyT_skip (i := 15) rfl (by kernel_rfl) (by kernel_rfl) (by kernel_rfl) (fun _ _ _ h => h) (by kernel_rfl) hT (fun _ => hS) (by kernel_rfl) ?_
    simp only [Act.put, List.getElem_toArray, List.getElem_cons_succ, List.getElem_cons_zero, List.setIfInBounds_toArray, List.set_cons_zero, List.set_cons_succ]
    refine wpAnyT_held (i := 16) (v := ?_) rfl (by kernel_rfl) (by kernel_rfl) (by kernel_rfl) (fun _ _ _ h => h) (by kernel_rfl) hT (fun _ => hS) (by kernel_rfl) ?_ ?_
    rotate_left
    · intro wx hSw; go_split_ands; go_simp; try with_reducible rfl
    simp only [Act.put, List.getElem_toArray, List.getElem_cons_succ, List.getElem_cons_zero, List.setIfInBounds_toArray, List.set_cons_zero, List.set_cons_succ]
    refine wpAnyT_done (by kernel_rfl) ?_ _
    clear hT hS
    go_upto_region 4 with fail
    refine forget (p := fun y => Code.wp _ _ _ _ y) (fun W => Below w.heap.size w W ∧ CellsAt W w.heap.size 32 LV ∧ CellsAt W (w.heap.size + 1) 26 DC ∧ CellsAt W Bj 24 JV) ⟨hB.trans (hb1.mono hB.size), c0.farM hb1, c1.farM hb1, c2.farM hb1⟩ ?_
    clear hB c0 c1 c2 HT hb1
    rintro W0 ⟨hB, c0, c1, c2⟩
    have HT : Veil (∀ W, Below W0.heap.size W0 W → W.rangeAt w.heap.size 0 AV ∧ W.rangeAt w.heap.size 8 BV ∧ W.rangeAt w.heap.size 16 CV ∧ W.rangeAt Bj 0 JV ∧ W.rangeAt (w.heap.size + 1) 0 DC) := ⟨fun W hq => ⟨(HRG.out W (c0.farM hq)).1, (HRG.out W (c0.farM hq)).2.1, (HRG.out W (c0.farM hq)).2.2, (c2.farM hq).wholeM, (c1.farM hq).wholeM⟩⟩
    clear c0 c1 c2
    clear HAC HBC HJC HLE
    cases HA
    · refine wp_region_gateT (fun w' => w'.rangeAt w.heap.size 0 AV ∧ w'.rangeAt w.heap.size 8 BV ∧ w'.rangeAt w.heap.size 16 CV ∧ w'.rangeAt Bj 0 JV ∧ w'.rangeAt (w.heap.size + 1) 0 DC) (fun _ => True) 99 (by kernel_rfl) ?_
      have hT : (fun w' : World => w'.rangeAt w.heap.size 0 AV ∧ w'.rangeAt w.heap.size 8 BV ∧ w'.rangeAt w.heap.size 16 CV ∧ w'.rangeAt Bj 0 JV ∧ w'.rangeAt (w.heap.size + 1) 0 DC) W0.drew := HT.out _ (Below.refl _ _).drew
      have hS : (fun _ : World => True) W0.drew := trivial
      have hb0 : Below W0.heap.size W0 W0.drew := (Below.refl _ _).drew
      refine wpAnyT_one (i := 0) rfl (by kernel_rfl) (by kernel_rfl) (fun K hK => ?_)
      refine wpx_call _ _ (by kernel_rfl) ((HLV.out _).mono ?_)
      rintro x W1 ⟨rfl, hq⟩
      refine ⟨_, rfl, ?_⟩
      have hb1 : Below W0.heap.size W0 W1 := hb0.trans (hq.mono hb0.size)
      clear hq hb0
      replace hT : (fun w' : World => w'.rangeAt w.heap.size 0 AV ∧ w'.rangeAt w.heap.size 8 BV ∧ w'.rangeAt w.heap.size 16 CV ∧ w'.rangeAt Bj 0 JV ∧ w'.rangeAt (w.heap.size + 1) 0 DC) W1 := HT.out _ hb1
      replace hS : (fun _ : World => True) W1 := trivial
      refine hK.out _ _ hT (fun _ => hS) ?_
      clear hK K
      try simp only [Act.put, List.getElem_toArray, List.getElem_cons_succ, List.getElem_cons_zero, List.setIfInBounds_toArray, List.set_cons_zero, List.set_cons_succ]
      refine wpAnyT_held (i := 1) (v := ?_) rfl (by kernel_rfl) (by kernel_rfl) (by kernel_rfl) (fun _ _ _ h => h) (by kernel_rfl) hT (fun _ => hS) (by kernel_rfl) ?_ ?_
      rotate_left
      · intro wx hSw; go_split_ands; go_simp; try with_reducible rfl
      simp only [Act.put, List.getElem_toArray, List.getElem_cons_succ, List.getElem_cons_zero, List.setIfInBounds_toArray, List.set_cons_zero, List.set_cons_succ]
      refine wpAnyT_held (i := 2) (v := ?_) rfl (by kernel_rfl) (by kernel_rfl) (by kernel_rfl) (fun _ _ _ h => h) (by kernel_rfl) hT (fun _ => hS) (by kernel_rfl) ?_ ?_
      rotate_left
      · intro wx hSw; go_split_ands; go_simp; try with_reducible rfl
      simp only [Act.put, List.getElem_toArray, List.getElem_cons_succ, List.getElem_cons_zero, List.setIfInBounds_toArray, List.set_cons_zero, List.set_cons_succ]
      refine wpAnyT_load (i := 3) (dst := some 31) (ty := 24) (x := .tmp 30) (b := w.heap.size) (o := (0)) (cs := AV) (by kernel_rfl) (by kernel_rfl) (by kernel_rfl) (by kernel_rfl) (by kernel_rfl) (fun _ _ _ h => h) (by kernel_rfl) hT (fun _ => hS) (by kernel_rfl) (fun _ h => h.1) uV rfl iA ?_
      simp only [Act.put, List.getElem_toArray, List.getElem_cons_succ, List.getElem_cons_zero, List.setIfInBounds_toArray, List.set_cons_zero, List.set_cons_succ]
      refine wpAnyT_load (i := 4) (dst := some 32) (ty := 24) (x := .tmp 5) (b := Bj) (o := (0)) (cs := JV) (by kernel_rfl) (by kernel_rfl) (by kernel_rfl) (by kernel_rfl) (by kernel_rfl) (fun _ _ _ h => h) (by kernel_rfl) hT (fun _ => hS) (by kernel_rfl) (fun _ h => h.2.2.2.1) uV rfl iJ ?_
      simp only [Act.put, List.getElem_toArray, List.getElem_cons_succ, List.getElem_cons_zero, List.setIfInBounds_toArray, List.set_cons_zero, List.set_cons_succ]
      refine wpAnyT_one (i := 5) rfl (by kernel_rfl) (by kernel_rfl) (fun K hK => ?_)
      refine wpx_call _ _ (by kernel_rfl) ((HAJ.out _).mono ?_)
      rintro x W2 ⟨rfl, hq⟩
      refine ⟨_, rfl, ?_⟩
      have hb2 : Below W0.heap.size W0 W2 := hb1.trans (hq.mono hb1.size)
      clear hq hb1
      replace hT : (fun w' : World => w'.rangeAt w.heap.size 0 AV ∧ w'.rangeAt w.heap.size 8 BV ∧ w'.rangeAt w.heap.size 16 CV ∧ w'.rangeAt Bj 0 JV ∧ w'.rangeAt (w.heap.size + 1) 0 DC) W2 := HT.out _ hb2
      replace hS : (fun _ : World => True) W2 := trivial
      refine hK.out _ _ hT (fun _ => hS) ?_
      clear hK K
      try simp only [Act.put, List.getElem_toArray, List.getElem_cons_succ, List.getElem_cons_zero, List.setIfInBounds_toArray, List.set_cons_zero, List.set_cons_succ]
      refine wpAnyT_held (i := 6) (v := ?_) rfl (by kernel_rfl) (by kernel_rfl) (by kernel_rfl) (fun _ _ _ h => h) (by kernel_rfl) hT (fun _ => hS) (by kernel_rfl) ?_ ?_
      rotate_left
      · intro wx hSw; go_split_ands; go_simp; try with_reducible rfl
      simp only [Act.put, List.getElem_toArray, List.getElem_cons_succ, List.getElem_cons_zero, List.setIfInBounds_toArray, List.set_cons_zero, List.set_cons_succ]
      refine wpAnyT_held (i := 7) (v := ?_) rfl (by kernel_rfl) (by kernel_rfl) (by kernel_rfl) (fun _ _ _ h => h) (by kernel_rfl) hT (fun _ => hS) (by kernel_rfl) ?_ ?_
      rotate_left
      · intro wx hSw; go_split_ands; go_simp; try with_reducible rfl
      simp only [Act.put, List.getElem_toArray, List.getElem_cons_succ, List.getElem_cons_zero, List.setIfInBounds_toArray, List.set_cons_zero, List.set_cons_succ]
      refine wpAnyT_held (i := 8) (v := ?_) rfl (by kernel_rfl) (by kernel_rfl) (by kernel_rfl) (fun _ _ _ h => h) (by kernel_rfl) hT (fun _ => hS) (by kernel_rfl) ?_ ?_
      rotate_left
      · intro wx hSw; go_split_ands; go_simp; try with_reducible rfl
      simp only [Act.put, List.getElem_toArray, List.getElem_cons_succ, List.getElem_cons_zero, List.setIfInBounds_toArray, List.set_cons_zero, List.set_cons_succ]
      refine wpAnyT_load (i := 9) (dst := some 37) (ty := 24) (x := .tmp 36) (b := w.heap.size) (o := (8)) (cs := BV) (by kernel_rfl) (by kernel_rfl) (by kernel_rfl) (by kernel_rfl) (by kernel_rfl) (fun _ _ _ h => h) (by kernel_rfl) hT (fun _ => hS) (by kernel_rfl) (fun _ h => h.2.1) uV rfl iB ?_
      simp only [Act.put, List.getElem_toArray, List.getElem_cons_succ, List.getElem_cons_zero, List.setIfInBounds_toArray, List.set_cons_zero, List.set_cons_succ]
      refine wpAnyT_load (i := 10) (dst := some 38) (ty := 24) (x := .tmp 5) (b := Bj) (o := (0)) (cs := JV) (by kernel_rfl) (by kernel_rfl) (by kernel_rfl) (by kernel_rfl) (by kernel_rfl) (fun _ _ _ h => h) (by kernel_rfl) hT (fun _ => hS) (by kernel_rfl) (fun _ h => h.2.2.2.1) uV rfl iJ ?_
      simp only [Act.put, List.getElem_toArray, List.getElem_cons_succ, List.getElem_cons_zero, List.setIfInBounds_toArray, List.set_cons_zero, List.set_cons_succ]
      refine wpAnyT_one (i := 11) rfl (by kernel_rfl) (by kernel_rfl) (fun K hK => ?_)
      refine wpx_call _ _ (by kernel_rfl) ((HBJ.out _).mono ?_)
      rintro x W3 ⟨rfl, hq⟩
      refine ⟨_, rfl, ?_⟩
      have hb3 : Below W0.heap.size W0 W3 := hb2.trans (hq.mono hb2.size)
      clear hq hb2
      replace hT : (fun w' : World => w'.rangeAt w.heap.size 0 AV ∧ w'.rangeAt w.heap.size 8 BV ∧ w'.rangeAt w.heap.size 16 CV ∧ w'.rangeAt Bj 0 JV ∧ w'.rangeAt (w.heap.size + 1) 0 DC) W3 := HT.out _ hb3
      replace hS : (fun _ : World => True) W3 := trivial
      refine hK.out _ _ hT (fun _ => hS) ?_
      clear hK K
      try simp only [Act.put, List.getElem_toArray, List.getElem_cons_succ, List.getElem_cons_zero, List.setIfInBounds_toArray, List.set_cons_zero, List.set_cons_succ]
      refine wpAnyT_held (i := 12) (v := ?_) rfl (by kernel_rfl) (by kernel_rfl) (by kernel_rfl) (fun _ _ _ h => h) (by kernel_rfl) hT (fun _ => hS) (by kernel_rfl) ?_ ?_
      rotate_left
      · intro wx hSw; go_split_ands; go_simp; try with_reducible rfl
      simp only [Act.put, List.getElem_toArray, List.getElem_cons_succ, List.getElem_cons_zero, List.setIfInBounds_toArray, List.set_cons_zero, List.set_cons_succ]
      refine wpAnyT_held (i := 13) (v := ?_) rfl (by kernel_rfl) (by kernel_rfl) (by kernel_rfl) (fun _ _ _ h => h) (by kernel_rfl) hT (fun _ => hS) (by kernel_rfl) ?_ ?_
      rotate_left
      · intro wx hSw; go_split_ands; go_simp; try with_reducible rfl
      simp only [Act.put, List.getElem_toArray, List.getElem_cons_succ, List.getElem_cons_zero, List.setIfInBounds_toArray, List.set_cons_zero, List.set_cons_succ]
      refine wpAnyT_load (i := 14) (dst := some 42) (ty := 24) (x := .tmp 5) (b := Bj) (o := (0)) (cs := JV) (by kernel_rfl) (by kernel_rfl) (by kernel_rfl) (by kernel_rfl) (by kernel_rfl) (fun _ _ _ h => h) (by kernel_rfl) hT (fun _ => hS) (by kernel_rfl) (fun _ h => h.2.2.2.1) uV rfl iJ ?_
      simp only [Act.put, List.getElem_toArray, List.getElem_cons_succ, List.getElem_cons_zero, List.setIfInBounds_toArray, List.set_cons_zero, List.set_cons_succ]
      refine wpAnyT_held (i := 15) (v := ?_) rfl (by kernel_rfl) (by kernel_rfl) (by kernel_rfl) (fun _ _ _ h => h) (by kernel_rfl) hT (fun _ => hS) (by kernel_rfl) ?_ ?_
      rotate_left
      · intro wx hSw; go_split_ands; go_simp; try with_reducible rfl
      simp only [Act.put, List.getElem_toArray, List.getElem_cons_succ, List.getElem_cons_zero, List.setIfInBounds_toArray, List.set_cons_zero, List.set_cons_succ]
      refine wpAnyT_load (i := 16) (dst := some 44) (ty := 24) (x := .tmp 43) (b := w.heap.size) (o := (8)) (cs := BV) (by kernel_rfl) (by kernel_rfl) (by kernel_rfl) (by kernel_rfl) (by kernel_rfl) (fun _ _ _ h => h) (by kernel_rfl) hT (fun _ => hS) (by kernel_rfl) (fun _ h => h.2.1) uV rfl iB ?_
      simp only [Act.put, List.getElem_toArray, List.getElem_cons_succ, List.getElem_cons_zero, List.setIfInBounds_toArray, List.set_cons_zero, List.set_cons_succ]
      refine wpAnyT_held (i := 17) (v := ?_) rfl (by kernel_rfl) (by kernel_rfl) (by kernel_rfl) (fun _ _ _ h => h) (by kernel_rfl) hT (fun _ => hS) (by kernel_rfl) ?_ ?_
      rotate_left
      · intro wx hSw; go_split_ands; go_simp; try with_reducible rfl
      simp only [Act.put, List.getElem_toArray, List.getElem_cons_succ, List.getElem_cons_zero, List.setIfInBounds_toArray, List.set_cons_zero, List.set_cons_succ]
      refine wpAnyT_load (i := 18) (dst := some 46) (ty := 24) (x := .tmp 45) (b := w.heap.size) (o := (0)) (cs := AV) (by kernel_rfl) (by kernel_rfl) (by kernel_rfl) (by kernel_rfl) (by kernel_rfl) (fun _ _ _ h => h) (by kernel_rfl) hT (fun _ => hS) (by kernel_rfl) (fun _ h => h.1) uV rfl iA ?_
      simp only [Act.put, List.getElem_toArray, List.getElem_cons_succ, List.getElem_cons_zero, List.setIfInBounds_toArray, List.set_cons_zero, List.set_cons_succ]
      refine wpAnyT_one (i := 19) rfl (by kernel_rfl) (by kernel_rfl) (fun K hK => ?_)
      refine wpx_call _ _ (by kernel_rfl) ((HJ2.out _).mono ?_)
      rintro x W4 ⟨rfl, hq⟩
      refine ⟨_, rfl, ?_⟩
      have hb4 : Below W0.heap.size W0 W4 := hb3.trans (hq.mono hb3.size)
      clear hq hb3
      replace hT : (fun w' : World => w'.rangeAt w.heap.size 0 AV ∧ w'.rangeAt w.heap.size 8 BV ∧ w'.rangeAt w.heap.size 16 CV ∧ w'.rangeAt Bj 0 JV ∧ w'.rangeAt (w.heap.size + 1) 0 DC) W4 := HT.out _ hb4
      replace hS : (fun _ : World => True) W4 := trivial
      refine hK.out _ _ hT (fun _ => hS) ?_
      clear hK K
      try simp only [Act.put, List.getElem_toArray, List.getElem_cons_succ, List.getElem_cons_zero, List.setIfInBounds_toArray, List.set_cons_zero, List.set_cons_succ]
      refine wpAnyT_held (i := 20) (v := .bool true) rfl (by kernel_rfl) (by kernel_rfl) (by kernel_rfl) (fun _ _ _ h => h) (by kernel_rfl) hT (fun _ => hS) (by kernel_rfl) ?_ ?_
      · intro wx hSw; go_split_ands; go_simp
      simp only [Act.put, List.getElem_toArray, List.getElem_cons_succ, List.getElem_cons_zero, List.setIfInBounds_toArray, List.set_cons_zero, List.set_cons_succ]
      refine wpAnyT_held (i := 21) (v := ?_) rfl (by kernel_rfl) (by kernel_rfl) (by kernel_rfl) (fun _ _ _ h => h) (by kernel_rfl) hT (fun _ => hS) (by kernel_rfl) ?_ ?_
      rotate_left
      · intro wx hSw; go_split_ands; go_simp; try with_reducible rfl
      simp only [Act.put, List.getElem_toArray, List.getElem_cons_succ, List.getElem_cons_zero, List.setIfInBounds_toArray, List.set_cons_zero, List.set_cons_succ]
      refine wpAnyT_held (i := 22) (v := ?_) rfl (by kernel_rfl) (by kernel_rfl) (by kernel_rfl) (fun _ _ _ h => h) (by kernel_rfl) hT (fun _ => hS) (by kernel_rfl) ?_ ?_
      rotate_left
      · intro wx hSw; go_split_ands; go_simp; try with_reducible rfl
      simp only [Act.put, List.getElem_toArray, List.getElem_cons_succ, List.getElem_cons_zero, List.setIfInBounds_toArray, List.set_cons_zero, List.set_cons_succ]
      refine wpAnyT_load (i := 23) (dst := some 51) (ty := 24) (x := .tmp 5) (b := Bj) (o := (0)) (cs := JV) (by kernel_rfl) (by kernel_rfl) (by kernel_rfl) (by kernel_rfl) (by kernel_rfl) (fun _ _ _ h => h) (by kernel_rfl) hT (fun _ => hS) (by kernel_rfl) (fun _ h => h.2.2.2.1) uV rfl iJ ?_
      simp only [Act.put, List.getElem_toArray, List.getElem_cons_succ, List.getElem_cons_zero, List.setIfInBounds_toArray, List.set_cons_zero, List.set_cons_succ]
      refine wpAnyT_load (i := 24) (dst := some 52) (ty := 26) (x := .tmp 3) (b := (w.heap.size + 1)) (o := (0)) (cs := DC) (by kernel_rfl) (by kernel_rfl) (by kernel_rfl) (by kernel_rfl) (by kernel_rfl) (fun _ _ _ h => h) (by kernel_rfl) hT (fun _ => hS) (by kernel_rfl) (fun _ h => h.2.2.2.2) uD rfl iD ?_
      simp only [Act.put, List.getElem_toArray, List.getElem_cons_succ, List.getElem_cons_zero, List.setIfInBounds_toArray, List.set_cons_zero, List.set_cons_succ]
      refine wpAnyT_held (i := 26) (v := ?_) rfl (by kernel_rfl) (by kernel_rfl) (by kernel_rfl) (fun _ _ _ h => h) (by kernel_rfl) hT (fun _ => hS) (by kernel_rfl) ?_ ?_
      rotate_left
      · intro wx hSw; go_split_ands; go_simp; try with_reducible rfl
      simp only [Act.put, List.getElem_toArray, List.getElem_cons_succ, List.getElem_cons_zero, List.setIfInBounds_toArray, List.set_cons_zero, List.set_cons_succ]
      refine wpAnyT_load (i := 27) (dst := some 55) (ty := 24) (x := .tmp 54) (b := w.heap.size) (o := (0)) (cs := AV) (by kernel_rfl) (by kernel_rfl) (by kernel_rfl) (by kernel_rfl) (by kernel_rfl) (fun _ _ _ h => h) (by kernel_rfl) hT (fun _ => hS) (by kernel_rfl) (fun _ h => h.1) uV rfl iA ?_
      simp only [Act.put, List.getElem_toArray, List.getElem_cons_succ, List.getElem_cons_zero, List.setIfInBounds_toArray, List.set_cons_zero, List.set_cons_succ]
      refine wpAnyT_load (i := 28) (dst := some 56) (ty := 26) (x := .tmp 3) (b := (w.heap.size + 1)) (o := (0)) (cs := DC) (by kernel_rfl) (by kernel_rfl) (by kernel_rfl) (by kernel_rfl) (by kernel_rfl) (fun _ _ _ h => h) (by kernel_rfl) hT (fun _ => hS) (by kernel_rfl) (fun _ h => h.2.2.2.2) uD rfl iD ?_
      simp only [Act.put, List.getElem_toArray, List.getElem_cons_succ, List.getElem_cons_zero, List.setIfInBounds_toArray, List.set_cons_zero, List.set_cons_succ]
      refine wpAnyT_one (i := 25) rfl (by kernel_rfl) (by kernel_rfl) (fun K hK => ?_)
      refine wpx_call _ _ (by kernel_rfl) ((HHJ.out _).mono ?_)
      rintro x W5 ⟨rfl, hq⟩
      refine ⟨_, rfl, ?_⟩
      have hb5 : Below W0.heap.size W0 W5 := hb4.trans (hq.mono hb4.size)
      clear hq hb4
      replace hT : (fun w' : World => w'.rangeAt w.heap.size 0 AV ∧ w'.rangeAt w.heap.size 8 BV ∧ w'.rangeAt w.heap.size 16 CV ∧ w'.rangeAt Bj 0 JV ∧ w'.rangeAt (w.heap.size + 1) 0 DC) W5 := HT.out _ hb5
      replace hS : (fun _ : World => True) W5 := trivial
      refine hK.out _ _ hT (fun _ => hS) ?_
      clear hK K
      try simp only [Act.put, List.getElem_toArray, List.getElem_cons_succ, List.getElem_cons_zero, List.setIfInBounds_toArray, List.set_cons_zero, List.set_cons_succ]
      refine wpAnyT_one (i := 29) rfl (by kernel_rfl) (by kernel_rfl) (fun K hK => ?_)
      refine wpx_call _ _ (by kernel_rfl) ((HHA.out _).mono ?_)
      rintro x W6 ⟨rfl, hq⟩
      refine ⟨_, rfl, ?_⟩
      have hb6 : Below W0.heap.size W0 W6 := hb5.trans (hq.mono hb5.size)
      clear hq hb5
      replace hT : (fun w' : World => w'.rangeAt w.heap.size 0 AV ∧ w'.rangeAt w.heap.size 8 BV ∧ w'.rangeAt w.heap.size 16 CV ∧ w'.rangeAt Bj 0 JV ∧ w'.rangeAt (w.heap.size + 1) 0 DC) W6 := HT.out _ hb6
      replace hS : (fun _ : World => True) W6 := trivial
      refine hK.out _ _ hT (fun _ => hS) ?_
      clear hK K
      try simp only [Act.put, List.getElem_toArray, List.getElem_cons_succ, List.getElem_cons_zero, List.setIfInBounds_toArray, List.set_cons_zero, List.set_cons_succ]
      refine wpAnyT_held (i := 30) (v := ?_) rfl (by kernel_rfl) (by kernel_rfl) (by kernel_rfl) (fun _ _ _ h => h) (by kernel_rfl) hT (fun _ => hS) (by kernel_rfl) ?_ ?_
      rotate_left
      · intro wx hSw; go_split_ands; go_simp; try with_reducible rfl
      simp only [Act.put, List.getElem_toArray, List.getElem_cons_succ, List.getElem_cons_zero, List.setIfInBounds_toArray, List.set_cons_zero, List.set_cons_succ]
      refine wpAnyT_held (i := 31) (v := ?_) rfl (by kernel_rfl) (by kernel_rfl) (by kernel_rfl) (fun _ _ _ h => h) (by kernel_rfl) hT (fun _ => hS) (by kernel_rfl) ?_ ?_
      rotate_left
      · intro wx hSw; go_split_ands; go_simp; try with_reducible rfl
      simp only [Act.put, List.getElem_toArray, List.getElem_cons_succ, List.getElem_cons_zero, List.setIfInBounds_toArray, List.set_cons_zero, List.set_cons_succ]
      refine wpAnyT_load (i := 32) (dst := some 60) (ty := 24) (x := .tmp 59) (b := w.heap.size) (o := (8)) (cs := BV) (by kernel_rfl) (by kernel_rfl) (by kernel_rfl) (by kernel_rfl) (by kernel_rfl) (fun _ _ _ h => h) (by kernel_rfl) hT (fun _ => hS) (by kernel_rfl) (fun _ h => h.2.1) uV rfl iB ?_
      simp only [Act.put, List.getElem_toArray, List.getElem_cons_succ, List.getElem_cons_zero, List.setIfInBounds_toArray, List.set_cons_zero, List.set_cons_succ]
      refine wpAnyT_load (i := 33) (dst := some 61) (ty := 26) (x := .tmp 3) (b := (w.heap.size + 1)) (o := (0)) (cs := DC) (by kernel_rfl) (by kernel_rfl) (by kernel_rfl) (by kernel_rfl) (by kernel_rfl) (fun _ _ _ h => h) (by kernel_rfl) hT (fun _ => hS) (by kernel_rfl) (fun _ h => h.2.2.2.2) uD rfl iD ?_
      simp only [Act.put, List.getElem_toArray, List.getElem_cons_succ, List.getElem_cons_zero, List.setIfInBounds_toArray, List.set_cons_zero, List.set_cons_succ]
      refine wpAnyT_one (i := 34) rfl (by kernel_rfl) (by kernel_rfl) (fun K hK => ?_)
      refine wpx_call _ _ (by kernel_rfl) ((HHB.out _).mono ?_)
      rintro x W7 ⟨rfl, hq⟩
      refine ⟨_, rfl, ?_⟩
      have hb7 : Below W0.heap.size W0 W7 := hb6.trans (hq.mono hb6.size)
      clear hq hb6
      replace hT : (fun w' : World => w'.rangeAt w.heap.size 0 AV ∧ w'.rangeAt w.heap.size 8 BV ∧ w'.rangeAt w.heap.size 16 CV ∧ w'.rangeAt Bj 0 JV ∧ w'.rangeAt (w.heap.size + 1) 0 DC) W7 := HT.out _ hb7
      replace hS : (fun _ : World => True) W7 := trivial
      refine hK.out _ _ hT (fun _ => hS) ?_
      clear hK K
      try simp only [Act.put, List.getElem_toArray, List.getElem_cons_succ, List.getElem_cons_zero, List.setIfInBounds_toArray, List.set_cons_zero, List.set_cons_succ]
      refine wpAnyT_held (i := 35) (v := ?_) rfl (by kernel_rfl) (by kernel_rfl) (by kernel_rfl) (fun _ _ _ h => h) (by kernel_rfl) hT (fun _ => hS) (by kernel_rfl) ?_ ?_
      rotate_left
      · intro wx hSw; go_split_ands; go_simp; try with_reducible rfl
      simp only [Act.put, List.getElem_toArray, List.getElem_cons_succ, List.getElem_cons_zero, List.setIfInBounds_toArray, List.set_cons_zero, List.set_cons_succ]
      refine wpAnyT_held (i := 36) (v := .bool true) rfl (by kernel_rfl) (by kernel_rfl) (by kernel_rfl) (fun _ _ _ h => h) (by kernel_rfl) hT (fun _ => hS) (by kernel_rfl) ?_ ?_
      · intro wx hSw; go_split_ands; go_simp
      simp only [Act.put, List.getElem_toArray, List.getElem_cons_succ, List.getElem_cons_zero, List.setIfInBounds_toArray, List.set_cons_zero, List.set_cons_succ]
      refine wpAnyT_held (i := 37) (v := ?_) rfl (by kernel_rfl) (by kernel_rfl) (by kernel_rfl) (fun _ _ _ h => h) (by kernel_rfl) hT (fun _ => hS) (by kernel_rfl) ?_ ?_
      rotate_left
      · intro wx hSw; go_split_ands; go_simp; try with_reducible rfl
      simp only [Act.put, List.getElem_toArray, List.getElem_cons_succ, List.getElem_cons_zero, List.setIfInBounds_toArray, List.set_cons_zero, List.set_cons_succ]
      refine wpAnyT_held (i := 38) (v := ?_) rfl (by kernel_rfl) (by kernel_rfl) (by kernel_rfl) (fun _ _ _ h => h) (by kernel_rfl) hT (fun _ => hS) (by kernel_rfl) ?_ ?_
      rotate_left
      · intro wx hSw; go_split_ands; go_simp; try with_reducible rfl
      simp only [Act.put, List.getElem_toArray, List.getElem_cons_succ, List.getElem_cons_zero, List.setIfInBounds_toArray, List.set_cons_zero, List.set_cons_succ]
      refine wpAnyT_done (by kernel_rfl) ?_ _
      clear hT hS
      go_wp2
      go_ret
      exact ⟨rfl, hB.trans (hb7.mono hB.size)⟩
    · refine wp_region_gateT (fun w' => w'.rangeAt w.heap.size 0 AV ∧ w'.rangeAt w.heap.size 8 BV ∧ w'.rangeAt w.heap.size 16 CV ∧ w'.rangeAt Bj 0 JV ∧ w'.rangeAt (w.heap.size + 1) 0 DC) (fun _ => True) 99 (by kernel_rfl) ?_
      have hT : (fun w' : World => w'.rangeAt w.heap.size 0 AV ∧ w'.rangeAt w.heap.size 8 BV ∧ w'.rangeAt w.heap.size 16 CV ∧ w'.rangeAt Bj 0 JV ∧ w'.rangeAt (w.heap.size + 1) 0 DC) W0.drew := HT.out _ (Below.refl _ _).drew
      have hS : (fun _ : World => True) W0.drew := trivial
      have hb0 : Below W0.heap.size W0 W0.drew := (Below.refl _ _).drew
      refine wpAnyT_one (i := 0) rfl (by kernel_rfl) (by kernel_rfl) (fun K hK => ?_)
      refine wpx_call _ _ (by kernel_rfl) ((HLV.out _).mono ?_)
      rintro x W1 ⟨rfl, hq⟩
      refine ⟨_, rfl, ?_⟩
      have hb1 : Below W0.heap.size W0 W1 := hb0.trans (hq.mono hb0.size)
      clear hq hb0
      replace hT : (fun w' : World => w'.rangeAt w.heap.size 0 AV ∧ w'.rangeAt w.heap.size 8 BV ∧ w'.rangeAt w.heap.size 16 CV ∧ w'.rangeAt Bj 0 JV ∧ w'.rangeAt (w.heap.size + 1) 0 DC) W1 := HT.out _ hb1
      replace hS : (fun _ : World => True) W1 := trivial
      refine hK.out _ _ hT (fun _ => hS) ?_
      clear hK K
      try simp only [Act.put, List.getElem_toArray, List.getElem_cons_succ, List.getElem_cons_zero, List.setIfInBounds_toArray, List.set_cons_zero, List.set_cons_succ]
      refine wpAnyT_held (i := 1) (v := ?_) rfl (by kernel_rfl) (by kernel_rfl) (by kernel_rfl) (fun _ _ _ h => h) (by kernel_rfl) hT (fun _ => hS) (by kernel_rfl) ?_ ?_
      rotate_left
      · intro wx hSw; go_split_ands; go_simp; try with_reducible rfl
      simp only [Act.put, List.getElem_toArray, List.getElem_cons_succ, List.getElem_cons_zero, List.setIfInBounds_toArray, List.set_cons_zero, List.set_cons_succ]
      refine wpAnyT_held (i := 2) (v := ?_) rfl (by kernel_rfl) (by kernel_rfl) (by kernel_rfl) (fun _ _ _ h => h) (by kernel_rfl) hT (fun _ => hS) (by kernel_rfl) ?_ ?_
      rotate_left
      · intro wx hSw; go_split_ands; go_simp; try with_reducible rfl
      simp only [Act.put, List.getElem_toArray, List.getElem_cons_succ, List.getElem_cons_zero, List.setIfInBounds_toArray, List.set_cons_zero, List.set_cons_succ]
      refine wpAnyT_load (i := 3) (dst := some 31) (ty := 24) (x := .tmp 30) (b := w.heap.size) (o := (0)) (cs := AV) (by kernel_rfl) (by kernel_rfl) (by kernel_rfl) (by kernel_rfl) (by kernel_rfl) (fun _ _ _ h => h) (by kernel_rfl) hT (fun _ => hS) (by kernel_rfl) (fun _ h => h.1) uV rfl iA ?_
      simp only [Act.put, List.getElem_toArray, List.getElem_cons_succ, List.getElem_cons_zero, List.setIfInBounds_toArray, List.set_cons_zero, List.set_cons_succ]
      refine wpAnyT_load (i := 4) (dst := some 32) (ty := 24) (x := .tmp 5) (b := Bj) (o := (0)) (cs := JV) (by kernel_rfl) (by kernel_rfl) (by kernel_rfl) (by kernel_rfl) (by kernel_rfl) (fun _ _ _ h => h) (by kernel_rfl) hT (fun _ => hS) (by kernel_rfl) (fun _ h => h.2.2.2.1) uV rfl iJ ?_
      simp only [Act.put, List.getElem_toArray, List.getElem_cons_succ, List.getElem_cons_zero, List.setIfInBounds_toArray, List.set_cons_zero, List.set_cons_succ]
      refine wpAnyT_one (i := 5) rfl (by kernel_rfl) (by kernel_rfl) (fun K hK => ?_)
      refine wpx_call _ _ (by kernel_rfl) ((HAJ.out _).mono ?_)
      rintro x W2 ⟨rfl, hq⟩
      refine ⟨_, rfl, ?_⟩
      have hb2 : Below W0.heap.size W0 W2 := hb1.trans (hq.mono hb1.size)
      clear hq hb1
      replace hT : (fun w' : World => w'.rangeAt w.heap.size 0 AV ∧ w'.rangeAt w.heap.size 8 BV ∧ w'.rangeAt w.heap.size 16 CV ∧ w'.rangeAt Bj 0 JV ∧ w'.rangeAt (w.heap.size + 1) 0 DC) W2 := HT.out _ hb2
      replace hS : (fun _ : World => True) W2 := trivial
      refine hK.out _ _ hT (fun _ => hS) ?_
      clear hK K
      try simp only [Act.put, List.getElem_toArray, List.getElem_cons_succ, List.getElem_cons_zero, List.setIfInBounds_toArray, List.set_cons_zero, List.set_cons_succ]
      refine wpAnyT_held (i := 6) (v := ?_) rfl (by kernel_rfl) (by kernel_rfl) (by kernel_rfl) (fun _ _ _ h => h) (by kernel_rfl) hT (fun _ => hS) (by kernel_rfl) ?_ ?_
      rotate_left
      · intro wx hSw; go_split_ands; go_simp; try with_reducible rfl
      simp only [Act.put, List.getElem_toArray, List.getElem_cons_succ, List.getElem_cons_zero, List.setIfInBounds_toArray, List.set_cons_zero, List.set_cons_succ]
      refine wpAnyT_held (i := 7) (v := ?_) rfl (by kernel_rfl) (by kernel_rfl) (by kernel_rfl) (fun _ _ _ h => h) (by kernel_rfl) hT (fun _ => hS) (by kernel_rfl) ?_ ?_
      rotate_left
      · intro wx hSw; go_split_ands; go_simp; try with_reducible rfl
      simp only [Act.put, List.getElem_toArray, List.getElem_cons_succ, List.getElem_cons_zero, List.setIfInBounds_toArray, List.set_cons_zero, List.set_cons_succ]
      refine wpAnyT_held (i := 8) (v := ?_) rfl (by kernel_rfl) (by kernel_rfl) (by kernel_rfl) (fun _ _ _ h => h) (by kernel_rfl) hT (fun _ => hS) (by kernel_rfl) ?_ ?_
      rotate_left
      · intro wx hSw; go_split_ands; go_simp; try with_reducible rfl
      simp only [Act.put, List.getElem_toArray, List.getElem_cons_succ, List.getElem_cons_zero, List.setIfInBounds_toArray, List.set_cons_zero, List.set_cons_succ]
      refine wpAnyT_load (i := 9) (dst := some 37) (ty := 24) (x := .tmp 36) (b := w.heap.size) (o := (8)) (cs := BV) (by kernel_rfl) (by kernel_rfl) (by kernel_rfl) (by kernel_rfl) (by kernel_rfl) (fun _ _ _ h => h) (by kernel_rfl) hT (fun _ => hS) (by kernel_rfl) (fun _ h => h.2.1) uV rfl iB ?_
      simp only [Act.put, List.getElem_toArray, List.getElem_cons_succ, List.getElem_cons_zero, List.setIfInBounds_toArray, List.set_cons_zero, List.set_cons_succ]
      refine wpAnyT_load (i := 10) (dst := some 38) (ty := 24) (x := .tmp 5) (b := Bj) (o := (0)) (cs := JV) (by kernel_rfl) (by kernel_rfl) (by kernel_rfl) (by kernel_rfl) (by kernel_rfl) (fun _ _ _ h => h) (by kernel_rfl) hT (fun _ => hS) (by kernel_rfl) (fun _ h => h.2.2.2.1) uV rfl iJ ?_
      simp only [Act.put, List.getElem_toArray, List.getElem_cons_succ, List.getElem_cons_zero, List.setIfInBounds_toArray, List.set_cons_zero, List.set_cons_succ]
      refine wpAnyT_one (i := 11) rfl (by kernel_rfl) (by kernel_rfl) (fun K hK => ?_)
      refine wpx_call _ _ (by kernel_rfl) ((HBJ.out _).mono ?_)
      rintro x W3 ⟨rfl, hq⟩
      refine ⟨_, rfl, ?_⟩
      have hb3 : Below W0.heap.size W0 W3 := hb2.trans (hq.mono hb2.size)
      clear hq hb2
      replace hT : (fun w' : World => w'.rangeAt w.heap.size 0 AV ∧ w'.rangeAt w.heap.size 8 BV ∧ w'.rangeAt w.heap.size 16 CV ∧ w'.rangeAt Bj 0 JV ∧ w'.rangeAt (w.heap.size + 1) 0 DC) W3 := HT.out _ hb3
      replace hS : (fun _ : World => True) W3 := trivial
      refine hK.out _ _ hT (fun _ => hS) ?_
      clear hK K
      try simp only [Act.put, List.getElem_toArray, List.getElem_cons_succ, List.getElem_cons_zero, List.setIfInBounds_toArray, List.set_cons_zero, List.set_cons_succ]
      refine wpAnyT_held (i := 12) (v := ?_) rfl (by kernel_rfl) (by kernel_rfl) (by kernel_rfl) (fun _ _ _ h => h) (by kernel_rfl) hT (fun _ => hS) (by kernel_rfl) ?_ ?_
      rotate_left
      · intro wx hSw; go_split_ands; go_simp; try with_reducible rfl
      simp only [Act.put, List.getElem_toArray, List.getElem_cons_succ, List.getElem_cons_zero, List.setIfInBounds_toArray, List.set_cons_zero, List.set_cons_succ]
      refine wpAnyT_held (i := 13) (v := ?_) rfl (by kernel_rfl) (by kernel_rfl) (by kernel_rfl) (fun _ _ _ h => h) (by kernel_rfl) hT (fun _ => hS) (by kernel_rfl) ?_ ?_
      rotate_left
      · intro wx hSw; go_split_ands; go_simp; try with_reducible rfl
      simp only [Act.put, List.getElem_toArray, List.getElem_cons_succ, List.getElem_cons_zero, List.setIfInBounds_toArray, List.set_cons_zero, List.set_cons_succ]
      refine wpAnyT_load (i := 14) (dst := some 42) (ty := 24) (x := .tmp 5) (b := Bj) (o := (0)) (cs := JV) (by kernel_rfl) (by kernel_rfl) (by kernel_rfl) (by kernel_rfl) (by kernel_rfl) (fun _ _ _ h => h) (by kernel_rfl) hT (fun _ => hS) (by kernel_rfl) (fun _ h => h.2.2.2.1) uV rfl iJ ?_
      simp only [Act.put, List.getElem_toArray, List.getElem_cons_succ, List.getElem_cons_zero, List.setIfInBounds_toArray, List.set_cons_zero, List.set_cons_succ]
      refine wpAnyT_held (i := 15) (v := ?_) rfl (by kernel_rfl) (by kernel_rfl) (by kernel_rfl) (fun _ _ _ h => h) (by kernel_rfl) hT (fun _ => hS) (by kernel_rfl) ?_ ?_
      rotate_left
      · intro wx hSw; go_split_ands; go_simp; try with_reducible rfl
      simp only [Act.put, List.getElem_toArray, List.getElem_cons_succ, List.getElem_cons_zero, List.setIfInBounds_toArray, List.set_cons_zero, List.set_cons_succ]
      refine wpAnyT_load (i := 16) (dst := some 44) (ty := 24) (x := .tmp 43) (b := w.heap.size) (o := (8)) (cs := BV) (by kernel_rfl) (by kernel_rfl) (by kernel_rfl) (by kernel_rfl) (by kernel_rfl) (fun _ _ _ h => h) (by kernel_rfl) hT (fun _ => hS) (by kernel_rfl) (fun _ h => h.2.1) uV rfl iB ?_
      simp only [Act.put, List.getElem_toArray, List.getElem_cons_succ, List.getElem_cons_zero, List.setIfInBounds_toArray, List.set_cons_zero, List.set_cons_succ]
      refine wpAnyT_held (i := 17) (v := ?_) rfl (by kernel_rfl) (by kernel_rfl) (by kernel_rfl) (fun _ _ _ h => h) (by kernel_rfl) hT (fun _ => hS) (by kernel_rfl) ?_ ?_
      rotate_left
      · intro wx hSw; go_split_ands; go_simp; try with_reducible rfl
      simp only [Act.put, List.getElem_toArray, List.getElem_cons_succ, List.getElem_cons_zero, List.setIfInBounds_toArray, List.set_cons_zero, List.set_cons_succ]
      refine wpAnyT_load (i := 18) (dst := some 46) (ty := 24) (x := .tmp 45) (b := w.heap.size) (o := (0)) (cs := AV) (by kernel_rfl) (by kernel_rfl) (by kernel_rfl) (by kernel_rfl) (by kernel_rfl) (fun _ _ _ h => h) (by kernel_rfl) hT (fun _ => hS) (by kernel_rfl) (fun _ h => h.1) uV rfl iA ?_
      simp only [Act.put, List.getElem_toArray, List.getElem_cons_succ, List.getElem_cons_zero, List.setIfInBounds_toArray, List.set_cons_zero, List.set_cons_succ]
      refine wpAnyT_one (i := 19) rfl (by kernel_rfl) (by kernel_rfl) (fun K hK => ?_)
      refine wpx_call _ _ (by kernel_rfl) ((HJ2.out _).mono ?_)
      rintro x W4 ⟨rfl, hq⟩
      refine ⟨_, rfl, ?_⟩
      have hb4 : Below W0.heap.size W0 W4 := hb3.trans (hq.mono hb3.size)
      clear hq hb3
      replace hT : (fun w' : World => w'.rangeAt w.heap.size 0 AV ∧ w'.rangeAt w.heap.size 8 BV ∧ w'.rangeAt w.heap.size 16 CV ∧ w'.rangeAt Bj 0 JV ∧ w'.rangeAt (w.heap.size + 1) 0 DC) W4 := HT.out _ hb4
      replace hS : (fun _ : World => True) W4 := trivial
      refine hK.out _ _ hT (fun _ => hS) ?_
      clear hK K
      try simp only [Act.put, List.getElem_toArray, List.getElem_cons_succ, List.getElem_cons_zero, List.setIfInBounds_toArray, List.set_cons_zero, List.set_cons_succ]
      refine wpAnyT_held (i := 20) (v := .bool true) rfl (by kernel_rfl) (by kernel_rfl) (by kernel_rfl) (fun _ _ _ h => h) (by kernel_rfl) hT (fun _ => hS) (by kernel_rfl) ?_ ?_
      · intro wx hSw; go_split_ands; go_simp
      simp only [Act.put, List.getElem_toArray, List.getElem_cons_succ, List.getElem_cons_zero, List.setIfInBounds_toArray, List.set_cons_zero, List.set_cons_succ]
      refine wpAnyT_held (i := 21) (v := ?_) rfl (by kernel_rfl) (by kernel_rfl) (by kernel_rfl) (fun _ _ _ h => h) (by kernel_rfl) hT (fun _ => hS) (by kernel_rfl) ?_ ?_
      rotate_left
      · intro wx hSw; go_split_ands; go_simp; try with_reducible rfl
      simp only [Act.put, List.getElem_toArray, List.getElem_cons_succ, List.getElem_cons_zero, List.setIfInBounds_toArray, List.set_cons_zero, List.set_cons_succ]
      refine wpAnyT_held (i := 22) (v := ?_) rfl (by kernel_rfl) (by kernel_rfl) (by kernel_rfl) (fun _ _ _ h => h) (by kernel_rfl) hT (fun _ => hS) (by kernel_rfl) ?_ ?_
      rotate_left
      · intro wx hSw; go_split_ands; go_simp; try with_reducible rfl
      simp only [Act.put, List.getElem_toArray, List.getElem_cons_succ, List.getElem_cons_zero, List.setIfInBounds_toArray, List.set_cons_zero, List.set_cons_succ]
      refine wpAnyT_load (i := 23) (dst := some 51) (ty := 24) (x := .tmp 5) (b := Bj) (o := (0)) (cs := JV) (by kernel_rfl) (by kernel_rfl) (by kernel_rfl) (by kernel_rfl) (by kernel_rfl) (fun _ _ _ h => h) (by kernel_rfl) hT (fun _ => hS) (by kernel_rfl) (fun _ h => h.2.2.2.1) uV rfl iJ ?_
      simp only [Act.put, List.getElem_toArray, List.getElem_cons_succ, List.getElem_cons_zero, List.setIfInBounds_toArray, List.set_cons_zero, List.set_cons_succ]
      refine wpAnyT_load (i := 24) (dst := some 52) (ty := 26) (x := .tmp 3) (b := (w.heap.size + 1)) (o := (0)) (cs := DC) (by kernel_rfl) (by kernel_rfl) (by kernel_rfl) (by kernel_rfl) (by kernel_rfl) (fun _ _ _ h => h) (by kernel_rfl) hT (fun _ => hS) (by kernel_rfl) (fun _ h => h.2.2.2.2) uD rfl iD ?_
      simp only [Act.put, List.getElem_toArray, List.getElem_cons_succ, List.getElem_cons_zero, List.setIfInBounds_toArray, List.set_cons_zero, List.set_cons_succ]
      refine wpAnyT_held (i := 26) (v := ?_) rfl (by kernel_rfl) (by kernel_rfl) (by kernel_rfl) (fun _ _ _ h => h) (by kernel_rfl) hT (fun _ => hS) (by kernel_rfl) ?_ ?_
      rotate_left
      · intro wx hSw; go_split_ands; go_simp; try with_reducible rfl
      simp only [Act.put, List.getElem_toArray, List.getElem_cons_succ, List.getElem_cons_zero, List.setIfInBounds_toArray, List.set_cons_zero, List.set_cons_succ]
      refine wpAnyT_load (i := 27) (dst := some 55) (ty := 24) (x := .tmp 54) (b := w.heap.size) (o := (0)) (cs := AV) (by kernel_rfl) (by kernel_rfl) (by kernel_rfl) (by kernel_rfl) (by kernel_rfl) (fun _ _ _ h => h) (by kernel_rfl) hT (fun _ => hS) (by kernel_rfl) (fun _ h => h.1) uV rfl iA ?_
      simp only [Act.put, List.getElem_toArray, List.getElem_cons_succ, List.getElem_cons_zero, List.setIfInBounds_toArray, List.set_cons_zero, List.set_cons_succ]
      refine wpAnyT_load (i := 28) (dst := some 56) (ty := 26) (x := .tmp 3) (b := (w.heap.size + 1)) (o := (0)) (cs := DC) (by kernel_rfl) (by kernel_rfl) (by kernel_rfl) (by kernel_rfl) (by kernel_rfl) (fun _ _ _ h => h) (by kernel_rfl) hT (fun _ => hS) (by kernel_rfl) (fun _ h => h.2.2.2.2) uD rfl iD ?_
      simp only [Act.put, List.getElem_toArray, List.getElem_cons_succ, List.getElem_cons_zero, List.setIfInBounds_toArray, List.set_cons_zero, List.set_cons_succ]
      refine wpAnyT_one (i := 25) rfl (by kernel_rfl) (by kernel_rfl) (fun K hK => ?_)
      refine wpx_call _ _ (by kernel_rfl) ((HHJ.out _).mono ?_)
      rintro x W5 ⟨rfl, hq⟩
      refine ⟨_, rfl, ?_⟩
      have hb5 : Below W0.heap.size W0 W5 := hb4.trans (hq.mono hb4.size)
      clear hq hb4
      replace hT : (fun w' : World => w'.rangeAt w.heap.size 0 AV ∧ w'.rangeAt w.heap.size 8 BV ∧ w'.rangeAt w.heap.size 16 CV ∧ w'.rangeAt Bj 0 JV ∧ w'.rangeAt (w.heap.size + 1) 0 DC) W5 := HT.out _ hb5
      replace hS : (fun _ : World => True) W5 := trivial
      refine hK.out _ _ hT (fun _ => hS) ?_
      clear hK K
      try simp only [Act.put, List.getElem_toArray, List.getElem_cons_succ, List.getElem_cons_zero, List.setIfInBounds_toArray, List.set_cons_zero, List.set_cons_succ]
      refine wpAnyT_one (i := 29) rfl (by kernel_rfl) (by kernel_rfl) (fun K hK => ?_)
      refine wpx_call _ _ (by kernel_rfl) ((HHA.out _).mono ?_)
      rintro x W6 ⟨rfl, hq⟩
      refine ⟨_, rfl, ?_⟩
      have hb6 : Below W0.heap.size W0 W6 := hb5.trans (hq.mono hb5.size)
      clear hq hb5
      replace hT : (fun w' : World => w'.rangeAt w.heap.size 0 AV ∧ w'.rangeAt w.heap.size 8 BV ∧ w'.rangeAt w.heap.size 16 CV ∧ w'.rangeAt Bj 0 JV ∧ w'.rangeAt (w.heap.size + 1) 0 DC) W6 := HT.out _ hb6
      replace hS : (fun _ : World => True) W6 := trivial
      refine hK.out _ _ hT (fun _ => hS) ?_
      clear hK K
      try simp only [Act.put, List.getElem_toArray, List.getElem_cons_succ, List.getElem_cons_zero, List.setIfInBounds_toArray, List.set_cons_zero, List.set_cons_succ]
      refine wpAnyT_held (i := 30) (v := ?_) rfl (by kernel_rfl) (by kernel_rfl) (by kernel_rfl) (fun _ _ _ h => h) (by kernel_rfl) hT (fun _ => hS) (by kernel_rfl) ?_ ?_
      rotate_left
      · intro wx hSw; go_split_ands; go_simp; try with_reducible rfl
      simp only [Act.put, List.getElem_toArray, List.getElem_cons_succ, List.getElem_cons_zero, List.setIfInBounds_toArray, List.set_cons_zero, List.set_cons_succ]
      refine wpAnyT_skip (i := 31) rfl (by kernel_rfl) (by kernel_rfl) (by kernel_rfl) (fun _ _ _ h => h) (by kernel_rfl) hT (fun _ => hS) (by kernel_rfl) ?_
      simp only [Act.put, List.getElem_toArray, List.getElem_cons_succ, List.getElem_cons_zero, List.setIfInBounds_toArray, List.set_cons_zero, List.set_cons_succ]
      refine wpAnyT_skip (i := 32) rfl (by kernel_rfl) (by kernel_rfl) (by kernel_rfl) (fun _ _ _ h => h) (by kernel_rfl) hT (fun _ => hS) (by kernel_rfl) ?_
      simp only [Act.put, List.getElem_toArray, List.getElem_cons_succ, List.getElem_cons_zero, List.setIfInBounds_toArray, List.set_cons_zero, List.set_cons_succ]
      refine wpAnyT_skip (i := 33) rfl (by kernel_rfl) (by kernel_rfl) (by kernel_rfl) (fun _ _ _ h => h) (by kernel_rfl) hT (fun _ => hS) (by kernel_rfl) ?_
      simp only [Act.put, List.getElem_toArray, List.getElem_cons_succ, List.getElem_cons_zero, List.setIfInBounds_toArray, List.set_cons_zero, List.set_cons_succ]
      refine wpAnyT_skip (i := 34) rfl (by kernel_rfl) (by kernel_rfl) (by kernel_rfl) (fun _ _ _ h => h) (by kernel_rfl) hT (fun _ => hS) (by kernel_rfl) ?_
      simp only [Act.put, List.getElem_toArray, List.getElem_cons_succ, List.getElem_cons_zero, List.setIfInBounds_toArray, List.set_cons_zero, List.set_cons_succ]
      refine wpAnyT_held (i := 35) (v := ?_) rfl (by kernel_rfl) (by kernel_rfl) (by kernel_rfl) (fun _ _ _ h => h) (by kernel_rfl) hT (fun _ => hS) (by kernel_rfl) ?_ ?_
      rotate_left
      · intro wx hSw; go_split_ands; go_simp; try with_reducible rfl
      simp only [Act.put, List.getElem_toArray, List.getElem_cons_succ, List.getElem_cons_zero, List.setIfInBounds_toArray, List.set_cons_zero, List.set_cons_succ]
      refine wpAnyT_held (i := 36) (v := .bool true) rfl (by kernel_rfl) (by kernel_rfl) (by kernel_rfl) (fun _ _ _ h => h) (by kernel_rfl) hT (fun _ => hS) (by kernel_rfl) ?_ ?_
      · intro wx hSw; go_split_ands; go_simp
      simp only [Act.put, List.getElem_toArray, List.getElem_cons_succ, List.getElem_cons_zero, List.setIfInBounds_toArray, List.set_cons_zero, List.set_cons_succ]
      refine wpAnyT_held (i := 37) (v := ?_) rfl (by kernel_rfl) (by kernel_rfl) (by kernel_rfl) (fun _ _ _ h => h) (by kernel_rfl) hT (fun _ => hS) (by kernel_rfl) ?_ ?_
      rotate_left
      · intro wx hSw; go_split_ands; go_simp; try with_reducible rfl
      simp only [Act.put, List.getElem_toArray, List.getElem_cons_succ, List.getElem_cons_zero, List.setIfInBounds_toArray, List.set_cons_zero, List.set_cons_succ]
      refine wpAnyT_held (i := 38) (v := ?_) rfl (by kernel_rfl) (by kernel_rfl) (by kernel_rfl) (fun _ _ _ h => h) (by kernel_rfl) hT (fun _ => hS) (by kernel_rfl) ?_ ?_
      rotate_left
      · intro wx hSw; go_split_ands; go_simp; try with_reducible rfl
      simp only [Act.put, List.getElem_toArray, List.getElem_cons_succ, List.getElem_cons_zero, List.setIfInBounds_toArray, List.set_cons_zero, List.set_cons_succ]
      refine wpAnyT_done (by kernel_rfl) ?_ _
      clear hT hS
      go_wp2
      go_ret
      exact ⟨rfl, hB.trans (hb6.mono hB.size)⟩
  · have e : WB = WJ := HLE.out rfl
    subst e
    have HT : Veil (∀ W, Below W0.heap.size W0 W → W.rangeAt w.heap.size 0 AV ∧ W.rangeAt w.heap.size 8 BV ∧ W.rangeAt w.heap.size 16 CV ∧ W.rangeAt Bj 0 JV ∧ W.rangeAt (w.heap.size + 1) 0 DC) := ⟨fun W hq => ⟨(HRG.out W (c0.farM hq)).1, (HRG.out W (c0.farM hq)).2.1, (HRG.out W (c0.farM hq)).2.2, (c2.farM hq).wholeM, (c1.farM hq).wholeM⟩⟩
    refine wp_region_gateT (fun w' => w'.rangeAt w.heap.size 0 AV ∧ w'.rangeAt w.heap.size 8 BV ∧ w'.rangeAt w.heap.size 16 CV ∧ w'.rangeAt Bj 0 JV ∧ w'.rangeAt (w.heap.size + 1) 0 DC) (fun _ => True) 99 (by kernel_rfl) ?_
    have hT : (fun w' : World => w'.rangeAt w.heap.size 0 AV ∧ w'.rangeAt w.heap.size 8 BV ∧ w'.rangeAt w.heap.size 16 CV ∧ w'.rangeAt Bj 0 JV ∧ w'.rangeAt (w.heap.size + 1) 0 DC) W0.drew := HT.out _ (Below.refl _ _).drew
    have hS : (fun _ : World => True) W0.drew := trivial
    have hb0 : Below W0.heap.size W0 W0.drew := (Below.refl _ _).drew
    refine wpAnyT_held (i := 0) (v := ?_) rfl (by kernel_rfl) (by kernel_rfl) (by kernel_rfl) (fun _ _ _ h => h) (by kernel_rfl) hT (fun _ => hS) (by kernel_rfl) ?_ ?_
    rotate_left
    · intro wx hSw; go_split_ands; go_simp; try with_reducible rfl
    simp only [Act.put, List.getElem_toArray, List.getElem_cons_succ, List.getElem_cons_zero, List.setIfInBounds_toArray, List.set_cons_zero, List.set_cons_succ]
    refine wpAnyT_load (i := 1) (dst := some 12) (ty := 24) (x := .tmp 11) (b := w.heap.size) (o := (0)) (cs := AV) (by kernel_rfl) (by kernel_rfl) (by kernel_rfl) (by kernel_rfl) (by kernel_rfl) (fun _ _ _ h => h) (by kernel_rfl) hT (fun _ => hS) (by kernel_rfl) (fun _ h => h.1) uV rfl iA ?_
    simp only [Act.put, List.getElem_toArray, List.getElem_cons_succ, List.getElem_cons_zero, List.setIfInBounds_toArray, List.set_cons_zero, List.set_cons_succ]
    refine wpAnyT_held (i := 2) (v := ?_) rfl (by kernel_rfl) (by kernel_rfl) (by kernel_rfl) (fun _ _ _ h => h) (by kernel_rfl) hT (fun _ => hS) (by kernel_rfl) ?_ ?_
    rotate_left
    · intro wx hSw; go_split_ands; go_simp; try with_reducible rfl
    simp only [Act.put, List.getElem_toArray, List.getElem_cons_succ, List.getElem_cons_zero, List.setIfInBounds_toArray, List.set_cons_zero, List.set_cons_succ]
    refine wpAnyT_load (i := 3) (dst := some 14) (ty := 24) (x := .tmp 13) (b := w.heap.size) (o := (16)) (cs := CV) (by kernel_rfl) (by kernel_rfl) (by kernel_rfl) (by kernel_rfl) (by kernel_rfl) (fun _ _ _ h => h) (by kernel_rfl) hT (fun _ => hS) (by kernel_rfl) (fun _ h => h.2.2.1) uV rfl iC ?_
    simp only [Act.put, List.getElem_toArray, List.getElem_cons_succ, List.getElem_cons_zero, List.setIfInBounds_toArray, List.set_cons_zero, List.set_cons_succ]
    refine wpAnyT_one (i := 4) rfl (by kernel_rfl) (by kernel_rfl) (fun K hK => ?_)
    refine wpx_call _ _ (by kernel_rfl) ((HAC.out _).mono ?_)
    rintro x W1 ⟨rfl, hq⟩
    refine ⟨_, rfl, ?_⟩
    have hb1 : Below W0.heap.size W0 W1 := hb0.trans (hq.mono hb0.size)
    clear hq hb0
    replace hT : (fun w' : World => w'.rangeAt w.heap.size 0 AV ∧ w'.rangeAt w.heap.size 8 BV ∧ w'.rangeAt w.heap.size 16 CV ∧ w'.rangeAt Bj 0 JV ∧ w'.rangeAt (w.heap.size + 1) 0 DC) W1 := HT.out _ hb1
    replace hS : (fun _ : World => True) W1 := trivial
    refine hK.out _ _ hT (fun _ => hS) ?_
    clear hK K
    try simp only [Act.put, List.getElem_toArray, List.getElem_cons_succ, List.getElem_cons_zero, List.setIfInBounds_toArray, List.set_cons_zero, List.set_cons_succ]
    refine wpAnyT_held (i := 5) (v := ?_) rfl (by kernel_rfl) (by kernel_rfl) (by kernel_rfl) (fun _ _ _ h => h) (by kernel_rfl) hT (fun _ => hS) (by kernel_rfl) ?_ ?_
    rotate_left
    · intro wx hSw; go_split_ands; go_simp; try with_reducible rfl
    simp only [Act.put, List.getElem_toArray, List.getElem_cons_succ, List.getElem_cons_zero, List.setIfInBounds_toArray, List.set_cons_zero, List.set_cons_succ]
    refine wpAnyT_held (i := 6) (v := ?_) rfl (by kernel_rfl) (by kernel_rfl) (by kernel_rfl) (fun _ _ _ h => h) (by kernel_rfl) hT (fun _ => hS) (by kernel_rfl) ?_ ?_
    rotate_left
    · intro wx hSw; go_split_ands; go_simp; try with_reducible rfl
    simp only [Act.put, List.getElem_toArray, List.getElem_cons_succ, List.getElem_cons_zero, List.setIfInBounds_toArray, List.set_cons_zero, List.set_cons_succ]
    refine wpAnyT_load (i := 7) (dst := some 18) (ty := 24) (x := .tmp 17) (b := w.heap.size) (o := (8)) (cs := BV) (by kernel_rfl) (by kernel_rfl) (by kernel_rfl) (by kernel_rfl) (by kernel_rfl) (fun _ _ _ h => h) (by kernel_rfl) hT (fun _ => hS) (by kernel_rfl) (fun _ h => h.2.1) uV rfl iB ?_
    simp only [Act.put, List.getElem_toArray, List.getElem_cons_succ, List.getElem_cons_zero, List.setIfInBounds_toArray, List.set_cons_zero, List.set_cons_succ]
    refine wpAnyT_held (i := 8) (v := ?_) rfl (by kernel_rfl) (by kernel_rfl) (by kernel_rfl) (fun _ _ _ h => h) (by kernel_rfl) hT (fun _ => hS) (by kernel_rfl) ?_ ?_
    rotate_left
    · intro wx hSw; go_split_ands; go_simp; try with_reducible rfl
    simp only [Act.put, List.getElem_toArray, List.getElem_cons_succ, List.getElem_cons_zero, List.setIfInBounds_toArray, List.set_cons_zero, List.set_cons_succ]
    refine wpAnyT_load (i := 9) (dst := some 20) (ty := 24) (x := .tmp 19) (b := w.heap.size) (o := (16)) (cs := CV) (by kernel_rfl) (by kernel_rfl) (by kernel_rfl) (by kernel_rfl) (by kernel_rfl) (fun _ _ _ h => h) (by kernel_rfl) hT (fun _ => hS) (by kernel_rfl) (fun _ h => h.2.2.1) uV rfl iC ?_
    simp only [Act.put, List.getElem_toArray, List.getElem_cons_succ, List.getElem_cons_zero, List.setIfInBounds_toArray, List.set_cons_zero, List.set_cons_succ]
    refine wpAnyT_load (i := 11) (dst := some 22) (ty := 24) (x := .tmp 5) (b := Bj) (o := (0)) (cs := JV) (by kernel_rfl) (by kernel_rfl) (by kernel_rfl) (by kernel_rfl) (by kernel_rfl) (fun _ _ _ h => h) (by kernel_rfl) hT (fun _ => hS) (by kernel_rfl) (fun _ h => h.2.2.2.1) uV rfl iJ ?_
    simp only [Act.put, List.getElem_toArray, List.getElem_cons_succ, List.getElem_cons_zero, List.setIfInBounds_toArray, List.set_cons_zero, List.set_cons_succ]
    refine wpAnyT_held (i := 12) (v := ?_) rfl (by kernel_rfl) (by kernel_rfl) (by kernel_rfl) (fun _ _ _ h => h) (by kernel_rfl) hT (fun _ => hS) (by kernel_rfl) ?_ ?_
    rotate_left
    · intro wx hSw; go_split_ands; go_simp; try with_reducible rfl
    simp only [Act.put, List.getElem_toArray, List.getElem_cons_succ, List.getElem_cons_zero, List.setIfInBounds_toArray, List.set_cons_zero, List.set_cons_succ]
    refine wpAnyT_load (i := 13) (dst := some 24) (ty := 24) (x := .tmp 23) (b := w.heap.size) (o := (16)) (cs := CV) (by kernel_rfl) (by kernel_rfl) (by kernel_rfl) (by kernel_rfl) (by kernel_rfl) (fun _ _ _ h => h) (by kernel_rfl) hT (fun _ => hS) (by kernel_rfl) (fun _ h => h.2.2.1) uV rfl iC ?_
    simp only [Act.put, List.getElem_toArray, List.getElem_cons_succ, List.getElem_cons_zero, List.setIfInBounds_toArray, List.set_cons_zero, List.set_cons_succ]
    refine wpAnyT_one (i := 10) rfl (by kernel_rfl) (by kernel_rfl) (fun K hK => ?_)
    refine wpx_call _ _ (by kernel_rfl) ((HBC.out _).mono ?_)
    rintro x W2 ⟨rfl, hq⟩
    refine ⟨_, rfl, ?_⟩
    have hb2 : Below W0.heap.size W0 W2 := hb1.trans (hq.mono hb1.size)
    clear hq hb1
    replace hT : (fun w' : World => w'.rangeAt w.heap.size 0 AV ∧ w'.rangeAt w.heap.size 8 BV ∧ w'.rangeAt w.heap.size 16 CV ∧ w'.rangeAt Bj 0 JV ∧ w'.rangeAt (w.heap.size + 1) 0 DC) W2 := HT.out _ hb2
    replace hS : (fun _ : World => True) W2 := trivial
    refine hK.out _ _ hT (fun _ => hS) ?_
    clear hK K
    try simp only [Act.put, List.getElem_toArray, List.getElem_cons_succ, List.getElem_cons_zero, List.setIfInBounds_toArray, List.set_cons_zero, List.set_cons_succ]
    refine wpAnyT_one (i := 14) rfl (by kernel_rfl) (by kernel_rfl) (fun K hK => ?_)
    refine wpx_call _ _ (by kernel_rfl) ((HJC.out _).mono ?_)
    rintro x W3 ⟨rfl, hq⟩
    refine ⟨_, rfl, ?_⟩
    have hb3 : Below W0.heap.size W0 W3 := hb2.trans (hq.mono hb2.size)
    clear hq hb2
    replace hT : (fun w' : World => w'.rangeAt w.heap.size 0 AV ∧ w'.rangeAt w.heap.size 8 BV ∧ w'.rangeAt w.heap.size 16 CV ∧ w'.rangeAt Bj 0 JV ∧ w'.rangeAt (w.heap.size + 1) 0 DC) W3 := HT.out _ hb3
    replace hS : (fun _ : World => True) W3 := trivial
    refine hK.out _ _ hT (fun _ => hS) ?_
    clear hK K
    try simp only [Act.put, List.getElem_toArray, List.getElem_cons_succ, List.getElem_cons_zero, List.setIfInBounds_toArray, List.set_cons_zero, List.set_cons_succ]
    refine wpAnyT_held (i := 15) (v := .bool false) rfl (by kernel_rfl) (by kernel_rfl) (by kernel_rfl) (fun _ _ _ h => h) (by kernel_rfl) hT (fun _ => hS) (by kernel_rfl) ?_ ?_
    · intro wx hSw; go_split_ands; go_simp
    simp only [Act.put, List.getElem_toArray, List.getElem_cons_succ, List.getElem_cons_zero, List.setIfInBounds_toArray, List.set_cons_zero, List.set_cons_succ]
    refine wpAnyT_held (i := 16) (v := ?_) rfl (by kernel_rfl) (by kernel_rfl) (by kernel_rfl) (fun _ _ _ h => h) (by kernel_rfl) hT (fun _ => hS) (by kernel_rfl) ?_ ?_
    rotate_left
    · intro wx hSw; go_split_ands; go_simp; try with_reducible rfl
    simp only [Act.put, List.getElem_toArray, List.getElem_cons_succ, List.getElem_cons_zero, List.setIfInBounds_toArray, List.set_cons_zero, List.set_cons_succ]
    refine wpAnyT_done (by kernel_rfl) ?_ _
    clear hT hS
    go_upto_region 4 with fail
    refine forget (p := fun y => Code.wp _ _ _ _ y) (fun W => Below w.heap.size w W ∧ CellsAt W w.heap.size 32 LV ∧ CellsAt W (w.heap.size + 1) 26 DC ∧ CellsAt W Bj 24 JV) ⟨hB.trans (hb3.mono hB.size), c0.farM hb3, c1.farM hb3, c2.farM hb3⟩ ?_
    clear hB c0 c1 c2 HT hb3
    rintro W0 ⟨hB, c0, c1, c2⟩
    have HT : Veil (∀ W, Below W0.heap.size W0 W → W.rangeAt w.heap.size 0 AV ∧ W.rangeAt w.heap.size 8 BV ∧ W.rangeAt w.heap.size 16 CV ∧ W.rangeAt Bj 0 JV ∧ W.rangeAt (w.heap.size + 1) 0 DC) := ⟨fun W hq => ⟨(HRG.out W (c0.farM hq)).1, (HRG.out W (c0.farM hq)).2.1, (HRG.out W (c0.farM hq)).2.2, (c2.farM hq).wholeM, (c1.farM hq).wholeM⟩⟩
    clear c0 c1 c2
    clear HAC HBC HJC HLE
    cases HA
    · refine wp_region_gateT (fun w' => w'.rangeAt w.heap.size 0 AV ∧ w'.rangeAt w.heap.size 8 BV ∧ w'.rangeAt w.heap.size 16 CV ∧ w'.rangeAt Bj 0 JV ∧ w'.rangeAt (w.heap.size + 1) 0 DC) (fun _ => True) 99 (by kernel_rfl) ?_
      have hT : (fun w' : World => w'.rangeAt w.heap.size 0 AV ∧ w'.rangeAt w.heap.size 8 BV ∧ w'.rangeAt w.heap.size 16 CV ∧ w'.rangeAt Bj 0 JV ∧ w'.rangeAt (w.heap.size + 1) 0 DC) W0.drew := HT.out _ (Below.refl _ _).drew
      have hS : (fun _ : World => True) W0.drew := trivial
      have hb0 : Below W0.heap.size W0 W0.drew := (Below.refl _ _).drew
      refine wpAnyT_one (i := 0) rfl (by kernel_rfl) (by kernel_rfl) (fun K hK => ?_)
      refine wpx_call _ _ (by kernel_rfl) ((HLV.out _).mono ?_)
      rintro x W1 ⟨rfl, hq⟩
      refine ⟨_, rfl, ?_⟩
      have hb1 : Below W0.heap.size W0 W1 := hb0.trans (hq.mono hb0.size)
      clear hq hb0
      replace hT : (fun w' : World => w'.rangeAt w.heap.size 0 AV ∧ w'.rangeAt w.heap.size 8 BV ∧ w'.rangeAt w.heap.size 16 CV ∧ w'.rangeAt Bj 0 JV ∧ w'.rangeAt (w.heap.size + 1) 0 DC) W1 := HT.out _ hb1
      replace hS : (fun _ : World => True) W1 := trivial
      refine hK.out _ _ hT (fun _ => hS) ?_
      clear hK K
      try simp only [Act.put, List.getElem_toArray, List.getElem_cons_succ, List.getElem_cons_zero, List.setIfInBounds_toArray, List.set_cons_zero, List.set_cons_succ]
      refine wpAnyT_held (i := 1) (v := ?_) rfl (by kernel_rfl) (by kernel_rfl) (by kernel_rfl) (fun _ _ _ h => h) (by kernel_rfl) hT (fun _ => hS) (by kernel_rfl) ?_ ?_
      rotate_left
      · intro wx hSw; go_split_ands; go_simp; try with_reducible rfl
      simp only [Act.put, List.getElem_toArray, List.getElem_cons_succ, List.getElem_cons_zero, List.setIfInBounds_toArray, List.set_cons_zero, List.set_cons_succ]
      refine wpAnyT_held (i := 2) (v := ?_) rfl (by kernel_rfl) (by kernel_rfl) (by kernel_rfl) (fun _ _ _ h => h) (by kernel_rfl) hT (fun _ => hS) (by kernel_rfl) ?_ ?_
      rotate_left
      · intro wx hSw; go_split_ands; go_simp; try with_reducible rfl
      simp only [Act.put, List.getElem_toArray, List.getElem_cons_succ, List.getElem_cons_zero, List.setIfInBounds_toArray, List.set_cons_zero, List.set_cons_succ]
      refine wpAnyT_load (i := 3) (dst := some 31) (ty := 24) (x := .tmp 30) (b := w.heap.size) (o := (0)) (cs := AV) (by kernel_rfl) (by kernel_rfl) (by kernel_rfl) (by kernel_rfl) (by kernel_rfl) (fun _ _ _ h => h) (by kernel_rfl) hT (fun _ => hS) (by kernel_rfl) (fun _ h => h.1) uV rfl iA ?_
      simp only [Act.put, List.getElem_toArray, List.getElem_cons_succ, List.getElem_cons_zero, List.setIfInBounds_toArray, List.set_cons_zero, List.set_cons_succ]
      refine wpAnyT_load (i := 4) (dst := some 32) (ty := 24) (x := .tmp 5) (b := Bj) (o := (0)) (cs := JV) (by kernel_rfl) (by kernel_rfl) (by kernel_rfl) (by kernel_rfl) (by kernel_rfl) (fun _ _ _ h => h) (by kernel_rfl) hT (fun _ => hS) (by kernel_rfl) (fun _ h => h.2.2.2.1) uV rfl iJ ?_
      simp only [Act.put, List.getElem_toArray, List.getElem_cons_succ, List.getElem_cons_zero, List.setIfInBounds_toArray, List.set_cons_zero, List.set_cons_succ]
      refine wpAnyT_one (i := 5) rfl (by kernel_rfl) (by kernel_rfl) (fun K hK => ?_)
      refine wpx_call _ _ (by kernel_rfl) ((HAJ.out _).mono ?_)
      rintro x W2 ⟨rfl, hq⟩
      refine ⟨_, rfl, ?_⟩
      have hb2 : Below W0.heap.size W0 W2 := hb1.trans (hq.mono hb1.size)
      clear hq hb1
      replace hT : (fun w' : World => w'.rangeAt w.heap.size 0 AV ∧ w'.rangeAt w.heap.size 8 BV ∧ w'.rangeAt w.heap.size 16 CV ∧ w'.rangeAt Bj 0 JV ∧ w'.rangeAt (w.heap.size + 1) 0 DC) W2 := HT.out _ hb2
      replace hS : (fun _ : World => True) W2 := trivial
      refine hK.out _ _ hT (fun _ => hS) ?_
      clear hK K
      try simp only [Act.put, List.getElem_toArray, List.getElem_cons_succ, List.getElem_cons_zero, List.setIfInBounds_toArray, List.set_cons_zero, List.set_cons_succ]
      refine wpAnyT_held (i := 6) (v := ?_) rfl (by kernel_rfl) (by kernel_rfl) (by kernel_rfl) (fun _ _ _ h => h) (by kernel_rfl) hT (fun _ => hS) (by kernel_rfl) ?_ ?_
      rotate_left
      · intro wx hSw; go_split_ands; go_simp; try with_reducible rfl
      simp only [Act.put, List.getElem_toArray, List.getElem_cons_succ, List.getElem_cons_zero, List.setIfInBounds_toArray, List.set_cons_zero, List.set_cons_succ]
      refine wpAnyT_held (i := 7) (v := ?_) rfl (by kernel_rfl) (by kernel_rfl) (by kernel_rfl) (fun _ _ _ h => h) (by kernel_rfl) hT (fun _ => hS) (by kernel_rfl) ?_ ?_
      rotate_left
      · intro wx hSw; go_split_ands; go_simp; try with_reducible rfl
      simp only [Act.put, List.getElem_toArray, List.getElem_cons_succ, List.getElem_cons_zero, List.setIfInBounds_toArray, List.set_cons_zero, List.set_cons_succ]
      refine wpAnyT_held (i := 8) (v := ?_) rfl (by kernel_rfl) (by kernel_rfl) (by kernel_rfl) (fun _ _ _ h => h) (by kernel_rfl) hT (fun _ => hS) (by kernel_rfl) ?_ ?_
      rotate_left
      · intro wx hSw; go_split_ands; go_simp; try with_reducible rfl
      simp only [Act.put, List.getElem_toArray, List.getElem_cons_succ, List.getElem_cons_zero, List.setIfInBounds_toArray, List.set_cons_zero, List.set_cons_succ]
      refine wpAnyT_load (i := 9) (dst := some 37) (ty := 24) (x := .tmp 36) (b := w.heap.size) (o := (8)) (cs := BV) (by kernel_rfl) (by kernel_rfl) (by kernel_rfl) (by kernel_rfl) (by kernel_rfl) (fun _ _ _ h => h) (by kernel_rfl) hT (fun _ => hS) (by kernel_rfl) (fun _ h => h.2.1) uV rfl iB ?_
      simp only [Act.put, List.getElem_toArray, List.getElem_cons_succ, List.getElem_cons_zero, List.setIfInBounds_toArray, List.set_cons_zero, List.set_cons_succ]
      refine wpAnyT_load (i := 10) (dst := some 38) (ty := 24) (x := .tmp 5) (b := Bj) (o := (0)) (cs := JV) (by kernel_rfl) (by kernel_rfl) (by kernel_rfl) (by kernel_rfl) (by kernel_rfl) (fun _ _ _ h => h) (by kernel_rfl) hT (fun _ => hS) (by kernel_rfl) (fun _ h => h.2.2.2.1) uV rfl iJ ?_
      simp only [Act.put, List.getElem_toArray, List.getElem_cons_succ, List.getElem_cons_zero, List.setIfInBounds_toArray, List.set_cons_zero, List.set_cons_succ]
      refine wpAnyT_one (i := 11) rfl (by kernel_rfl) (by kernel_rfl) (fun K hK => ?_)
      refine wpx_call _ _ (by kernel_rfl) ((HBJ.out _).mono ?_)
      rintro x W3 ⟨rfl, hq⟩
      refine ⟨_, rfl, ?_⟩
      have hb3 : Below W0.heap.size W0 W3 := hb2.trans (hq.mono hb2.size)
      clear hq hb2
      replace hT : (fun w' : World => w'.rangeAt w.heap.size 0 AV ∧ w'.rangeAt w.heap.size 8 BV ∧ w'.rangeAt w.heap.size 16 CV ∧ w'.rangeAt Bj 0 JV ∧ w'.rangeAt (w.heap.size + 1) 0 DC) W3 := HT.out _ hb3
      replace hS : (fun _ : World => True) W3 := trivial
      refine hK.out _ _ hT (fun _ => hS) ?_
      clear hK K
      try simp only [Act.put, List.getElem_toArray, List.getElem_cons_succ, List.getElem_cons_zero, List.setIfInBounds_toArray, List.set_cons_zero, List.set_cons_succ]
      refine wpAnyT_held (i := 12) (v := ?_) rfl (by kernel_rfl) (by kernel_rfl) (by kernel_rfl) (fun _ _ _ h => h) (by kernel_rfl) hT (fun _ => hS) (by kernel_rfl) ?_ ?_
      rotate_left
      · intro wx hSw; go_split_ands; go_simp; try with_reducible rfl
      simp only [Act.put, List.getElem_toArray, List.getElem_cons_succ, List.getElem_cons_zero, List.setIfInBounds_toArray, List.set_cons_zero, List.set_cons_succ]
      refine wpAnyT_held (i := 13) (v := ?_) rfl (by kernel_rfl) (by kernel_rfl) (by kernel_rfl) (fun _ _ _ h => h) (by kernel_rfl) hT (fun _ => hS) (by kernel_rfl) ?_ ?_
      rotate_left
      · intro wx hSw; go_split_ands; go_simp; try with_reducible rfl
      simp only [Act.put, List.getElem_toArray, List.getElem_cons_succ, List.getElem_cons_zero, List.setIfInBounds_toArray, List.set_cons_zero, List.set_cons_succ]
      refine wpAnyT_load (i := 14) (dst := some 42) (ty := 24) (x := .tmp 5) (b := Bj) (o := (0)) (cs := JV) (by kernel_rfl) (by kernel_rfl) (by kernel_rfl) (by kernel_rfl) (by kernel_rfl) (fun _ _ _ h => h) (by kernel_rfl) hT (fun _ => hS) (by kernel_rfl) (fun _ h => h.2.2.2.1) uV rfl iJ ?_
      simp only [Act.put, List.getElem_toArray, List.getElem_cons_succ, List.getElem_cons_zero, List.setIfInBounds_toArray, List.set_cons_zero, List.set_cons_succ]
      refine wpAnyT_held (i := 15) (v := ?_) rfl (by kernel_rfl) (by kernel_rfl) (by kernel_rfl) (fun _ _ _ h => h) (by kernel_rfl) hT (fun _ => hS) (by kernel_rfl) ?_ ?_
      rotate_left
      · intro wx hSw; go_split_ands; go_simp; try with_reducible rfl
      simp only [Act.put, List.getElem_toArray, List.getElem_cons_succ, List.getElem_cons_zero, List.setIfInBounds_toArray, List.set_cons_zero, List.set_cons_succ]
      refine wpAnyT_load (i := 16) (dst := some 44) (ty := 24) (x := .tmp 43) (b := w.heap.size) (o := (8)) (cs := BV) (by kernel_rfl) (by kernel_rfl) (by kernel_rfl) (by kernel_rfl) (by kernel_rfl) (fun _ _ _ h => h) (by kernel_rfl) hT (fun _ => hS) (by kernel_rfl) (fun _ h => h.2.1) uV rfl iB ?_
      simp only [Act.put, List.getElem_toArray, List.getElem_cons_succ, List.getElem_cons_zero, List.setIfInBounds_toArray, List.set_cons_zero, List.set_cons_succ]
      refine wpAnyT_held (i := 17) (v := ?_) rfl (by kernel_rfl) (by kernel_rfl) (by kernel_rfl) (fun _ _ _ h => h) (by kernel_rfl) hT (fun _ => hS) (by kernel_rfl) ?_ ?_
      rotate_left
      · intro wx hSw; go_split_ands; go_simp; try with_reducible rfl
      simp only [Act.put, List.getElem_toArray, List.getElem_cons_succ, List.getElem_cons_zero, List.setIfInBounds_toArray, List.set_cons_zero, List.set_cons_succ]
      refine wpAnyT_load (i := 18) (dst := some 46) (ty := 24) (x := .tmp 45) (b := w.heap.size) (o := (0)) (cs := AV) (by kernel_rfl) (by kernel_rfl) (by kernel_rfl) (by kernel_rfl) (by kernel_rfl) (fun _ _ _ h => h) (by kernel_rfl) hT (fun _ => hS) (by kernel_rfl) (fun _ h => h.1) uV rfl iA ?_
      simp only [Act.put, List.getElem_toArray, List.getElem_cons_succ, List.getElem_cons_zero, List.setIfInBounds_toArray, List.set_cons_zero, List.set_cons_succ]
      refine wpAnyT_one (i := 19) rfl (by kernel_rfl) (by kernel_rfl) (fun K hK => ?_)
      refine wpx_call _ _ (by kernel_rfl) ((HJ2.out _).mono ?_)
      rintro x W4 ⟨rfl, hq⟩
      refine ⟨_, rfl, ?_⟩
      have hb4 : Below W0.heap.size W0 W4 := hb3.trans (hq.mono hb3.size)
      clear hq hb3
      replace hT : (fun w' : World => w'.rangeAt w.heap.size 0 AV ∧ w'.rangeAt w.heap.size 8 BV ∧ w'.rangeAt w.heap.size 16 CV ∧ w'.rangeAt Bj 0 JV ∧ w'.rangeAt (w.heap.size + 1) 0 DC) W4 := HT.out _ hb4
      replace hS : (fun _ : World => True) W4 := trivial
      refine hK.out _ _ hT (fun _ => hS) ?_
      clear hK K
      try simp only [Act.put, List.getElem_toArray, List.getElem_cons_succ, List.getElem_cons_zero, List.setIfInBounds_toArray, List.set_cons_zero, List.set_cons_succ]
      refine wpAnyT_held (i := 20) (v := .bool true) rfl (by kernel_rfl) (by kernel_rfl) (by kernel_rfl) (fun _ _ _ h => h) (by kernel_rfl) hT (fun _ => hS) (by kernel_rfl) ?_ ?_
      · intro wx hSw; go_split_ands; go_simp
      simp only [Act.put, List.getElem_toArray, List.getElem_cons_succ, List.getElem_cons_zero, List.setIfInBounds_toArray, List.set_cons_zero, List.set_cons_succ]
      refine wpAnyT_held (i := 21) (v := ?_) rfl (by kernel_rfl) (by kernel_rfl) (by kernel_rfl) (fun _ _ _ h => h) (by kernel_rfl) hT (fun _ => hS) (by kernel_rfl) ?_ ?_
      rotate_left
      · intro wx hSw; go_split_ands; go_simp; try with_reducible rfl
      simp only [Act.put, List.getElem_toArray, List.getElem_cons_succ, List.getElem_cons_zero, List.setIfInBounds_toArray, List.set_cons_zero, List.set_cons_succ]
      refine wpAnyT_held (i := 22) (v := ?_) rfl (by kernel_rfl) (by kernel_rfl) (by kernel_rfl) (fun _ _ _ h => h) (by kernel_rfl) hT (fun _ => hS) (by kernel_rfl) ?_ ?_
      rotate_left
      · intro wx hSw; go_split_ands; go_simp; try with_reducible rfl
      simp only [Act.put, List.getElem_toArray, List.getElem_cons_succ, List.getElem_cons_zero, List.setIfInBounds_toArray, List.set_cons_zero, List.set_cons_succ]
      refine wpAnyT_load (i := 23) (dst := some 51) (ty := 24) (x := .tmp 5) (b := Bj) (o := (0)) (cs := JV) (by kernel_rfl) (by kernel_rfl) (by kernel_rfl) (by kernel_rfl) (by kernel_rfl) (fun _ _ _ h => h) (by kernel_rfl) hT (fun _ => hS) (by kernel_rfl) (fun _ h => h.2.2.2.1) uV rfl iJ ?_
      simp only [Act.put, List.getElem_toArray, List.getElem_cons_succ, List.getElem_cons_zero, List.setIfInBounds_toArray, List.set_cons_zero, List.set_cons_succ]
      refine wpAnyT_load (i := 24) (dst := some 52) (ty := 26) (x := .tmp 3) (b := (w.heap.size + 1)) (o := (0)) (cs := DC) (by kernel_rfl) (by kernel_rfl) (by kernel_rfl) (by kernel_rfl) (by kernel_rfl) (fun _ _ _ h => h) (by kernel_rfl) hT (fun _ => hS) (by kernel_rfl) (fun _ h => h.2.2.2.2) uD rfl iD ?_
      simp only [Act.put, List.getElem_toArray, List.getElem_cons_succ, List.getElem_cons_zero, List.setIfInBounds_toArray, List.set_cons_zero, List.set_cons_succ]
      refine wpAnyT_held (i := 26) (v := ?_) rfl (by kernel_rfl) (by kernel_rfl) (by kernel_rfl) (fun _ _ _ h => h) (by kernel_rfl) hT (fun _ => hS) (by kernel_rfl) ?_ ?_
      rotate_left
      · intro wx hSw; go_split_ands; go_simp; try with_reducible rfl
      simp only [Act.put, List.getElem_toArray, List.getElem_cons_succ, List.getElem_cons_zero, List.setIfInBounds_toArray, List.set_cons_zero, List.set_cons_succ]
      refine wpAnyT_load (i := 27) (dst := some 55) (ty := 24) (x := .tmp 54) (b := w.heap.size) (o := (0)) (cs := AV) (by kernel_rfl) (by kernel_rfl) (by kernel_rfl) (by kernel_rfl) (by kernel_rfl) (fun _ _ _ h => h) (by kernel_rfl) hT (fun _ => hS) (by kernel_rfl) (fun _ h => h.1) uV rfl iA ?_
      simp only [Act.put, List.getElem_toArray, List.getElem_cons_succ, List.getElem_cons_zero, List.setIfInBounds_toArray, List.set_cons_zero, List.set_cons_succ]
      refine wpAnyT_load (i := 28) (dst := some 56) (ty := 26) (x := .tmp 3) (b := (w.heap.size + 1)) (o := (0)) (cs := DC) (by kernel_rfl) (by kernel_rfl) (by kernel_rfl) (by kernel_rfl) (by kernel_rfl) (fun _ _ _ h => h) (by kernel_rfl) hT (fun _ => hS) (by kernel_rfl) (fun _ h => h.2.2.2.2) uD rfl iD ?_
      simp only [Act.put, List.getElem_toArray, List.getElem_cons_succ, List.getElem_cons_zero, List.setIfInBounds_toArray, List.set_cons_zero, List.set_cons_succ]
      refine wpAnyT_one (i := 25) rfl (by kernel_rfl) (by kernel_rfl) (fun K hK => ?_)
      refine wpx_call _ _ (by kernel_rfl) ((HHJ.out _).mono ?_)
      rintro x W5 ⟨rfl, hq⟩
      refine ⟨_, rfl, ?_⟩
      have hb5 : Below W0.heap.size W0 W5 := hb4.trans (hq.mono hb4.size)
      clear hq hb4
      replace hT : (fun w' : World => w'.rangeAt w.heap.size 0 AV ∧ w'.rangeAt w.heap.size 8 BV ∧ w'.rangeAt w.heap.size 16 CV ∧ w'.rangeAt Bj 0 JV ∧ w'.rangeAt (w.heap.size + 1) 0 DC) W5 := HT.out _ hb5
      replace hS : (fun _ : World => True) W5 := trivial
      refine hK.out _ _ hT (fun _ => hS) ?_
      clear hK K
      try simp only [Act.put, List.getElem_toArray, List.getElem_cons_succ, List.getElem_cons_zero, List.setIfInBounds_toArray, List.set_cons_zero, List.set_cons_succ]
      refine wpAnyT_one (i := 29) rfl (by kernel_rfl) (by kernel_rfl) (fun K hK => ?_)
      refine wpx_call _ _ (by kernel_rfl) ((HHA.out _).mono ?_)
      rintro x W6 ⟨rfl, hq⟩
      refine ⟨_, rfl, ?_⟩
      have hb6 : Below W0.heap.size W0 W6 := hb5.trans (hq.mono hb5.size)
      clear hq hb5
      replace hT : (fun w' : World => w'.rangeAt w.heap.size 0 AV ∧ w'.rangeAt w.heap.size 8 BV ∧ w'.rangeAt w.heap.size 16 CV ∧ w'.rangeAt Bj 0 JV ∧ w'.rangeAt (w.heap.size + 1) 0 DC) W6 := HT.out _ hb6
      replace hS : (fun _ : World => True) W6 := trivial
      refine hK.out _ _ hT (fun _ => hS) ?_
      clear hK K
      try simp only [Act.put, List.getElem_toArray, List.getElem_cons_succ, List.getElem_cons_zero, List.setIfInBounds_toArray, List.set_cons_zero, List.set_cons_succ]
      refine wpAnyT_held (i := 30) (v := ?_) rfl (by kernel_rfl) (by kernel_rfl) (by kernel_rfl) (fun _ _ _ h => h) (by kernel_rfl) hT (fun _ => hS) (by kernel_rfl) ?_ ?_
      rotate_left
      · intro wx hSw; go_split_ands; go_simp; try with_reducible rfl
      simp only [Act.put, List.getElem_toArray, List.getElem_cons_succ, List.getElem_cons_zero, List.setIfInBounds_toArray, List.set_cons_zero, List.set_cons_succ]
      refine wpAnyT_held (i := 31) (v := ?_) rfl (by kernel_rfl) (by kernel_rfl) (by kernel_rfl) (fun _ _ _ h => h) (by kernel_rfl) hT (fun _ => hS) (by kernel_rfl) ?_ ?_
      rotate_left
      · intro wx hSw; go_split_ands; go_simp; try with_reducible rfl
      simp only [Act.put, List.getElem_toArray, List.getElem_cons_succ, List.getElem_cons_zero, List.setIfInBounds_toArray, List.set_cons_zero, List.set_cons_succ]
      refine wpAnyT_load (i := 32) (dst := some 60) (ty := 24) (x := .tmp 59) (b := w.heap.size) (o := (8)) (cs := BV) (by kernel_rfl) (by kernel_rfl) (by kernel_rfl) (by kernel_rfl) (by kernel_rfl) (fun _ _ _ h => h) (by kernel_rfl) hT (fun _ => hS) (by kernel_rfl) (fun _ h => h.2.1) uV rfl iB ?_
      simp only [Act.put, List.getElem_toArray, List.getElem_cons_succ, List.getElem_cons_zero, List.setIfInBounds_toArray, List.set_cons_zero, List.set_cons_succ]
      refine wpAnyT_load (i := 33) (dst := some 61) (ty := 26) (x := .tmp 3) (b := (w.heap.size + 1)) (o := (0)) (cs := DC) (by kernel_rfl) (by kernel_rfl) (by kernel_rfl) (by kernel_rfl) (by kernel_rfl) (fun _ _ _ h => h) (by kernel_rfl) hT (fun _ => hS) (by kernel_rfl) (fun _ h => h.2.2.2.2) uD rfl iD ?_
      simp only [Act.put, List.getElem_toArray, List.getElem_cons_succ, List.getElem_cons_zero, List.setIfInBounds_toArray, List.set_cons_zero, List.set_cons_succ]
      refine wpAnyT_one (i := 34) rfl (by kernel_rfl) (by kernel_rfl) (fun K hK => ?_)
      refine wpx_call _ _ (by kernel_rfl) ((HHB.out _).mono ?_)
      rintro x W7 ⟨rfl, hq⟩
      refine ⟨_, rfl, ?_⟩
      have hb7 : Below W0.heap.size W0 W7 := hb6.trans (hq.mono hb6.size)
      clear hq hb6
      replace hT : (fun w' : World => w'.rangeAt w.heap.size 0 AV ∧ w'.rangeAt w.heap.size 8 BV ∧ w'.rangeAt w.heap.size 16 CV ∧ w'.rangeAt Bj 0 JV ∧ w'.rangeAt (w.heap.size + 1) 0 DC) W7 := HT.out _ hb7
      replace hS : (fun _ : World => True) W7 := trivial
      refine hK.out _ _ hT (fun _ => hS) ?_
      clear hK K
      try simp only [Act.put, List.getElem_toArray, List.getElem_cons_succ, List.getElem_cons_zero, List.setIfInBounds_toArray, List.set_cons_zero, List.set_cons_succ]
      refine wpAnyT_held (i := 35) (v := ?_) rfl (by kernel_rfl) (by kernel_rfl) (by kernel_rfl) (fun _ _ _ h => h) (by kernel_rfl) hT (fun _ => hS) (by kernel_rfl) ?_ ?_
      rotate_left
      · intro wx hSw; go_split_ands; go_simp; try with_reducible rfl
      simp only [Act.put, List.getElem_toArray, List.getElem_cons_succ, List.getElem_cons_zero, List.setIfInBounds_toArray, List.set_cons_zero, List.set_cons_succ]
      refine wpAnyT_held (i := 36) (v := .bool true) rfl (by kernel_rfl) (by kernel_rfl) (by kernel_rfl) (fun _ _ _ h => h) (by kernel_rfl) hT (fun _ => hS) (by kernel_rfl) ?_ ?_
      · intro wx hSw; go_split_ands; go_simp
      simp only [Act.put, List.getElem_toArray, List.getElem_cons_succ, List.getElem_cons_zero, List.setIfInBounds_toArray, List.set_cons_zero, List.set_cons_succ]
      refine wpAnyT_held (i := 37) (v := ?_) rfl (by kernel_rfl) (by kernel_rfl) (by kernel_rfl) (fun _ _ _ h => h) (by kernel_rfl) hT (fun _ => hS) (by kernel_rfl) ?_ ?_
      rotate_left
      · intro wx hSw; go_split_ands; go_simp; try with_reducible rfl
      simp only [Act.put, List.getElem_toArray, List.getElem_cons_succ, List.getElem_cons_zero, List.setIfInBounds_toArray, List.set_cons_zero, List.set_cons_succ]
      refine wpAnyT_held (i := 38) (v := ?_) rfl (by kernel_rfl) (by kernel_rfl) (by kernel_rfl) (fun _ _ _ h => h) (by kernel_rfl) hT (fun _ => hS) (by kernel_rfl) ?_ ?_
      rotate_left
      · intro wx hSw; go_split_ands; go_simp; try with_reducible rfl
      simp only [Act.put, List.getElem_toArray, List.getElem_cons_succ, List.getElem_cons_zero, List.setIfInBounds_toArray, List.set_cons_zero, List.set_cons_succ]
      refine wpAnyT_done (by kernel_rfl) ?_ _
      clear hT hS
      go_wp2
      go_ret
      exact ⟨rfl, hB.trans (hb7.mono hB.size)⟩
    · refine wp_region_gateT (fun w' => w'.rangeAt w.heap.size 0 AV ∧ w'.rangeAt w.heap.size 8 BV ∧ w'.rangeAt w.heap.size 16 CV ∧ w'.rangeAt Bj 0 JV ∧ w'.rangeAt (w.heap.size + 1) 0 DC) (fun _ => True) 99 (by kernel_rfl) ?_
      have hT : (fun w' : World => w'.rangeAt w.heap.size 0 AV ∧ w'.rangeAt w.heap.size 8 BV ∧ w'.rangeAt w.heap.size 16 CV ∧ w'.rangeAt Bj 0 JV ∧ w'.rangeAt (w.heap.size + 1) 0 DC) W0.drew := HT.out _ (Below.refl _ _).drew
      have hS : (fun _ : World => True) W0.drew := trivial
      have hb0 : Below W0.heap.size W0 W0.drew := (Below.refl _ _).drew
      refine wpAnyT_one (i := 0) rfl (by kernel_rfl) (by kernel_rfl) (fun K hK => ?_)
      refine wpx_call _ _ (by kernel_rfl) ((HLV.out _).mono ?_)
      rintro x W1 ⟨rfl, hq⟩
      refine ⟨_, rfl, ?_⟩
      have hb1 : Below W0.heap.size W0 W1 := hb0.trans (hq.mono hb0.size)
      clear hq hb0
      replace hT : (fun w' : World => w'.rangeAt w.heap.size 0 AV ∧ w'.rangeAt w.heap.size 8 BV ∧ w'.rangeAt w.heap.size 16 CV ∧ w'.rangeAt Bj 0 JV ∧ w'.rangeAt (w.heap.size + 1) 0 DC) W1 := HT.out _ hb1
      replace hS : (fun _ : World => True) W1 := trivial
      refine hK.out _ _ hT (fun _ => hS) ?_
      clear hK K
      try simp only [Act.put, List.getElem_toArray, List.getElem_cons_succ, List.getElem_cons_zero, List.setIfInBounds_toArray, List.set_cons_zero, List.set_cons_succ]
      refine wpAnyT_held (i := 1) (v := ?_) rfl (by kernel_rfl) (by kernel_rfl) (by kernel_rfl) (fun _ _ _ h => h) (by kernel_rfl) hT (fun _ => hS) (by kernel_rfl) ?_ ?_
      rotate_left
      · intro wx hSw; go_split_ands; go_simp; try with_reducible rfl
      simp only [Act.put, List.getElem_toArray, List.getElem_cons_succ, List.getElem_cons_zero, List.setIfInBounds_toArray, List.set_cons_zero, List.set_cons_succ]
      refine wpAnyT_held (i := 2) (v := ?_) rfl (by kernel_rfl) (by kernel_rfl) (by kernel_rfl) (fun _ _ _ h => h) (by kernel_rfl) hT (fun _ => hS) (by kernel_rfl) ?_ ?_
      rotate_left
      · intro wx hSw; go_split_ands; go_simp; try with_reducible rfl
      simp only [Act.put, List.getElem_toArray, List.getElem_cons_succ, List.getElem_cons_zero, List.setIfInBounds_toArray, List.set_cons_zero, List.set_cons_succ]
      refine wpAnyT_load (i := 3) (dst := some 31) (ty := 24) (x := .tmp 30) (b := w.heap.size) (o := (0)) (cs := AV) (by kernel_rfl) (by kernel_rfl) (by kernel_rfl) (by kernel_rfl) (by kernel_rfl) (fun _ _ _ h => h) (by kernel_rfl) hT (fun _ => hS) (by kernel_rfl) (fun _ h => h.1) uV rfl iA ?_
      simp only [Act.put, List.getElem_toArray, List.getElem_cons_succ, List.getElem_cons_zero, List.setIfInBounds_toArray, List.set_cons_zero, List.set_cons_succ]
      refine wpAnyT_load (i := 4) (dst := some 32) (ty := 24) (x := .tmp 5) (b := Bj) (o := (0)) (cs := JV) (by kernel_rfl) (by kernel_rfl) (by kernel_rfl) (by kernel_rfl) (by kernel_rfl) (fun _ _ _ h => h) (by kernel_rfl) hT (fun _ => hS) (by kernel_rfl) (fun _ h => h.2.2.2.1) uV rfl iJ ?_
      simp only [Act.put, List.getElem_toArray, List.getElem_cons_succ, List.getElem_cons_zero, List.setIfInBounds_toArray, List.set_cons_zero, List.set_cons_succ]
      refine wpAnyT_one (i := 5) rfl (by kernel_rfl) (by kernel_rfl) (fun K hK => ?_)
      refine wpx_call _ _ (by kernel_rfl) ((HAJ.out _).mono ?_)
      rintro x W2 ⟨rfl, hq⟩
      refine ⟨_, rfl, ?_⟩
      have hb2 : Below W0.heap.size W0 W2 := hb1.trans (hq.mono hb1.size)
      clear hq hb1
      replace hT : (fun w' : World => w'.rangeAt w.heap.size 0 AV ∧ w'.rangeAt w.heap.size 8 BV ∧ w'.rangeAt w.heap.size 16 CV ∧ w'.rangeAt Bj 0 JV ∧ w'.rangeAt (w.heap.size + 1) 0 DC) W2 := HT.out _ hb2
      replace hS : (fun _ : World => True) W2 := trivial
      refine hK.out _ _ hT (fun _ => hS) ?_
      clear hK K
      try simp only [Act.put, List.getElem_toArray, List.getElem_cons_succ, List.getElem_cons_zero, List.setIfInBounds_toArray, List.set_cons_zero, List.set_cons_succ]
      refine wpAnyT_held (i := 6) (v := ?_) rfl (by kernel_rfl) (by kernel_rfl) (by kernel_rfl) (fun _ _ _ h => h) (by kernel_rfl) hT (fun _ => hS) (by kernel_rfl) ?_ ?_
      rotate_left
      · intro wx hSw; go_split_ands; go_simp; try with_reducible rfl
      simp only [Act.put, List.getElem_toArray, List.getElem_cons_succ, List.getElem_cons_zero, List.setIfInBounds_toArray, List.set_cons_zero, List.set_cons_succ]
      refine wpAnyT_held (i := 7) (v := ?_) rfl (by kernel_rfl) (by kernel_rfl) (by kernel_rfl) (fun _ _ _ h => h) (by kernel_rfl) hT (fun _ => hS) (by kernel_rfl) ?_ ?_
      rotate_left
      · intro wx hSw; go_split_ands; go_simp; try with_reducible rfl
      simp only [Act.put, List.getElem_toArray, List.getElem_cons_succ, List.getElem_cons_zero, List.setIfInBounds_toArray, List.set_cons_zero, List.set_cons_succ]
      refine wpAnyT_held (i := 8) (v := ?_) rfl (by kernel_rfl) (by kernel_rfl) (by kernel_rfl) (fun _ _ _ h => h) (by kernel_rfl) hT (fun _ => hS) (by kernel_rfl) ?_ ?_
      rotate_left
      · intro wx hSw; go_split_ands; go_simp; try with_reducible rfl
      simp only [Act.put, List.getElem_toArray, List.getElem_cons_succ, List.getElem_cons_zero, List.setIfInBounds_toArray, List.set_cons_zero, List.set_cons_succ]
      refine wpAnyT_load (i := 9) (dst := some 37) (ty := 24) (x := .tmp 36) (b := w.heap.size) (o := (8)) (cs := BV) (by kernel_rfl) (by kernel_rfl) (by kernel_rfl) (by kernel_rfl) (by kernel_rfl) (fun _ _ _ h => h) (by kernel_rfl) hT (fun _ => hS) (by kernel_rfl) (fun _ h => h.2.1) uV rfl iB ?_
      simp only [Act.put, List.getElem_toArray, List.getElem_cons_succ, List.getElem_cons_zero, List.setIfInBounds_toArray, List.set_cons_zero, List.set_cons_succ]
      refine wpAnyT_load (i := 10) (dst := some 38) (ty := 24) (x := .tmp 5) (b := Bj) (o := (0)) (cs := JV) (by kernel_rfl) (by kernel_rfl) (by kernel_rfl) (by kernel_rfl) (by kernel_rfl) (fun _ _ _ h => h) (by kernel_rfl) hT (fun _ => hS) (by kernel_rfl) (fun _ h => h.2.2.2.1) uV rfl iJ ?_
      simp only [Act.put, List.getElem_toArray, List.getElem_cons_succ, List.getElem_cons_zero, List.setIfInBounds_toArray, List.set_cons_zero, List.set_cons_succ]
      refine wpAnyT_one (i := 11) rfl (by kernel_rfl) (by kernel_rfl) (fun K hK => ?_)
      refine wpx_call _ _ (by kernel_rfl) ((HBJ.out _).mono ?_)
      rintro x W3 ⟨rfl, hq⟩
      refine ⟨_, rfl, ?_⟩
      have hb3 : Below W0.heap.size W0 W3 := hb2.trans (hq.mono hb2.size)
      clear hq hb2
      replace hT : (fun w' : World => w'.rangeAt w.heap.size 0 AV ∧ w'.rangeAt w.heap.size 8 BV ∧ w'.rangeAt w.heap.size 16 CV ∧ w'.rangeAt Bj 0 JV ∧ w'.rangeAt (w.heap.size + 1) 0 DC) W3 := HT.out _ hb3
      replace hS : (fun _ : World => True) W3 := trivial
      refine hK.out _ _ hT (fun _ => hS) ?_
      clear hK K
      try simp only [Act.put, List.getElem_toArray, List.getElem_cons_succ, List.getElem_cons_zero, List.setIfInBounds_toArray, List.set_cons_zero, List.set_cons_succ]
      refine wpAnyT_held (i := 12) (v := ?_) rfl (by kernel_rfl) (by kernel_rfl) (by kernel_rfl) (fun _ _ _ h => h) (by kernel_rfl) hT (fun _ => hS) (by kernel_rfl) ?_ ?_
      rotate_left
      · intro wx hSw; go_split_ands; go_simp; try with_reducible rfl
      simp only [Act.put, List.getElem_toArray, List.getElem_cons_succ, List.getElem_cons_zero, List.setIfInBounds_toArray, List.set_cons_zero, List.set_cons_succ]
      refine wpAnyT_held (i := 13) (v := ?_) rfl (by kernel_rfl) (by kernel_rfl) (by kernel_rfl) (fun _ _ _ h => h) (by kernel_rfl) hT (fun _ => hS) (by kernel_rfl) ?_ ?_
      rotate_left
      · intro wx hSw; go_split_ands; go_simp; try with_reducible rfl
      simp only [Act.put, List.getElem_toArray, List.getElem_cons_succ, List.getElem_cons_zero, List.setIfInBounds_toArray, List.set_cons_zero, List.set_cons_succ]
      refine wpAnyT_load (i := 14) (dst := some 42) (ty := 24) (x := .tmp 5) (b := Bj) (o := (0)) (cs := JV) (by kernel_rfl) (by kernel_rfl) (by kernel_rfl) (by kernel_rfl) (by kernel_rfl) (fun _ _ _ h => h) (by kernel_rfl) hT (fun _ => hS) (by kernel_rfl) (fun _ h => h.2.2.2.1) uV rfl iJ ?_
      simp only [Act.put, List.getElem_toArray, List.getElem_cons_succ, List.getElem_cons_zero, List.setIfInBounds_toArray, List.set_cons_zero, List.set_cons_succ]
      refine wpAnyT_held (i := 15) (v := ?_) rfl (by kernel_rfl) (by kernel_rfl) (by kernel_rfl) (fun _ _ _ h => h) (by kernel_rfl) hT (fun _ => hS) (by kernel_rfl) ?_ ?_
      rotate_left
      · intro wx hSw; go_split_ands; go_simp; try with_reducible rfl
      simp only [Act.put, List.getElem_toArray, List.getElem_cons_succ, List.getElem_cons_zero, List.setIfInBounds_toArray, List.set_cons_zero, List.set_cons_succ]
      refine wpAnyT_load (i := 16) (dst := some 44) (ty := 24) (x := .tmp 43) (b := w.heap.size) (o := (8)) (cs := BV) (by kernel_rfl) (by kernel_rfl) (by kernel_rfl) (by kernel_rfl) (by kernel_rfl) (fun _ _ _ h => h) (by kernel_rfl) hT (fun _ => hS) (by kernel_rfl) (fun _ h => h.2.1) uV rfl iB ?_
      simp only [Act.put, List.getElem_toArray, List.getElem_cons_succ, List.getElem_cons_zero, List.setIfInBounds_toArray, List.set_cons_zero, List.set_cons_succ]
      refine wpAnyT_held (i := 17) (v := ?_) rfl (by kernel_rfl) (by kernel_rfl) (by kernel_rfl) (fun _ _ _ h => h) (by kernel_rfl) hT (fun _ => hS) (by kernel_rfl) ?_ ?_
      rotate_left
      · intro wx hSw; go_split_ands; go_simp; try with_reducible rfl
      simp only [Act.put, List.getElem_toArray, List.getElem_cons_succ, List.getElem_cons_zero, List.setIfInBounds_toArray, List.set_cons_zero, List.set_cons_succ]
      refine wpAnyT_load (i := 18) (dst := some 46) (ty := 24) (x := .tmp 45) (b := w.heap.size) (o := (0)) (cs := AV) (by kernel_rfl) (by kernel_rfl) (by kernel_rfl) (by kernel_rfl) (by kernel_rfl) (fun _ _ _ h => h) (by kernel_rfl) hT (fun _ => hS) (by kernel_rfl) (fun _ h => h.1) uV rfl iA ?_
      simp only [Act.put, List.getElem_toArray, List.getElem_cons_succ, List.getElem_cons_zero, List.setIfInBounds_toArray, List.set_cons_zero, List.set_cons_succ]
      refine wpAnyT_one (i := 19) rfl (by kernel_rfl) (by kernel_rfl) (fun K hK => ?_)
      refine wpx_call _ _ (by kernel_rfl) ((HJ2.out _).mono ?_)
      rintro x W4 ⟨rfl, hq⟩
      refine ⟨_, rfl, ?_⟩
      have hb4 : Below W0.heap.size W0 W4 := hb3.trans (hq.mono hb3.size)
      clear hq hb3
      replace hT : (fun w' : World => w'.rangeAt w.heap.size 0 AV ∧ w'.rangeAt w.heap.size 8 BV ∧ w'.rangeAt w.heap.size 16 CV ∧ w'.rangeAt Bj 0 JV ∧ w'.rangeAt (w.heap.size + 1) 0 DC) W4 := HT.out _ hb4
      replace hS : (fun _ : World => True) W4 := trivial
      refine hK.out _ _ hT (fun _ => hS) ?_
      clear hK K
      try simp only [Act.put, List.getElem_toArray, List.getElem_cons_succ, List.getElem_cons_zero, List.setIfInBounds_toArray, List.set_cons_zero, List.set_cons_succ]
      refine wpAnyT_held (i := 20) (v := .bool true) rfl (by kernel_rfl) (by kernel_rfl) (by kernel_rfl) (fun _ _ _ h => h) (by kernel_rfl) hT (fun _ => hS) (by kernel_rfl) ?_ ?_
      · intro wx hSw; go_split_ands; go_simp
      simp only [Act.put, List.getElem_toArray, List.getElem_cons_succ, List.getElem_cons_zero, List.setIfInBounds_toArray, List.set_cons_zero, List.set_cons_succ]
      refine wpAnyT_held (i := 21) (v := ?_) rfl (by kernel_rfl) (by kernel_rfl) (by kernel_rfl) (fun _ _ _ h => h) (by kernel_rfl) hT (fun _ => hS) (by kernel_rfl) ?_ ?_
      rotate_left
      · intro wx hSw; go_split_ands; go_simp; try with_reducible rfl
      simp only [Act.put, List.getElem_toArray, List.getElem_cons_succ, List.getElem_cons_zero, List.setIfInBounds_toArray, List.set_cons_zero, List.set_cons_succ]
      refine wpAnyT_held (i := 22) (v := ?_) rfl (by kernel_rfl) (by kernel_rfl) (by kernel_rfl) (fun _ _ _ h => h) (by kernel_rfl) hT (fun _ => hS) (by kernel_rfl) ?_ ?_
      rotate_left
      · intro wx hSw; go_split_ands; go_simp; try with_reducible rfl
      simp only [Act.put, List.getElem_toArray, List.getElem_cons_succ, List.getElem_cons_zero, List.setIfInBounds_toArray, List.set_cons_zero, List.set_cons_succ]
      refine wpAnyT_load (i := 23) (dst := some 51) (ty := 24) (x := .tmp 5) (b := Bj) (o := (0)) (cs := JV) (by kernel_rfl) (by kernel_rfl) (by kernel_rfl) (by kernel_rfl) (by kernel_rfl) (fun _ _ _ h => h) (by kernel_rfl) hT (fun _ => hS) (by kernel_rfl) (fun _ h => h.2.2.2.1) uV rfl iJ ?_
      simp only [Act.put, List.getElem_toArray, List.getElem_cons_succ, List.getElem_cons_zero, List.setIfInBounds_toArray, List.set_cons_zero, List.set_cons_succ]
      refine wpAnyT_load (i := 24) (dst := some 52) (ty := 26) (x := .tmp 3) (b := (w.heap.size + 1)) (o := (0)) (cs := DC) (by kernel_rfl) (by kernel_rfl) (by kernel_rfl) (by kernel_rfl) (by kernel_rfl) (fun _ _ _ h => h) (by kernel_rfl) hT (fun _ => hS) (by kernel_rfl) (fun _ h => h.2.2.2.2) uD rfl iD ?_
      simp only [Act.put, List.getElem_toArray, List.getElem_cons_succ, List.getElem_cons_zero, List.setIfInBounds_toArray, List.set_cons_zero, List.set_cons_succ]
      refine wpAnyT_held (i := 26) (v := ?_) rfl (by kernel_rfl) (by kernel_rfl) (by kernel_rfl) (fun _ _ _ h => h) (by kernel_rfl) hT (fun _ => hS) (by kernel_rfl) ?_ ?_
      rotate_left
      · intro wx hSw; go_split_ands; go_simp; try with_reducible rfl
      simp only [Act.put, List.getElem_toArray, List.getElem_cons_succ, List.getElem_cons_zero, List.setIfInBounds_toArray, List.set_cons_zero, List.set_cons_succ]
      refine wpAnyT_load (i := 27) (dst := some 55) (ty := 24) (x := .tmp 54) (b := w.heap.size) (o := (0)) (cs := AV) (by kernel_rfl) (by kernel_rfl) (by kernel_rfl) (by kernel_rfl) (by kernel_rfl) (fun _ _ _ h => h) (by kernel_rfl) hT (fun _ => hS) (by kernel_rfl) (fun _ h => h.1) uV rfl iA ?_
      simp only [Act.put, List.getElem_toArray, List.getElem_cons_succ, List.getElem_cons_zero, List.setIfInBounds_toArray, List.set_cons_zero, List.set_cons_succ]
      refine wpAnyT_load (i := 28) (dst := some 56) (ty := 26) (x := .tmp 3) (b := (w.heap.size + 1)) (o := (0)) (cs := DC) (by kernel_rfl) (by kernel_rfl) (by kernel_rfl) (by kernel_rfl) (by kernel_rfl) (fun _ _ _ h => h) (by kernel_rfl) hT (fun _ => hS) (by kernel_rfl) (fun _ h => h.2.2.2.2) uD rfl iD ?_
      simp only [Act.put, List.getElem_toArray, List.getElem_cons_succ, List.getElem_cons_zero, List.setIfInBounds_toArray, List.set_cons_zero, List.set_cons_succ]
      refine wpAnyT_one (i := 25) rfl (by kernel_rfl) (by kernel_rfl) (fun K hK => ?_)
      refine wpx_call _ _ (by kernel_rfl) ((HHJ.out _).mono ?_)
      rintro x W5 ⟨rfl, hq⟩
      refine ⟨_, rfl, ?_⟩
      have hb5 : Below W0.heap.size W0 W5 := hb4.trans (hq.mono hb4.size)
      clear hq hb4
      replace hT : (fun w' : World => w'.rangeAt w.heap.size 0 AV ∧ w'.rangeAt w.heap.size 8 BV ∧ w'.rangeAt w.heap.size 16 CV ∧ w'.rangeAt Bj 0 JV ∧ w'.rangeAt (w.heap.size + 1) 0 DC) W5 := HT.out _ hb5
      replace hS : (fun _ : World => True) W5 := trivial
      refine hK.out _ _ hT (fun _ => hS) ?_
      clear hK K
      try simp only [Act.put, List.getElem_toArray, List.getElem_cons_succ, List.getElem_cons_zero, List.setIfInBounds_toArray, List.set_cons_zero, List.set_cons_succ]
      refine wpAnyT_one (i := 29) rfl (by kernel_rfl) (by kernel_rfl) (fun K hK => ?_)
      refine wpx_call _ _ (by kernel_rfl) ((HHA.out _).mono ?_)
      rintro x W6 ⟨rfl, hq⟩
      refine ⟨_, rfl, ?_⟩
      have hb6 : Below W0.heap.size W0 W6 := hb5.trans (hq.mono hb5.size)
      clear hq hb5
      replace hT : (fun w' : World => w'.rangeAt w.heap.size 0 AV ∧ w'.rangeAt w.heap.size 8 BV ∧ w'.rangeAt w.heap.size 16 CV ∧ w'.rangeAt Bj 0 JV ∧ w'.rangeAt (w.heap.size + 1) 0 DC) W6 := HT.out _ hb6
      replace hS : (fun _ : World => True) W6 := trivial
      refine hK.out _ _ hT (fun _ => hS) ?_
      clear hK K
      try simp only [Act.put, List.getElem_toArray, List.getElem_cons_succ, List.getElem_cons_zero, List.setIfInBounds_toArray, List.set_cons_zero, List.set_cons_succ]
      refine wpAnyT_held (i := 30) (v := ?_) rfl (by kernel_rfl) (by kernel_rfl) (by kernel_rfl) (fun _ _ _ h => h) (by kernel_rfl) hT (fun _ => hS) (by kernel_rfl) ?_ ?_
      rotate_left
      · intro wx hSw; go_split_ands; go_simp; try with_reducible rfl
      simp only [Act.put, List.getElem_toArray, List.getElem_cons_succ, List.getElem_cons_zero, List.setIfInBounds_toArray, List.set_cons_zero, List.set_cons_succ]
      refine wpAnyT_skip (i := 31) rfl (by kernel_rfl) (by kernel_rfl) (by kernel_rfl) (fun _ _ _ h => h) (by kernel_rfl) hT (fun _ => hS) (by kernel_rfl) ?_
      simp only [Act.put, List.getElem_toArray, List.getElem_cons_succ, List.getElem_cons_zero, List.setIfInBounds_toArray, List.set_cons_zero, List.set_cons_succ]
      refine wpAnyT_skip (i := 32) rfl (by kernel_rfl) (by kernel_rfl) (by kernel_rfl) (fun _ _ _ h => h) (by kernel_rfl) hT (fun _ => hS) (by kernel_rfl) ?_
      simp only [Act.put, List.getElem_toArray, List.getElem_cons_succ, List.getElem_cons_zero, List.setIfInBounds_toArray, List.set_cons_zero, List.set_cons_succ]
      refine wpAnyT_skip (i := 33) rfl (by kernel_rfl) (by kernel_rfl) (by kernel_rfl) (fun _ _ _ h => h) (by kernel_rfl) hT (fun _ => hS) (by kernel_rfl) ?_
      simp only [Act.put, List.getElem_toArray, List.getElem_cons_succ, List.getElem_cons_zero, List.setIfInBounds_toArray, List.set_cons_zero, List.set_cons_succ]
      refine wpAnyT_skip (i := 34) rfl (by kernel_rfl) (by kernel_rfl) (by kernel_rfl) (fun _ _ _ h => h) (by kernel_rfl) hT (fun _ => hS) (by kernel_rfl) ?_
      simp only [Act.put, List.getElem_toArray, List.getElem_cons_succ, List.getElem_cons_zero, List.setIfInBounds_toArray, List.set_cons_zero, List.set_cons_succ]
      refine wpAnyT_held (i := 35) (v := ?_) rfl (by kernel_rfl) (by kernel_rfl) (by kernel_rfl) (fun _ _ _ h => h) (by kernel_rfl) hT (fun _ => hS) (by kernel_rfl) ?_ ?_
      rotate_left
      · intro wx hSw; go_split_ands; go_simp; try with_reducible rfl
      simp only [Act.put, List.getElem_toArray, List.getElem_cons_succ, List.getElem_cons_zero, List.setIfInBounds_toArray, List.set_cons_zero, List.set_cons_succ]
      refine wpAnyT_held (i := 36) (v := .bool true) rfl (by kernel_rfl) (by kernel_rfl) (by kernel_rfl) (fun _ _ _ h => h) (by kernel_rfl) hT (fun _ => hS) (by kernel_rfl) ?_ ?_
      · intro wx hSw; go_split_ands; go_simp
      simp only [Act.put, List.getElem_toArray, List.getElem_cons_succ, List.getElem_cons_zero, List.setIfInBounds_toArray, List.set_cons_zero, List.set_cons_succ]
      refine wpAnyT_held (i := 37) (v := ?_) rfl (by kernel_rfl) (by kernel_rfl) (by kernel_rfl) (fun _ _ _ h => h) (by kernel_rfl) hT (fun _ => hS) (by kernel_rfl) ?_ ?_
      rotate_left
      · intro wx hSw; go_split_ands; go_simp; try with_reducible rfl
      simp only [Act.put, List.getElem_toArray, List.getElem_cons_succ, List.getElem_cons_zero, List.setIfInBounds_toArray, List.set_cons_zero, List.set_cons_succ]
      refine wpAnyT_held (i := 38) (v := ?_) rfl (by kernel_rfl) (by kernel_rfl) (by kernel_rfl) (fun _ _ _ h => h) (by kernel_rfl) hT (fun _ => hS) (by kernel_rfl) ?_ ?_
      rotate_left
      · intro wx hSw; go_split_ands; go_simp; try with_reducible rfl
      simp only [Act.put, List.getElem_toArray, List.getElem_cons_succ, List.getElem_cons_zero, List.setIfInBounds_toArray, List.set_cons_zero, List.set_cons_succ]
      refine wpAnyT_done (by kernel_rfl) ?_ _
      clear hT hS
      go_wp2
      go_ret
      exact ⟨rfl, hB.trans (hb6.mono hB.size)⟩
end Go.Proofs.Ytmoabomoodddkaa
