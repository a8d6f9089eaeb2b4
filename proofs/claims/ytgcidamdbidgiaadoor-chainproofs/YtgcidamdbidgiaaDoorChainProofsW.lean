/- The statement ChainProofs, walked. -/
import Derived.Test.YtgcidamdbidgiaaDoorHz3
import Derived.Test.YtgcidamdbidgiaaDoorHl2
namespace Go.Proofs.YtgcidamdbidgiaaDoor
open Go.RowKit
set_option maxRecDepth 20000
set_option linter.unusedSimpArgs false

theorem headCnt (n : Int) (s : List Int) (w : World) : (Instr.field 40 (.agg (headC (n, s)).toArray) 0).run Tryd.prog w = .ok (.int .u32 n) w := by kernel_rfl
theorem proof_parts {W : World} {g o : Nat} {p : Pf} (h1 : p.2.2.1.length = 32) (r : W.rangeAt g o (proofC p)) : W.cell? ⟨g, o, none⟩ = some (.int .u8 p.1) ∧ W.cell? ⟨g, o + 1, none⟩ = some (.int .u32 p.2.1) ∧ W.rangeAt g (o + 2) (p.2.2.1.map (Value.int .u8)) ∧ W.rangeAt g (o + 34) (p.2.2.2.map (Value.int .u8)) := by
  refine ⟨r 0 _ rfl, r 1 _ rfl, fun i v hv => ?_, fun i v hv => ?_⟩
  · have hi := (List.getElem?_eq_some_iff.1 hv).1
    have := r (i + 2) v (by unfold proofC; simp only [List.cons_append, List.nil_append, List.getElem?_cons_succ]; rw [List.getElem?_append_left hi]; exact hv)
    rw [show o + (i + 2) = o + 2 + i by omega] at this
    exact this
  · have := r (i + 34) v (by unfold proofC; simp only [List.cons_append, List.nil_append, show i + 34 = (i + 32) + 1 + 1 by omega, List.getElem?_cons_succ]; rw [List.getElem?_append_right (by rw [List.length_map]; omega), List.length_map, h1, Nat.add_sub_cancel]; exact hv)
    rw [show o + (i + 34) = o + 34 + i by omega] at this
    exact this
set_option maxHeartbeats 32000000 in
theorem chainProofs_walk (x : Option Addr) (len cap : Nat) (ds : List Dc) (w : World) (hd : DeedsC w x len cap ds) (hKT : S.KTab w) :
    Calls Tryd.prog 7 #[.slice x len cap] w fun e w' => e = .returned (.bool true) ∧ Below w.heap.size w w' := by
  have hP := playC_any x len cap ds w hd hKT
  have HKT : Veil (∀ W, Below w.heap.size w W → S.KTab W) := ⟨fun W hb => hKT.below hb⟩
  clear hd hKT
  go_enter Tryd.func7, Tryd.ntmps7
  go_upto_region 2 with (go_at_call 11; refine hP.mono ?_; rintro e w1 ⟨H, b, R, rfl, ⟨v, us, vp, T, P, hB1⟩, hb1⟩)
  have hC1 := hB1.c
  have HG := Veil.mk hB1.good
  have HOK := Veil.mk (And.intro hC1.ok (And.intro hC1.okP hC1.lenP))
  have hlv := live_any w1 (HKT.out w1 hb1)
  have HP : Veil (∀ w2, Below w1.heap.size w1 w2 → Calls Tryd.prog 18 #[.pointer (some ⟨H, 0, none⟩)] w2 fun e w' => ∃ f, e = .returned f ∧ OwnI w' w2.heap.size 49 66 f (P.map proofC) ∧ Below w2.heap.size w2 w') := ⟨fun w2 hb => by
    refine (chProofs_any _ _ _ _ _ _ w2 (hC1.far hb)).mono ?_
    rintro e w' ⟨f, h1, h2, h3⟩
    exact ⟨f, h1, h2, h3⟩⟩
  have HH1 : Veil (∀ w2, Below w1.heap.size w1 w2 → Calls Tryd.prog 14 #[.pointer (some ⟨H, 0, none⟩)] w2 fun e w' => e = .returned (.agg (headsC (headsOf T)).toArray) ∧ Below w2.heap.size w2 w') := ⟨fun w2 hb => chHeads_any _ _ _ _ _ _ w2 (hC1.far hb)⟩
  clear hB1 hC1 hP
  go_upto_region 5 with (first
    | (go_at_call 12; refine hlv.mono ?_; rintro e w2 ⟨rfl, hb2⟩; have hp2 := HP.out w2 hb2; clear hlv)
    | (go_at_call 18; refine hp2.mono ?_; rintro e w3 ⟨f3, rfl, ho3, hb3⟩; clear hp2))
  have hb13 := hb2.trans (hb3.mono hb2.size)
  have HIX : Veil (∀ (a : Nat), a < 8 → ∀ wx, (Instr.index 41 (.agg (headsC (headsOf T)).toArray) (.int .u8 (a : Int))).run Tryd.prog wx = .ok (.agg (headC (headOf T a)).toArray) wx) := ⟨fun a ha wx => headIx HOK.out.1 a ha wx⟩
  obtain ⟨x3, c3, hf3⟩ := ho3.isSlice
  rw [List.length_map] at hf3
  obtain ⟨m, hm⟩ : ∃ q, P.length = q := ⟨_, rfl⟩
  rw [hm] at hf3
  subst hf3
  have hm32 : m ≤ 32 := by rw [← hm]; exact HOK.out.2.2
  have HM := Veil.mk hm
  clear hm
  obtain ⟨s3, hs3⟩ : ∃ q, w2.heap.size = q := ⟨_, rfl⟩
  rw [hs3] at ho3
  clear hs3
  generalize headsC (headsOf T) = HC at HH1 HIX
  refine forget (p := fun y => Code.wp _ _ _ _ y) (fun W => Below w1.heap.size w1 W ∧ OwnI W s3 49 66 (.slice x3 m c3) (P.map proofC)) ⟨hb13, ho3⟩ ?_
  clear hb13 ho3 hb2 hb3 HP
  clear w3 w2
  rintro W ⟨hbW, hoW⟩
  have uK : Tryd.prog.underlying 34 = _ := Tryd.underlying34
  have uP : Tryd.prog.underlying 49 = _ := Tryd.underlying49
  -- what is read of the proof at j
  have HAT : Veil (∀ W', OwnI W' s3 49 66 (.slice x3 m c3) (P.map proofC) → ∀ j (hj : j < P.length), ∃ g, x3 = some ⟨g, 0, none⟩ ∧ W'.rangeAt g (j * 66) (proofC P[j])) := ⟨fun W' ho j hj => by
    obtain ⟨g, h1, _, h3⟩ := ho.at_ j (by rw [List.length_map]; exact hj)
    rw [List.getElem_map] at h3
    exact ⟨g, h1, h3⟩⟩
  go_wp2
  go_loopw [7, 8] (fun q _ wr => ∃ j : Nat, j ≤ m ∧ q = .int .i64 j ∧ Below w1.heap.size w1 wr ∧ OwnI wr s3 49 66 (.slice x3 m c3) (P.map proofC)) (fun q _ _ => m - (intOf q).toNat)
  case atStart => exact ⟨0, Nat.zero_le _, rfl, hbW, hoW⟩
  case round =>
    clear hbW hoW
    obtain ⟨j, hj, rfl, hb, ho⟩ := hrel
    by_cases hjm : j < m
    · have hji : (j : Int) < (m : Int) := by omega
      have hj0 : (0 : Int) ≤ (j : Int) := by omega
      have hjP : j < P.length := by rw [HM.out]; exact hjm
      obtain ⟨g, hxg, hr⟩ := HAT.out wr ho j hjP
      subst hxg
      have hpk := HOK.out.2.1 P[j] (List.getElem_mem hjP)
      obtain ⟨a, n, e1, a8, e2, n1, nc, hne⟩ := HG.out.all P[j] (List.getElem_mem hjP)
      have HPT : Veil (∀ W', OwnI W' s3 49 66 (.slice (some ⟨g, 0, none⟩) m c3) (P.map proofC) → W'.cell? ⟨g, j * 66, none⟩ = some (.int .u8 (a : Int)) ∧ W'.cell? ⟨g, j * 66 + 1, none⟩ = some (.int .u32 (n : Int)) ∧ W'.rangeAt g (j * 66 + 2) (P[j].2.2.1.map (Value.int .u8)) ∧ W'.rangeAt g (j * 66 + 34) (P[j].2.2.2.map (Value.int .u8)) ∧ W'.rangeAt g (j * 66) (proofC P[j])) := ⟨fun W' ho' => by
        obtain ⟨g', hx', hr'⟩ := HAT.out W' ho' j hjP
        cases hx'
        obtain ⟨q1, q2, q3, q4⟩ := proof_parts hpk.2.2.1.1 hr'
        rw [e1] at q1
        rw [e2] at q2
        exact ⟨q1, q2, q3, q4, hr'⟩⟩
      have heq : ∀ wx, (binOp .eql 34 (.agg (P[j].2.2.1.map (Value.int .u8)).toArray) (.agg (P[j].2.2.2.map (Value.int .u8)).toArray)).run Tryd.prog wx = .ok (.bool false) wx := fun wx => by
        have := eqlKey P[j].2.2.1 P[j].2.2.2 hpk.2.2.1 hpk.2.2.2 wx
        rw [show decide (P[j].2.2.1 = P[j].2.2.2) = false by simpa using hne] at this
        exact this
      have iA : (Tryd.prog.info? 34).map (·.size) = some (P[j].2.2.1.map (Value.int .u8)).length := by rw [List.length_map, hpk.2.2.1.1]; exact sizeKeyH
      have iB : (Tryd.prog.info? 34).map (·.size) = some (P[j].2.2.2.map (Value.int .u8)).length := by rw [List.length_map, hpk.2.2.2.1]; exact sizeKeyH
      have HPL : Veil ((proofC P[j]).length = 66) := ⟨proofC_len _ hpk.2.2.1.1 hpk.2.2.2.1⟩
      have HEQJ : Veil (∀ k (hk : k < j) wx, (binOp .eql 49 (.agg (proofC (P[k]'(by omega))).toArray) (.agg (proofC P[j]).toArray)).run Tryd.prog wx = .ok (.bool false) wx) := ⟨fun k hk wx => by
        have := eqlProof (P[k]'(by omega)) P[j] (HOK.out.2.1 _ (List.getElem_mem _)) hpk wx
        rw [show decide ((P[k]'(by omega)) = P[j]) = false by
          have hnd := List.pairwise_iff_getElem.1 HG.out.once k j (by omega) hjP hk
          simpa using hnd] at this
        exact this⟩
      have hix := HIX.out a a8
      have hfd := fun wx => headCnt (cnt T a : Int) (atN T a (cnt T a)) wx
      have hH : headOf T a = ((cnt T a : Int), atN T a (cnt T a)) := rfl
      rw [hH] at hix
      obtain ⟨HA, hHA⟩ : ∃ q, headC ((cnt T a : Int), atN T a (cnt T a)) = q := ⟨_, rfl⟩
      rw [hHA] at hix hfd
      clear hHA hH
      have HIXa := Veil.mk hix
      have HFDa := Veil.mk hfd
      clear hix hfd
      obtain ⟨C, hC⟩ : ∃ q, cnt T a = q := ⟨_, rfl⟩
      rw [hC] at nc HFDa
      clear hC
      have ha0 : (0 : Int) ≤ (a : Int) := by omega
      have ha7 : ¬ (a : Int) > 7 := by omega
      have hn0 : ((n : Int) == 0) = false := by simp; omega
      have hnc : ¬ (n : Int) > (C : Int) := by omega
      generalize P[j].2.2.1.map (Value.int .u8) = AV at HPT heq iA
      generalize P[j].2.2.2.map (Value.int .u8) = BV at HPT heq iB
      have HPJ : Veil (∀ W', OwnI W' s3 49 66 (.slice (some ⟨g, 0, none⟩) m c3) (P.map proofC) → W'.rangeAt g (j * 66) (proofC P[j])) := ⟨fun W' h => (HPT.out W' h).2.2.2.2⟩
      clear hr hpk e1 e2 hne
      go_upto_region 8 with fail
      refine wp_region_gateT (fun w' => w'.cell? ⟨g, j * 66, none⟩ = some (.int .u8 (a : Int)) ∧ w'.cell? ⟨g, j * 66 + 1, none⟩ = some (.int .u32 (n : Int)) ∧ w'.rangeAt g (j * 66 + 2) AV ∧ w'.rangeAt g (j * 66 + 34) BV) (fun _ => True) 99 (by kernel_rfl) ?_
      have HT2 : ∀ W', OwnI W' s3 49 66 (.slice (some ⟨g, 0, none⟩) m c3) (P.map proofC) → (fun w' : World => w'.cell? ⟨g, j * 66, none⟩ = some (.int .u8 (a : Int)) ∧ w'.cell? ⟨g, j * 66 + 1, none⟩ = some (.int .u32 (n : Int)) ∧ w'.rangeAt g (j * 66 + 2) AV ∧ w'.rangeAt g (j * 66 + 34) BV) W' := fun W' h => by
        obtain ⟨h1, h2, h3, h4, _⟩ := HPT.out W' h
        exact ⟨h1, h2, h3, h4⟩
      have ho1 := ho.congr (w' := wr.drew) fun _ _ => rfl
      have hT := HT2 wr.drew ho1
      have hS := trivial
      have hhd := HH1.out wr.drew hb.drew
      refine wpAnyT_held (i := 0) (v := ?_) rfl (by kernel_rfl) (by kernel_rfl) (by kernel_rfl) (fun _ _ _ h => h) (by kernel_rfl) hT (fun _ => hS) (by kernel_rfl) ?_ ?_
      rotate_left
      · intro wx hSw; go_split_ands; go_simp; try with_reducible rfl
      simp only [Act.put, List.getElem_toArray, List.getElem_cons_succ, List.getElem_cons_zero, List.setIfInBounds_toArray, List.set_cons_zero, List.set_cons_succ]
      refine wpAnyT_held (i := 1) (v := ?_) rfl (by kernel_rfl) (by kernel_rfl) (by kernel_rfl) (fun _ _ _ h => h) (by kernel_rfl) hT (fun _ => hS) (by kernel_rfl) ?_ ?_
      rotate_left
      · intro wx hSw; go_split_ands; go_simp; try with_reducible rfl
      simp only [Act.put, List.getElem_toArray, List.getElem_cons_succ, List.getElem_cons_zero, List.setIfInBounds_toArray, List.set_cons_zero, List.set_cons_succ]
      refine wpAnyT_held (i := 2) (v := ?_) rfl (by kernel_rfl) (by kernel_rfl) (by kernel_rfl) (fun _ _ _ h => h) (by kernel_rfl) hT (fun _ => hS) (by kernel_rfl) ?_ ?_
      rotate_left
      · intro wx hSw; go_split_ands; go_simp; try with_reducible rfl
      simp only [Act.put, List.getElem_toArray, List.getElem_cons_succ, List.getElem_cons_zero, List.setIfInBounds_toArray, List.set_cons_zero, List.set_cons_succ]
      refine wpAnyT_held (i := 3) (v := ?_) rfl (by kernel_rfl) (by kernel_rfl) (by kernel_rfl) (fun _ _ _ h => h) (by kernel_rfl) hT (fun _ => hS) (by kernel_rfl) ?_ ?_
      rotate_left
      · intro wx hSw; go_split_ands; go_simp; try with_reducible rfl
      simp only [Act.put, List.getElem_toArray, List.getElem_cons_succ, List.getElem_cons_zero, List.setIfInBounds_toArray, List.set_cons_zero, List.set_cons_succ]
      refine wpAnyT_load (i := 4) (dst := some 33) (ty := 34) (x := .tmp 32) (b := g) (o := ((j * 66 + 2))) (cs := AV) (by kernel_rfl) (by kernel_rfl) (by kernel_rfl) (by kernel_rfl) (by kernel_rfl) (fun _ _ _ h => h) (by kernel_rfl) hT (fun _ => hS) (by kernel_rfl) (fun _ h => h.2.2.1) uK rfl iA ?_
      simp only [Act.put, List.getElem_toArray, List.getElem_cons_succ, List.getElem_cons_zero, List.setIfInBounds_toArray, List.set_cons_zero, List.set_cons_succ]
      refine wpAnyT_held (i := 5) (v := ?_) rfl (by kernel_rfl) (by kernel_rfl) (by kernel_rfl) (fun _ _ _ h => h) (by kernel_rfl) hT (fun _ => hS) (by kernel_rfl) ?_ ?_
      rotate_left
      · intro wx hSw; go_split_ands; go_simp; try with_reducible rfl
      simp only [Act.put, List.getElem_toArray, List.getElem_cons_succ, List.getElem_cons_zero, List.setIfInBounds_toArray, List.set_cons_zero, List.set_cons_succ]
      refine wpAnyT_held (i := 6) (v := ?_) rfl (by kernel_rfl) (by kernel_rfl) (by kernel_rfl) (fun _ _ _ h => h) (by kernel_rfl) hT (fun _ => hS) (by kernel_rfl) ?_ ?_
      rotate_left
      · intro wx hSw; go_split_ands; go_simp; try with_reducible rfl
      simp only [Act.put, List.getElem_toArray, List.getElem_cons_succ, List.getElem_cons_zero, List.setIfInBounds_toArray, List.set_cons_zero, List.set_cons_succ]
      refine wpAnyT_held (i := 7) (v := ?_) rfl (by kernel_rfl) (by kernel_rfl) (by kernel_rfl) (fun _ _ _ h => h) (by kernel_rfl) hT (fun _ => hS) (by kernel_rfl) ?_ ?_
      rotate_left
      · intro wx hSw; go_split_ands; go_simp; try with_reducible rfl
      simp only [Act.put, List.getElem_toArray, List.getElem_cons_succ, List.getElem_cons_zero, List.setIfInBounds_toArray, List.set_cons_zero, List.set_cons_succ]
      refine wpAnyT_held (i := 8) (v := ?_) rfl (by kernel_rfl) (by kernel_rfl) (by kernel_rfl) (fun _ _ _ h => h) (by kernel_rfl) hT (fun _ => hS) (by kernel_rfl) ?_ ?_
      rotate_left
      · intro wx hSw; go_split_ands; go_simp; try with_reducible rfl
      simp only [Act.put, List.getElem_toArray, List.getElem_cons_succ, List.getElem_cons_zero, List.setIfInBounds_toArray, List.set_cons_zero, List.set_cons_succ]
      refine wpAnyT_load (i := 9) (dst := some 38) (ty := 34) (x := .tmp 37) (b := g) (o := ((j * 66 + 34))) (cs := BV) (by kernel_rfl) (by kernel_rfl) (by kernel_rfl) (by kernel_rfl) (by kernel_rfl) (fun _ _ _ h => h) (by kernel_rfl) hT (fun _ => hS) (by kernel_rfl) (fun _ h => h.2.2.2) uK rfl iB ?_
      simp only [Act.put, List.getElem_toArray, List.getElem_cons_succ, List.getElem_cons_zero, List.setIfInBounds_toArray, List.set_cons_zero, List.set_cons_succ]
      refine wpAnyT_held (i := 10) (v := .bool false) rfl (by kernel_rfl) (by kernel_rfl) (by kernel_rfl) (fun _ _ _ h => h) (by kernel_rfl) hT (fun _ => hS) (by kernel_rfl) ?_ ?_
      · intro wx hSw; go_split_ands; go_simp
      simp only [Act.put, List.getElem_toArray, List.getElem_cons_succ, List.getElem_cons_zero, List.setIfInBounds_toArray, List.set_cons_zero, List.set_cons_succ]
      refine wpAnyT_held (i := 11) (v := ?_) rfl (by kernel_rfl) (by kernel_rfl) (by kernel_rfl) (fun _ _ _ h => h) (by kernel_rfl) hT (fun _ => hS) (by kernel_rfl) ?_ ?_
      rotate_left
      · intro wx hSw; go_split_ands; go_simp; try with_reducible rfl
      simp only [Act.put, List.getElem_toArray, List.getElem_cons_succ, List.getElem_cons_zero, List.setIfInBounds_toArray, List.set_cons_zero, List.set_cons_succ]
      refine wpAnyT_held (i := 12) (v := ?_) rfl (by kernel_rfl) (by kernel_rfl) (by kernel_rfl) (fun _ _ _ h => h) (by kernel_rfl) hT (fun _ => hS) (by kernel_rfl) ?_ ?_
      rotate_left
      · intro wx hSw; go_split_ands; go_simp; try with_reducible rfl
      simp only [Act.put, List.getElem_toArray, List.getElem_cons_succ, List.getElem_cons_zero, List.setIfInBounds_toArray, List.set_cons_zero, List.set_cons_succ]
      refine wpAnyT_held (i := 13) (v := ?_) rfl (by kernel_rfl) (by kernel_rfl) (by kernel_rfl) (fun _ _ _ h => h) (by kernel_rfl) hT (fun _ => hS) (by kernel_rfl) ?_ ?_
      rotate_left
      · intro wx hSw; go_split_ands; go_simp; try with_reducible rfl
      simp only [Act.put, List.getElem_toArray, List.getElem_cons_succ, List.getElem_cons_zero, List.setIfInBounds_toArray, List.set_cons_zero, List.set_cons_succ]
      refine wpAnyT_held (i := 14) (v := ?_) rfl (by kernel_rfl) (by kernel_rfl) (by kernel_rfl) (fun _ _ _ h => h) (by kernel_rfl) hT (fun _ => hS) (by kernel_rfl) ?_ ?_
      rotate_left
      · intro wx hSw; go_split_ands; go_simp; try with_reducible rfl
      simp only [Act.put, List.getElem_toArray, List.getElem_cons_succ, List.getElem_cons_zero, List.setIfInBounds_toArray, List.set_cons_zero, List.set_cons_succ]
      refine wpAnyT_held (i := 15) (v := ?_) rfl (by kernel_rfl) (by kernel_rfl) (by kernel_rfl) (fun _ _ _ h => h) (by kernel_rfl) hT (fun _ => hS) (by kernel_rfl) ?_ ?_
      rotate_left
      · intro wx hSw; go_split_ands; go_simp; try with_reducible rfl
      simp only [Act.put, List.getElem_toArray, List.getElem_cons_succ, List.getElem_cons_zero, List.setIfInBounds_toArray, List.set_cons_zero, List.set_cons_succ]
      refine wpAnyT_held (i := 16) (v := ?_) rfl (by kernel_rfl) (by kernel_rfl) (by kernel_rfl) (fun _ _ _ h => h) (by kernel_rfl) hT (fun _ => hS) (by kernel_rfl) ?_ ?_
      rotate_left
      · intro wx hSw; go_split_ands; go_simp; try with_reducible rfl
      simp only [Act.put, List.getElem_toArray, List.getElem_cons_succ, List.getElem_cons_zero, List.setIfInBounds_toArray, List.set_cons_zero, List.set_cons_succ]
      refine wpAnyT_held (i := 17) (v := .bool false) rfl (by kernel_rfl) (by kernel_rfl) (by kernel_rfl) (fun _ _ _ h => h) (by kernel_rfl) hT (fun _ => hS) (by kernel_rfl) ?_ ?_
      · intro wx hSw; go_split_ands; go_simp
      simp only [Act.put, List.getElem_toArray, List.getElem_cons_succ, List.getElem_cons_zero, List.setIfInBounds_toArray, List.set_cons_zero, List.set_cons_succ]
      refine wpAnyT_held (i := 18) (v := .bool false) rfl (by kernel_rfl) (by kernel_rfl) (by kernel_rfl) (fun _ _ _ h => h) (by kernel_rfl) hT (fun _ => hS) (by kernel_rfl) ?_ ?_
      · intro wx hSw; go_split_ands; go_simp
      simp only [Act.put, List.getElem_toArray, List.getElem_cons_succ, List.getElem_cons_zero, List.setIfInBounds_toArray, List.set_cons_zero, List.set_cons_succ]
      refine wpAnyT_held (i := 19) (v := ?_) rfl (by kernel_rfl) (by kernel_rfl) (by kernel_rfl) (fun _ _ _ h => h) (by kernel_rfl) hT (fun _ => hS) (by kernel_rfl) ?_ ?_
      rotate_left
      · intro wx hSw; go_split_ands; go_simp; try with_reducible rfl
      simp only [Act.put, List.getElem_toArray, List.getElem_cons_succ, List.getElem_cons_zero, List.setIfInBounds_toArray, List.set_cons_zero, List.set_cons_succ]
      refine wpAnyT_held (i := 20) (v := ?_) rfl (by kernel_rfl) (by kernel_rfl) (by kernel_rfl) (fun _ _ _ h => h) (by kernel_rfl) hT (fun _ => hS) (by kernel_rfl) ?_ ?_
      rotate_left
      · intro wx hSw; go_split_ands; go_simp; try with_reducible rfl
      simp only [Act.put, List.getElem_toArray, List.getElem_cons_succ, List.getElem_cons_zero, List.setIfInBounds_toArray, List.set_cons_zero, List.set_cons_succ]
      refine wpAnyT_held (i := 21) (v := ?_) rfl (by kernel_rfl) (by kernel_rfl) (by kernel_rfl) (fun _ _ _ h => h) (by kernel_rfl) hT (fun _ => hS) (by kernel_rfl) ?_ ?_
      rotate_left
      · intro wx hSw; go_split_ands; go_simp; try with_reducible rfl
      simp only [Act.put, List.getElem_toArray, List.getElem_cons_succ, List.getElem_cons_zero, List.setIfInBounds_toArray, List.set_cons_zero, List.set_cons_succ]
      refine wpAnyT_held (i := 22) (v := ?_) rfl (by kernel_rfl) (by kernel_rfl) (by kernel_rfl) (fun _ _ _ h => h) (by kernel_rfl) hT (fun _ => hS) (by kernel_rfl) ?_ ?_
      rotate_left
      · intro wx hSw; go_split_ands; go_simp; try with_reducible rfl
      simp only [Act.put, List.getElem_toArray, List.getElem_cons_succ, List.getElem_cons_zero, List.setIfInBounds_toArray, List.set_cons_zero, List.set_cons_succ]
      refine wpAnyT_held (i := 23) (v := ?_) rfl (by kernel_rfl) (by kernel_rfl) (by kernel_rfl) (fun _ _ _ h => h) (by kernel_rfl) hT (fun _ => hS) (by kernel_rfl) ?_ ?_
      rotate_left
      · intro wx hSw; go_split_ands; go_simp; try with_reducible rfl
      simp only [Act.put, List.getElem_toArray, List.getElem_cons_succ, List.getElem_cons_zero, List.setIfInBounds_toArray, List.set_cons_zero, List.set_cons_succ]
      refine wpAnyT_held (i := 24) (v := ?_) rfl (by kernel_rfl) (by kernel_rfl) (by kernel_rfl) (fun _ _ _ h => h) (by kernel_rfl) hT (fun _ => hS) (by kernel_rfl) ?_ ?_
      rotate_left
      · intro wx hSw; go_split_ands; go_simp; try with_reducible rfl
      simp only [Act.put, List.getElem_toArray, List.getElem_cons_succ, List.getElem_cons_zero, List.setIfInBounds_toArray, List.set_cons_zero, List.set_cons_succ]
      refine wpAnyT_held (i := 25) (v := .bool false) rfl (by kernel_rfl) (by kernel_rfl) (by kernel_rfl) (fun _ _ _ h => h) (by kernel_rfl) hT (fun _ => hS) (by kernel_rfl) ?_ ?_
      · intro wx hSw; go_split_ands; go_simp
      simp only [Act.put, List.getElem_toArray, List.getElem_cons_succ, List.getElem_cons_zero, List.setIfInBounds_toArray, List.set_cons_zero, List.set_cons_succ]
      refine wpAnyT_held (i := 26) (v := .bool false) rfl (by kernel_rfl) (by kernel_rfl) (by kernel_rfl) (fun _ _ _ h => h) (by kernel_rfl) hT (fun _ => hS) (by kernel_rfl) ?_ ?_
      · intro wx hSw; go_split_ands; go_simp
      simp only [Act.put, List.getElem_toArray, List.getElem_cons_succ, List.getElem_cons_zero, List.setIfInBounds_toArray, List.set_cons_zero, List.set_cons_succ]
      refine wpAnyT_held (i := 27) (v := ?_) rfl (by kernel_rfl) (by kernel_rfl) (by kernel_rfl) (fun _ _ _ h => h) (by kernel_rfl) hT (fun _ => hS) (by kernel_rfl) ?_ ?_
      rotate_left
      · intro wx hSw; go_split_ands; go_simp; try with_reducible rfl
      simp only [Act.put, List.getElem_toArray, List.getElem_cons_succ, List.getElem_cons_zero, List.setIfInBounds_toArray, List.set_cons_zero, List.set_cons_succ]
      refine wpAnyT_held (i := 28) (v := ?_) rfl (by kernel_rfl) (by kernel_rfl) (by kernel_rfl) (fun _ _ _ h => h) (by kernel_rfl) hT (fun _ => hS) (by kernel_rfl) ?_ ?_
      rotate_left
      · intro wx hSw; go_split_ands; go_simp; try with_reducible rfl
      simp only [Act.put, List.getElem_toArray, List.getElem_cons_succ, List.getElem_cons_zero, List.setIfInBounds_toArray, List.set_cons_zero, List.set_cons_succ]
      refine wpAnyT_held (i := 29) (v := ?_) rfl (by kernel_rfl) (by kernel_rfl) (by kernel_rfl) (fun _ _ _ h => h) (by kernel_rfl) hT (fun _ => hS) (by kernel_rfl) ?_ ?_
      rotate_left
      · intro wx hSw; go_split_ands; go_simp; try with_reducible rfl
      simp only [Act.put, List.getElem_toArray, List.getElem_cons_succ, List.getElem_cons_zero, List.setIfInBounds_toArray, List.set_cons_zero, List.set_cons_succ]
      refine wpAnyT_held (i := 30) (v := ?_) rfl (by kernel_rfl) (by kernel_rfl) (by kernel_rfl) (fun _ _ _ h => h) (by kernel_rfl) hT (fun _ => hS) (by kernel_rfl) ?_ ?_
      rotate_left
      · intro wx hSw; go_split_ands; go_simp; try with_reducible rfl
      simp only [Act.put, List.getElem_toArray, List.getElem_cons_succ, List.getElem_cons_zero, List.setIfInBounds_toArray, List.set_cons_zero, List.set_cons_succ]
      refine wpAnyT_held (i := 31) (v := ?_) rfl (by kernel_rfl) (by kernel_rfl) (by kernel_rfl) (fun _ _ _ h => h) (by kernel_rfl) hT (fun _ => hS) (by kernel_rfl) ?_ ?_
      rotate_left
      · intro wx hSw; go_split_ands; go_simp; try with_reducible rfl
      simp only [Act.put, List.getElem_toArray, List.getElem_cons_succ, List.getElem_cons_zero, List.setIfInBounds_toArray, List.set_cons_zero, List.set_cons_succ]
      refine wpAnyT_held (i := 32) (v := ?_) rfl (by kernel_rfl) (by kernel_rfl) (by kernel_rfl) (fun _ _ _ h => h) (by kernel_rfl) hT (fun _ => hS) (by kernel_rfl) ?_ ?_
      rotate_left
      · intro wx hSw; go_split_ands; go_simp; try with_reducible rfl
      simp only [Act.put, List.getElem_toArray, List.getElem_cons_succ, List.getElem_cons_zero, List.setIfInBounds_toArray, List.set_cons_zero, List.set_cons_succ]
      refine wpAnyT_held (i := 33) (v := ?_) rfl (by kernel_rfl) (by kernel_rfl) (by kernel_rfl) (fun _ _ _ h => h) (by kernel_rfl) hT (fun _ => hS) (by kernel_rfl) ?_ ?_
      rotate_left
      · intro wx hSw; go_split_ands; go_simp; try with_reducible rfl
      simp only [Act.put, List.getElem_toArray, List.getElem_cons_succ, List.getElem_cons_zero, List.setIfInBounds_toArray, List.set_cons_zero, List.set_cons_succ]
      refine wpAnyT_held (i := 35) (v := ?_) rfl (by kernel_rfl) (by kernel_rfl) (by kernel_rfl) (fun _ _ _ h => h) (by kernel_rfl) hT (fun _ => hS) (by kernel_rfl) ?_ ?_
      rotate_left
      · intro wx hSw; go_split_ands; go_simp; try with_reducible rfl
      simp only [Act.put, List.getElem_toArray, List.getElem_cons_succ, List.getElem_cons_zero, List.setIfInBounds_toArray, List.set_cons_zero, List.set_cons_succ]
      refine wpAnyT_held (i := 36) (v := ?_) rfl (by kernel_rfl) (by kernel_rfl) (by kernel_rfl) (fun _ _ _ h => h) (by kernel_rfl) hT (fun _ => hS) (by kernel_rfl) ?_ ?_
      rotate_left
      · intro wx hSw; go_split_ands; go_simp; try with_reducible rfl
      simp only [Act.put, List.getElem_toArray, List.getElem_cons_succ, List.getElem_cons_zero, List.setIfInBounds_toArray, List.set_cons_zero, List.set_cons_succ]
      refine wpAnyT_held (i := 37) (v := ?_) rfl (by kernel_rfl) (by kernel_rfl) (by kernel_rfl) (fun _ _ _ h => h) (by kernel_rfl) hT (fun _ => hS) (by kernel_rfl) ?_ ?_
      rotate_left
      · intro wx hSw; go_split_ands; go_simp; try with_reducible rfl
      simp only [Act.put, List.getElem_toArray, List.getElem_cons_succ, List.getElem_cons_zero, List.setIfInBounds_toArray, List.set_cons_zero, List.set_cons_succ]
      refine wpAnyT_held (i := 38) (v := ?_) rfl (by kernel_rfl) (by kernel_rfl) (by kernel_rfl) (fun _ _ _ h => h) (by kernel_rfl) hT (fun _ => hS) (by kernel_rfl) ?_ ?_
      rotate_left
      · intro wx hSw; go_split_ands; go_simp; try with_reducible rfl
      simp only [Act.put, List.getElem_toArray, List.getElem_cons_succ, List.getElem_cons_zero, List.setIfInBounds_toArray, List.set_cons_zero, List.set_cons_succ]
      refine wpAnyT_held (i := 39) (v := ?_) rfl (by kernel_rfl) (by kernel_rfl) (by kernel_rfl) (fun _ _ _ h => h) (by kernel_rfl) hT (fun _ => hS) (by kernel_rfl) ?_ ?_
      rotate_left
      · intro wx hSw; go_split_ands; go_simp; try with_reducible rfl
      simp only [Act.put, List.getElem_toArray, List.getElem_cons_succ, List.getElem_cons_zero, List.setIfInBounds_toArray, List.set_cons_zero, List.set_cons_succ]
      refine wpAnyT_one (i := 34) rfl (by kernel_rfl) (by kernel_rfl) (fun K hK => ?_)
      refine wpx_call _ _ (by kernel_rfl) (hhd.mono ?_)
      rintro e w4 ⟨rfl, hb4⟩
      refine ⟨_, rfl, ?_⟩
      have ho4 := ho1.far hb4
      replace hT := HT2 w4 ho4
      have hB4 := hb.drew.trans (hb4.mono hb.drew.size)
      refine hK.out _ _ hT (fun _ => hS) ?_
      clear hK K
      try simp only [Act.put, List.getElem_toArray, List.getElem_cons_succ, List.getElem_cons_zero, List.setIfInBounds_toArray, List.set_cons_zero, List.set_cons_succ]
      refine wpAnyT_held (i := 40) (v := .agg HA.toArray) rfl (by kernel_rfl) (by kernel_rfl) (by kernel_rfl) (fun _ _ _ h => h) (by kernel_rfl) hT (fun _ => hS) (by kernel_rfl) (fun wx h => exec_ixH rfl rfl rfl (HIXa.out wx)) ?_
      simp only [Act.put, List.getElem_toArray, List.getElem_cons_succ, List.getElem_cons_zero, List.setIfInBounds_toArray, List.set_cons_zero, List.set_cons_succ]
      refine wpAnyT_held (i := 41) (v := .int .u32 (C : Int)) rfl (by kernel_rfl) (by kernel_rfl) (by kernel_rfl) (fun _ _ _ h => h) (by kernel_rfl) hT (fun _ => hS) (by kernel_rfl) (fun wx h => exec_fdH rfl rfl (HFDa.out wx)) ?_
      simp only [Act.put, List.getElem_toArray, List.getElem_cons_succ, List.getElem_cons_zero, List.setIfInBounds_toArray, List.set_cons_zero, List.set_cons_succ]
      refine wpAnyT_held (i := 42) (v := .bool false) rfl (by kernel_rfl) (by kernel_rfl) (by kernel_rfl) (fun _ _ _ h => h) (by kernel_rfl) hT (fun _ => hS) (by kernel_rfl) ?_ ?_
      · intro wx hSw; go_split_ands; go_simp
      simp only [Act.put, List.getElem_toArray, List.getElem_cons_succ, List.getElem_cons_zero, List.setIfInBounds_toArray, List.set_cons_zero, List.set_cons_succ]
      refine wpAnyT_held (i := 43) (v := .bool false) rfl (by kernel_rfl) (by kernel_rfl) (by kernel_rfl) (fun _ _ _ h => h) (by kernel_rfl) hT (fun _ => hS) (by kernel_rfl) ?_ ?_
      · intro wx hSw; go_split_ands; go_simp
      simp only [Act.put, List.getElem_toArray, List.getElem_cons_succ, List.getElem_cons_zero, List.setIfInBounds_toArray, List.set_cons_zero, List.set_cons_succ]
      refine wpAnyT_done (by kernel_rfl) ?_ _
      refine forget (p := fun y => Exit.then _ _ _ _ y) (fun W => Below w1.heap.size w1 W ∧ OwnI W s3 49 66 (.slice (some ⟨g, 0, none⟩) m c3) (P.map proofC)) ⟨hB4, ho4⟩ ?_
      clear hT hB4 ho4 hb4 hhd ho1 HT2 HPT heq iA iB HIXa HFDa hn0 hnc ha7 ha0 nc ho hb
      clear w4
      rintro W4 ⟨hb, ho⟩
      go_wp2
      go_loopw [8] (fun q wr => ∃ k : Nat, k ≤ j ∧ q = .int .i64 k ∧ Below w1.heap.size w1 wr ∧ OwnI wr s3 49 66 (.slice (some ⟨g, 0, none⟩) m c3) (P.map proofC)) (fun q _ => j - (intOf q).toNat)
      case atStart => exact ⟨0, Nat.zero_le _, rfl, hb, ho⟩
      case round =>
        clear hb ho
        obtain ⟨k, hk, rfl, hb, ho⟩ := hrel
        by_cases hkj : k < j
        · have hki : (k : Int) < (j : Int) := by omega
          have hk0 : (0 : Int) ≤ (k : Int) := by omega
          have hkm : (k : Int) < (m : Int) := by omega
          have hkP : k < P.length := by omega
          have HRK : Veil (∀ W', OwnI W' s3 49 66 (.slice (some ⟨g, 0, none⟩) m c3) (P.map proofC) → W'.rangeAt g (k * 66) (proofC P[k])) := ⟨fun W' ho' => by
            obtain ⟨g', hx', hr'⟩ := HAT.out W' ho' k hkP
            cases hx'
            exact hr'⟩
          have heq := HEQJ.out k hkj
          have hpkk := HOK.out.2.1 P[k] (List.getElem_mem hkP)
          have iPk : (Tryd.prog.info? 49).map (·.size) = some (proofC P[k]).length := by rw [proofC_len _ hpkk.2.2.1.1 hpkk.2.2.2.1]; exact sizeProof
          have iPj : (Tryd.prog.info? 49).map (·.size) = some (proofC P[j]).length := by rw [HPL.out]; exact sizeProof
          have hrk := HRK.out wr ho
          have hrj := HPJ.out wr ho
          generalize proofC P[k] = PK at heq iPk hrk
          generalize proofC P[j] = PJ at heq iPj hrj
          clear hpkk HRK
          have hw1 : IntKind.i64.wrap ((k : Int) + 1) = (k : Int) + 1 := by rw [IntKind.wrap_i64]; omega
          go_upto_region 13 with fail
          refine wp_region_gateT (fun w' => w'.rangeAt g (k * 66) PK ∧ w'.rangeAt g (j * 66) PJ) (fun _ => True) 99 (by kernel_rfl) ?_
          have hT : (fun w' : World => w'.rangeAt g (k * 66) PK ∧ w'.rangeAt g (j * 66) PJ) wr.drew := ⟨hrk, hrj⟩
          refine wpAnyT_held (i := 0) (v := ?_) rfl (by kernel_rfl) (by kernel_rfl) (by kernel_rfl) (fun _ _ _ h => h) (by kernel_rfl) hT (fun _ => hS) (by kernel_rfl) ?_ ?_
          rotate_left
          · intro wx hSw; go_split_ands; go_simp; try with_reducible rfl
          simp only [Act.put, List.getElem_toArray, List.getElem_cons_succ, List.getElem_cons_zero, List.setIfInBounds_toArray, List.set_cons_zero, List.set_cons_succ]
          refine wpAnyT_held (i := 1) (v := ?_) rfl (by kernel_rfl) (by kernel_rfl) (by kernel_rfl) (fun _ _ _ h => h) (by kernel_rfl) hT (fun _ => hS) (by kernel_rfl) ?_ ?_
          rotate_left
          · intro wx hSw; go_split_ands; go_simp; try with_reducible rfl
          simp only [Act.put, List.getElem_toArray, List.getElem_cons_succ, List.getElem_cons_zero, List.setIfInBounds_toArray, List.set_cons_zero, List.set_cons_succ]
          refine wpAnyT_held (i := 2) (v := ?_) rfl (by kernel_rfl) (by kernel_rfl) (by kernel_rfl) (fun _ _ _ h => h) (by kernel_rfl) hT (fun _ => hS) (by kernel_rfl) ?_ ?_
          rotate_left
          · intro wx hSw; go_split_ands; go_simp; try with_reducible rfl
          simp only [Act.put, List.getElem_toArray, List.getElem_cons_succ, List.getElem_cons_zero, List.setIfInBounds_toArray, List.set_cons_zero, List.set_cons_succ]
          refine wpAnyT_load (i := 3) (dst := some 81) (ty := 49) (x := .tmp 80) (b := g) (o := ((k * 66))) (cs := PK) (by kernel_rfl) (by kernel_rfl) (by kernel_rfl) (by kernel_rfl) (by kernel_rfl) (fun _ _ _ h => h) (by kernel_rfl) hT (fun _ => hS) (by kernel_rfl) (fun _ h => h.1) uP rfl iPk ?_
          simp only [Act.put, List.getElem_toArray, List.getElem_cons_succ, List.getElem_cons_zero, List.setIfInBounds_toArray, List.set_cons_zero, List.set_cons_succ]
          refine wpAnyT_held (i := 4) (v := ?_) rfl (by kernel_rfl) (by kernel_rfl) (by kernel_rfl) (fun _ _ _ h => h) (by kernel_rfl) hT (fun _ => hS) (by kernel_rfl) ?_ ?_
          rotate_left
          · intro wx hSw; go_split_ands; go_simp; try with_reducible rfl
          simp only [Act.put, List.getElem_toArray, List.getElem_cons_succ, List.getElem_cons_zero, List.setIfInBounds_toArray, List.set_cons_zero, List.set_cons_succ]
          refine wpAnyT_held (i := 5) (v := ?_) rfl (by kernel_rfl) (by kernel_rfl) (by kernel_rfl) (fun _ _ _ h => h) (by kernel_rfl) hT (fun _ => hS) (by kernel_rfl) ?_ ?_
          rotate_left
          · intro wx hSw; go_split_ands; go_simp; try with_reducible rfl
          simp only [Act.put, List.getElem_toArray, List.getElem_cons_succ, List.getElem_cons_zero, List.setIfInBounds_toArray, List.set_cons_zero, List.set_cons_succ]
          refine wpAnyT_held (i := 6) (v := ?_) rfl (by kernel_rfl) (by kernel_rfl) (by kernel_rfl) (fun _ _ _ h => h) (by kernel_rfl) hT (fun _ => hS) (by kernel_rfl) ?_ ?_
          rotate_left
          · intro wx hSw; go_split_ands; go_simp; try with_reducible rfl
          simp only [Act.put, List.getElem_toArray, List.getElem_cons_succ, List.getElem_cons_zero, List.setIfInBounds_toArray, List.set_cons_zero, List.set_cons_succ]
          refine wpAnyT_load (i := 7) (dst := some 85) (ty := 49) (x := .tmp 84) (b := g) (o := ((j * 66))) (cs := PJ) (by kernel_rfl) (by kernel_rfl) (by kernel_rfl) (by kernel_rfl) (by kernel_rfl) (fun _ _ _ h => h) (by kernel_rfl) hT (fun _ => hS) (by kernel_rfl) (fun _ h => h.2) uP rfl iPj ?_
          simp only [Act.put, List.getElem_toArray, List.getElem_cons_succ, List.getElem_cons_zero, List.setIfInBounds_toArray, List.set_cons_zero, List.set_cons_succ]
          refine wpAnyT_held (i := 8) (v := .bool false) rfl (by kernel_rfl) (by kernel_rfl) (by kernel_rfl) (fun _ _ _ h => h) (by kernel_rfl) hT (fun _ => hS) (by kernel_rfl) ?_ ?_
          · intro wx hSw; go_split_ands; go_simp
          simp only [Act.put, List.getElem_toArray, List.getElem_cons_succ, List.getElem_cons_zero, List.setIfInBounds_toArray, List.set_cons_zero, List.set_cons_succ]
          refine wpAnyT_done (by kernel_rfl) ?_ _
          clear hT heq hrk hrj iPk iPj
          go_wp2
          go_roundw
          case rel => exact ⟨k + 1, hkj, by push_cast; rfl, hb.drew, ho.congr fun _ _ => rfl⟩
          case measure => simp [intOf]; omega
        · have hki : ¬ (k : Int) < (j : Int) := by omega
          have hw1 : IntKind.i64.wrap ((j : Int) + 1) = (j : Int) + 1 := by rw [IntKind.wrap_i64]; omega
          go_wp2
          go_roundw
          case rel => exact ⟨j + 1, hjm, by push_cast; rfl, hb, ho⟩
          case measure => simp [intOf]; omega
    · have hji : ¬ (j : Int) < (m : Int) := by omega
      have hm32i : (m : Int) ≤ 32 := by omega
      go_wp2
      go_ret
      exact ⟨rfl, hb1.trans (hb.mono hb1.size)⟩
end Go.Proofs.YtgcidamdbidgiaaDoor
