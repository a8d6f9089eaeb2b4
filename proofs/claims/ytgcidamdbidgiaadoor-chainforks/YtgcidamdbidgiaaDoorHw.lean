/- chain's reference: 'Fork'. -/
import Derived.Test.YtgcidamdbidgiaaDoorHq4
namespace Go.Proofs.YtgcidamdbidgiaaDoor
open Go.RowKit
set_option maxRecDepth 20000
set_option linter.unusedSimpArgs false

section
variable (base R : Nat) (us : List Value) (vp : Value) (T : Sms) (P : List Pf) (w : World)
set_option maxHeartbeats 16000000 in
theorem rFork_any (hR : RefC w base R us vp T P) :
    Calls Tryd.prog 22 #[.pointer (some ⟨R, 0, none⟩)] w fun e w' => ∃ R' us' vp', e = .returned (.pointer (some ⟨R', 0, none⟩)) ∧ RefC w' w.heap.size R' us' vp' T P ∧ Below w.heap.size w w' := by
  have hB : Below w.heap.size w (w.alloc (.cells #[] 49)) := (Below.refl _ _).alloc (Nat.le_refl _) _
  have hE := OwnI.empty w 49 66
  have c8 := (hR.far hB).cellP
  have hone : ∀ c ∈ P.map proofC, ∀ u ∈ c, u.oneCell' = true := fun c hc u hu => by
    obtain ⟨q, _, rfl⟩ := List.mem_map.1 hc
    exact proofC_one q u hu
  have hap := hE.apps (P := Tryd.prog) 46 46 Tryd.underlying46 infoProof (by rfl) (by decide) (P.map proofC) hR.own.each hone base vp (hR.own.far hB) (by simp; have := hR.lenP; omega) (by decide) (by simp)
  rw [List.nil_append] at hap
  have HAP := Veil.mk hap
  have HR := Veil.mk (fun W (hb : Below w.heap.size w W) => hR.far hb)
  have HOK := Veil.mk (And.intro hR.ok (And.intro hR.okP hR.lenP))
  have hus8 := hR.us8
  obtain ⟨x, c, hv⟩ := hR.own.isSlice
  rw [List.length_map] at hv
  subst hv
  have HBD : Veil (∀ (x : Option Addr) (n c : Nat) wx, (Instr.build 81 #[(1, .slice x n c)]).run Tryd.prog wx = .ok (.agg (List.replicate 8 (Value.slice none 0 0) ++ [Value.slice x n c]).toArray) wx) := ⟨fun x n c wx => by kernel_rfl⟩
  clear hap hE hone hR
  go_enter Tryd.func22, Tryd.ntmps22
  go_upto_region 4 with (first
    | (at_builtin; obtain ⟨v1, w1, hr1, ho1, hg1, _⟩ := HAP.out; obtain ⟨x1, c1, hv1⟩ := ho1.isSlice; rw [List.length_map] at hv1; subst hv1; refine wpList_appx rfl _ _ 46 46 rfl _ _ _ _ rfl rfl hr1 ?_; clear hr1 HAP)
    | (refine wpList_bldx rfl 81 _ rfl #[(1, .slice x1 P.length c1)] (by first | rfl | kernel_rfl) _ (HBD.out _ _ _ _) ?_))
  have hB1 : Below w.heap.size w w1 := hB.grown hg1 (by simp) (fun k hk => by cases hk; exact Nat.le_refl _)
  have hb2 : Below w1.heap.size w1 (w1.alloc (.cells (List.replicate 8 (Value.slice none 0 0) ++ [Value.slice x1 P.length c1]).toArray 81)) := (Below.refl _ _).alloc (Nat.le_refl _) _
  have hD2 := CellsAt.new w1 81 (List.replicate 8 (Value.slice none 0 0) ++ [Value.slice x1 P.length c1])
  refine forget (p := fun y => Code.wp _ _ _ _ y) (fun W => Below w.heap.size w W ∧ CellsAt W w1.heap.size 81 (List.replicate 8 (Value.slice none 0 0) ++ [Value.slice x1 P.length c1]) ∧ OwnI W w.heap.size 49 66 (.slice x1 P.length c1) (P.map proofC)) ⟨hB1.trans (hb2.mono hB1.size), hD2, ho1.far hb2⟩ ?_
  have hRs := hB1.size
  clear hB1 hb2 hD2 ho1 hg1 hB c8 HBD
  obtain ⟨R', hR'⟩ : ∃ q, w1.heap.size = q := ⟨_, rfl⟩
  rw [hR'] at hRs ⊢
  clear hR'
  clear w1
  rintro W ⟨hB, hD, ho⟩
  go_wp2
  go_loopw [4] (fun q wr => ∃ j : Nat, j ≤ 8 ∧ q = .int .i64 j ∧ Below w.heap.size w wr ∧ (∃ us1 : List Value, us1.length = j ∧ CellsAt wr R' 81 (us1 ++ List.replicate (8 - j) (.slice none 0 0) ++ [Value.slice x1 P.length c1]) ∧ ∀ a (h : a < us1.length), OwnI wr w.heap.size 34 32 us1[a] ((T a).map keyC)) ∧ OwnI wr w.heap.size 49 66 (.slice x1 P.length c1) (P.map proofC)) (fun q _ => 8 - (intOf q).toNat)
  case atStart => exact ⟨0, Nat.zero_le _, rfl, hB, ⟨[], rfl, hD, fun a h => by cases h⟩, ho⟩
  case round =>
    clear hD hB ho
    obtain ⟨j, hj, rfl, hB, ⟨us1, hul, hD, hU⟩, ho⟩ := hrel
    by_cases hj8 : j < 8
    · have hji : (j : Int) < 8 := by omega
      have hj0 : (0 : Int) ≤ (j : Int) := by omega
      have hlt := hD.lt
      obtain ⟨CC, hCC⟩ : ∃ q, us1 ++ List.replicate (8 - j) (.slice none 0 0) ++ [Value.slice x1 P.length c1] = q := ⟨_, rfl⟩
      have hget : CC[j]? = some (.slice none 0 0) := by
        rw [← hCC, List.append_assoc, List.getElem?_append_right (by omega), hul, Nat.sub_self, show 8 - j = (8 - (j + 1)) + 1 by omega, List.replicate_succ]; rfl
      have hset : ∀ u, CC.set j u = (us1 ++ [u]) ++ List.replicate (8 - (j + 1)) (.slice none 0 0) ++ [Value.slice x1 P.length c1] := fun u => by
        rw [← hCC, List.append_assoc, List.set_append_right _ _ (by omega), hul, Nat.sub_self, show 8 - j = (8 - (j + 1)) + 1 by omega, List.replicate_succ]
        simp
      rw [hCC] at hD
      have HST := Veil.mk hset
      clear hset hCC
      have HU := Veil.mk (And.intro hU ho)
      clear hU ho
      have hRW := HR.out wr hB
      obtain ⟨g0, c0, hcell, hus, -⟩ := hRW.slot j hj8
      have hw1 : IntKind.i64.wrap ((j : Int) + 1) = (j : Int) + 1 := by rw [IntKind.wrap_i64]; omega
      go_upto_region 7 with fail
      refine wp_region_gate (fun w' => w'.cell? ⟨R, j, none⟩ = some (.slice (some ⟨g0, 0, none⟩) (cnt T j + 1) c0) ∧ w'.cell? ⟨R', j, none⟩ = some (.slice none 0 0)) 13 (by kernel_rfl) ?_
      have HS : ∀ W', CellsAt W' R' 81 CC → RefC W' base R us (.slice x P.length c) T P → (fun w' : World => w'.cell? ⟨R, j, none⟩ = some (.slice (some ⟨g0, 0, none⟩) (cnt T j + 1) c0) ∧ w'.cell? ⟨R', j, none⟩ = some (.slice none 0 0)) W' := fun W' h1 h2 => ⟨by rw [h2.cellU j hj8, hus], by rw [h1.cell, hget]⟩
      have hR1 := hRW.far (Below.refl _ wr).drew
      have hS := HS wr.drew (hD.congr rfl) hR1
      refine wpAnyG_any (i := 0) (v := ?_) rfl (by kernel_rfl) (by kernel_rfl) (by kernel_rfl) (fun _ _ _ h => h) (by kernel_rfl) (fun _ => hS) (by kernel_rfl) ?_ ?_
      rotate_left
      · intro _; go_simp; try with_reducible rfl
      simp only [Act.put, List.getElem_toArray, List.getElem_cons_succ, List.getElem_cons_zero, List.setIfInBounds_toArray, List.set_cons_zero, List.set_cons_succ]
      refine wpAnyG_any (i := 1) (v := ?_) rfl (by kernel_rfl) (by kernel_rfl) (by kernel_rfl) (fun _ _ _ h => h) (by kernel_rfl) (fun _ => hS) (by kernel_rfl) ?_ ?_
      rotate_left
      · intro _; go_simp; try with_reducible rfl
      simp only [Act.put, List.getElem_toArray, List.getElem_cons_succ, List.getElem_cons_zero, List.setIfInBounds_toArray, List.set_cons_zero, List.set_cons_succ]
      refine wpAnyG_any (i := 3) (v := ?_) rfl (by kernel_rfl) (by kernel_rfl) (by kernel_rfl) (fun _ _ _ h => h) (by kernel_rfl) (fun _ => hS) (by kernel_rfl) ?_ ?_
      rotate_left
      · intro _; go_simp; try with_reducible rfl
      simp only [Act.put, List.getElem_toArray, List.getElem_cons_succ, List.getElem_cons_zero, List.setIfInBounds_toArray, List.set_cons_zero, List.set_cons_succ]
      refine wpAnyG_any (i := 4) (v := ?_) rfl (by kernel_rfl) (by kernel_rfl) (by kernel_rfl) (fun _ _ _ h => h) (by kernel_rfl) (fun _ => hS) (by kernel_rfl) ?_ ?_
      rotate_left
      · intro _; go_simp; try with_reducible rfl
      simp only [Act.put, List.getElem_toArray, List.getElem_cons_succ, List.getElem_cons_zero, List.setIfInBounds_toArray, List.set_cons_zero, List.set_cons_succ]
      refine wpAnyG_any (i := 5) (v := ?_) rfl (by kernel_rfl) (by kernel_rfl) (by kernel_rfl) (fun _ _ _ h => h) (by kernel_rfl) (fun _ => hS) (by kernel_rfl) ?_ ?_
      rotate_left
      · intro _; go_simp; try with_reducible rfl
      simp only [Act.put, List.getElem_toArray, List.getElem_cons_succ, List.getElem_cons_zero, List.setIfInBounds_toArray, List.set_cons_zero, List.set_cons_succ]
      refine wpAnyG_any (i := 6) (v := ?_) rfl (by kernel_rfl) (by kernel_rfl) (by kernel_rfl) (fun _ _ _ h => h) (by kernel_rfl) (fun _ => hS) (by kernel_rfl) ?_ ?_
      rotate_left
      · intro _; go_simp; try with_reducible rfl
      simp only [Act.put, List.getElem_toArray, List.getElem_cons_succ, List.getElem_cons_zero, List.setIfInBounds_toArray, List.set_cons_zero, List.set_cons_succ]
      refine wpAnyG_any (i := 7) (v := ?_) rfl (by kernel_rfl) (by kernel_rfl) (by kernel_rfl) (fun _ _ _ h => h) (by kernel_rfl) (fun _ => hS) (by kernel_rfl) ?_ ?_
      rotate_left
      · intro _; go_simp; try with_reducible rfl
      simp only [Act.put, List.getElem_toArray, List.getElem_cons_succ, List.getElem_cons_zero, List.setIfInBounds_toArray, List.set_cons_zero, List.set_cons_succ]
      refine wpAnyG_any (i := 10) (v := ?_) rfl (by kernel_rfl) (by kernel_rfl) (by kernel_rfl) (fun _ _ _ h => h) (by kernel_rfl) (fun _ => hS) (by kernel_rfl) ?_ ?_
      rotate_left
      · intro _; go_simp; try with_reducible rfl
      simp only [Act.put, List.getElem_toArray, List.getElem_cons_succ, List.getElem_cons_zero, List.setIfInBounds_toArray, List.set_cons_zero, List.set_cons_succ]
      refine wpAnyG_any (i := 11) (v := ?_) rfl (by kernel_rfl) (by kernel_rfl) (by kernel_rfl) (fun _ _ _ h => h) (by kernel_rfl) (fun _ => hS) (by kernel_rfl) ?_ ?_
      rotate_left
      · intro _; go_simp; try with_reducible rfl
      simp only [Act.put, List.getElem_toArray, List.getElem_cons_succ, List.getElem_cons_zero, List.setIfInBounds_toArray, List.set_cons_zero, List.set_cons_succ]
      refine wpAnyG_read (i := 8) (v := ?_) rfl (by kernel_rfl) (by kernel_rfl) (by kernel_rfl) (fun _ _ _ h => h) (by kernel_rfl) (by kernel_rfl) (by kernel_rfl) hS (by kernel_rfl) ?_ ?_
      rotate_left
      · intro wx hSw; go_split_ands; go_simp; try with_reducible rfl
      simp only [Act.put, List.getElem_toArray, List.getElem_cons_succ, List.getElem_cons_zero, List.setIfInBounds_toArray, List.set_cons_zero, List.set_cons_succ]
      refine wpAnyG_one (i := 2) rfl (by kernel_rfl) (by kernel_rfl) (fun K hK => ?_)
      go_simp
      have hb2 : Below wr.heap.size wr ((wr.alloc (.cells #[] 34)).drew) := ((Below.refl _ _).alloc (Nat.le_refl _) _).drew
      have hE2 : OwnI ((wr.alloc (.cells #[] 34)).drew) wr.heap.size 34 32 (.slice (some ⟨wr.heap.size, 0, none⟩) 0 0) [] := (OwnI.empty wr 34 32).far (Below.refl _ _).drew
      refine forget (p := fun y => K _ y) (fun W2 => Below wr.heap.size wr W2 ∧ OwnI W2 wr.heap.size 34 32 (.slice (some ⟨wr.heap.size, 0, none⟩) 0 0) []) ⟨hb2, hE2⟩ ?_
      clear hb2 hE2
      rintro W2 ⟨hb2, hE2⟩
      have hR2 := hRW.far hb2
      have hD2 := hD.farM hb2
      have hone : ∀ c ∈ (T j).map keyC, ∀ u ∈ c, u.oneCell' = true := fun c hc u hu => by
        obtain ⟨q, _, rfl⟩ := List.mem_map.1 hc
        exact keyC_one q u hu
      obtain ⟨v3, W3, hr3, hv3, hg3, hw3⟩ := hE2.apps (P := Tryd.prog) 78 78 Tryd.underlying78 infoKeyH (by rfl) (by decide) ((T j).map keyC) (hR2.sums j (by omega)).each hone base (us[j]'(by omega)) (hR2.sums j (by omega)) (by simp; have := HOK.out.1.le j; omega) (by decide) hb2.size
      rw [hus] at hr3
      rw [List.nil_append] at hv3
      replace hS := HS W2 hD2 hR2
      refine hK.out _ _ (fun _ => hS) ?_
      clear hK K
      try simp only [Act.put, List.getElem_toArray, List.getElem_cons_succ, List.getElem_cons_zero, List.setIfInBounds_toArray, List.set_cons_zero, List.set_cons_succ]
      refine wpAnyG_one (i := 9) rfl (by kernel_rfl) (by kernel_rfl) (fun K hK => ?_)
      refine wpx_app _ _ 78 78 rfl _ _ _ _ rfl rfl hr3 ?_
      have hb3 : Below wr.heap.size wr W3 := hb2.grown hg3 hb2.size (fun k hk => by cases hk; exact Nat.le_refl _)
      clear hr3 hg3 hw3 hE2 hb2 hR2 hD2
      have hR3 := hRW.far hb3
      have hD3 := hD.farM hb3
      replace hS := HS W3 hD3 hR3
      refine hK.out _ _ (fun _ => hS) ?_
      clear hK K
      try simp only [Act.put, List.getElem_toArray, List.getElem_cons_succ, List.getElem_cons_zero, List.setIfInBounds_toArray, List.set_cons_zero, List.set_cons_succ]
      refine wpAnyG_any (i := 12) (v := ?_) rfl (by kernel_rfl) (by kernel_rfl) (by kernel_rfl) (fun _ _ _ h => h) (by kernel_rfl) (fun _ => hS) (by kernel_rfl) ?_ ?_
      rotate_left
      · intro _; go_simp; try with_reducible rfl
      simp only [Act.put, List.getElem_toArray, List.getElem_cons_succ, List.getElem_cons_zero, List.setIfInBounds_toArray, List.set_cons_zero, List.set_cons_succ]
      refine wpAnyG_one (i := 13) rfl (by kernel_rfl) (by kernel_rfl) (fun K hK => ?_)
      have c6 := hS.2
      have f6 := hD3.frozen j
      obtain ⟨x6, k6, hx6⟩ := hv3.isSlice
      have HV := Veil.mk (And.intro hv3 (And.intro hb3 hD3))
      clear HS hv3 hR3 hD3 hb3 hcell hus hR1 hRW hone
      generalize ((T j).map keyC).length = m6 at hx6
      subst hx6
      go_simp
      refine hK.out _ _ (fun h => absurd (show true = false from h) (by decide)) ?_
      clear hK K
      try simp only [Act.put, List.getElem_toArray, List.getElem_cons_succ, List.getElem_cons_zero, List.setIfInBounds_toArray, List.set_cons_zero, List.set_cons_succ]
      refine wpAnyG_done (by kernel_rfl) ?_ _
      clear hS c6 f6
      go_wp2
      go_roundw
      case rel =>
        obtain ⟨hv3, hb3, hD3⟩ := HV.out
        obtain ⟨hU, ho⟩ := HU.out
        have hne : ∀ g, (Value.slice x6 m6 k6).ownBlock = some g → g ≠ R' := fun g hg => by have := (hv3.blockLt g hg).2.1; omega
        have hneU : ∀ a (h : a < us1.length) g, us1[a].ownBlock = some g → g ≠ R' := fun a h g hg e => by
          obtain ⟨_, _, cur, hc⟩ := (hU a h).blockLt g hg
          subst e
          unfold CellsAt at hD
          rw [hc] at hD
          injection hD with hD
          injection hD with _ e2 _
          exact absurd e2 (by decide)
        have hneP : ∀ g, (Value.slice x1 P.length c1).ownBlock = some g → g ≠ R' := fun g hg e => by
          obtain ⟨_, _, cur, hc⟩ := ho.blockLt g hg
          subst e
          unfold CellsAt at hD
          rw [hc] at hD
          injection hD with hD
          injection hD with _ e2 _
          exact absurd e2 (by decide)
        have hB3 := hB.trans (hb3.mono hB.size)
        refine ⟨j + 1, hj8, by push_cast; rfl, hB3.setCell hRs _, ⟨us1 ++ [.slice x6 m6 k6], by simp [hul], ?_, fun a ha => ?_⟩, (ho.far hb3).congr fun g hg => Below.heap_setCell W3 _ _ g (hneP g hg)⟩
        · rw [← HST.out]
          exact hD3.set j _
        · by_cases q : a < us1.length
          · rw [List.getElem_append_left q]
            exact ((hU a q).far hb3).congr fun g hg => Below.heap_setCell W3 _ _ g (hneU a q g hg)
          · obtain rfl : a = j := by rw [List.length_append] at ha; simp at ha; omega
            rw [List.getElem_append_right (by omega)]
            simp only [hul, Nat.sub_self, List.getElem_cons_zero]
            exact (hv3.congr fun g hg => Below.heap_setCell W3 _ _ g (hne g hg)).less hB.size
      case measure => simp [intOf]; omega
    · obtain rfl : j = 8 := by omega
      have hji : ¬ ((8 : Nat) : Int) < 8 := by omega
      have HH : Veil (CellsAt wr R' 81 (us1 ++ [Value.slice x1 P.length c1])) := ⟨by simpa using hD⟩
      clear hD
      go_wp2
      go_ret
      exact ⟨R', rfl, ⟨us1, .slice x1 P.length c1, ⟨HH.out, hul, hU, ho, HOK.out.1, HOK.out.2.1, HOK.out.2.2, hRs⟩⟩, hB⟩
end
end Go.Proofs.YtgcidamdbidgiaaDoor
