/- chain's reference: 'Add'. -/
import Derived.Test.YtgcidamdbidgiaaDoorHq3
namespace Go.Proofs.YtgcidamdbidgiaaDoor
open Go.RowKit
set_option maxRecDepth 20000
set_option linter.unusedSimpArgs false

/-- Another list of digests at place a. -/
theorem RefC.setU {w w' : World} {base R : Nat} {us : List Value} {vp : Value} {T : Sms} {P : List Pf} (h : RefC w base R us vp T P) (a : Nat) (ha : a < 8) (v : Value) (T' : Sms) (hb : CellsAt w' R 81 (us.set a v ++ [vp])) (hk : ∀ g, refB R us vp g → g ≠ R → w'.heap[g]? = w.heap[g]?) (hv : OwnI w' base 34 32 v ((T' a).map keyC)) (hT : ∀ b, b ≠ a → T' b = T b) (hok : OkS T') : RefC w' base R (us.set a v) vp T' P := by
  refine ⟨hb, by rw [List.length_set]; exact h.us8, fun b hbl => ?_, h.own.congr fun g hg => hk g (.inr (.inl hg)) (h.neV g hg), hok, h.okP, h.lenP, h.baseR⟩
  rw [List.length_set] at hbl
  by_cases e : b = a
  · subst e
    rw [List.getElem_set_self]; exact hv
  · rw [List.getElem_set_ne (fun q => e q.symm), hT b e]
    exact (h.sums b hbl).congr fun g hg => hk g (.inr (.inr ⟨_, List.getElem_mem hbl, hg⟩)) (h.neU b hbl g hg).1
theorem refB_set {R : Nat} {us : List Value} {vp v : Value} {a k : Nat} (h : refB R (us.set a v) vp k) : refB R us vp k ∨ v.ownBlock = some k := by
  rcases h with e | e | ⟨u, hu, e⟩
  · exact .inl (.inl e)
  · exact .inl (.inr (.inl e))
  · rcases List.mem_or_eq_of_mem_set hu with q | q
    · exact .inl (.inr (.inr ⟨u, q, e⟩))
    · subst q; exact .inr e
theorem lookP_fork {T : Sms} {a n : Nat} {prev sum : List Int} (h : lookN T a n prev sum = 11) : lookP T a n prev sum = proofN T a n prev sum := by unfold lookP; rw [if_pos h]
section
variable (base R : Nat) (us : List Value) (vp : Value) (T : Sms) (P : List Pf) (w : World) (F : Fr) (xw : Option Addr) (lw cw : Nat) (ws : List Wp) (xb : Option Addr) (lb cb : Nat) (body : List Int) (a n : Nat)
set_option maxHeartbeats 16000000 in
theorem rAdd_any (hR : RefC w base R us vp T P) (hF : FrIn w F xw lw cw ws xb lb cb body) (ha : F.author = (a : Int)) (hn : F.number = (n : Int)) (hbase : base ≤ w.heap.size) :
    Calls Tryd.prog 40 #[.pointer (some ⟨R, 0, none⟩), .agg F.cells.toArray] w fun e w' => e = .returned (.int .i64 (lookN T a n F.prev (fsum F lw lb ws body))) ∧ ∃ us' vp', RefTo w w' base R us us' vp vp' (addSt T P a n F.prev (fsum F lw lb ws body)).1 (addSt T P a n F.prev (fsum F lw lb ws body)).2 ∧ ∀ k, refB R us' vp' k → refB R us vp k ∨ w.heap.size ≤ k := by
  obtain ⟨q0, q1, -⟩ := fr_parts F hF.prev hF.mac
  rw [ha] at q1
  have hiF : (Tryd.prog.info? 38).map (·.size) = some F.cells.length := by rw [q0]; exact sizeFrame
  have hpok : okK F.prev := ⟨hF.prev, hF.inF.prev⟩
  have hsok := fsum_ok F lw lb ws body
  have hLP := okP_lookP hR.ok a n F.prev (fsum F lw lb ws body) hpok hsok
  have hLl := proofC_len (lookP T a n F.prev (fsum F lw lb ws body)) hLP.2.2.1.1 hLP.2.2.2.1
  have h1L := proofC_one (lookP T a n F.prev (fsum F lw lb ws body))
  obtain ⟨PZ, hPZ, hPZl⟩ : ∃ q : List Value, q = proofC pz ∧ q.length = 66 := ⟨_, rfl, rfl⟩
  have hzv : ∀ wx, (zeroValue 49).run Tryd.prog wx = .ok (.agg PZ.toArray) wx := fun wx => by rw [hPZ]; exact zero_ofH (by kernel_rfl) wx
  have hz1 : ¬ PZ.toArray = #[] := by intro h; have := congrArg Array.size h; simp at this; rw [this] at hPZl; simp at hPZl
  have hD0 := CellsAt.new w 38 F.cells
  have hB0 : Below w.heap.size w (w.alloc (.cells F.cells.toArray 38)) := (Below.refl _ _).alloc (Nat.le_refl _) _
  have rF := hD0.wholeM
  have hlk := rlook_any base R us vp T P _ F xw lw cw ws xb lb cb body a n (hR.far hB0) (hF.below hB0) ha hn
  have hok := hR.ok
  have HSM : Veil (∀ W, Below w.heap.size w W → Calls Tryd.prog 16 #[.agg F.cells.toArray] W fun e w' => e = .returned (.agg (row .u8 (fsum F lw lb ws body))) ∧ Below W.heap.size W w') := ⟨fun W hb => rfSum_any F xw lw cw ws xb lb cb body W (hF.below hb)⟩
  have HR := Veil.mk (fun W (hb : Below w.heap.size w W) => hR.far hb)
  have HIN : Veil (∀ k, refB R us vp k → k < w.heap.size) := ⟨fun k hk => (hR.inside k hk).1⟩
  have HLK := Veil.mk (okP_lookP hR.ok a n F.prev (fsum F lw lb ws body) hpok hsok)
  clear hPZ hF ha hn hLP hpok hR
  generalize fsum F lw lb ws body = SM at hlk hLl h1L hsok HSM HLK ⊢
  obtain ⟨LC, hLC⟩ : ∃ q, proofC (lookP T a n F.prev SM) = q := ⟨_, rfl⟩
  have HLC := Veil.mk hLC
  rw [hLC] at hlk hLl h1L
  clear hLC
  have iL : (Tryd.prog.info? 49).map (·.size) = some LC.length := by rw [hLl]; exact sizeProof
  have uF : Tryd.prog.underlying 38 = _ := Tryd.underlying38
  have HMEET : Veil (∀ w1 : World, Below (w.alloc (.cells F.cells.toArray 38)).heap.size (w.alloc (.cells F.cells.toArray 38)) w1 → Below w.heap.size w ((w1.alloc (.cells PZ.toArray 49)).setRow w1.heap.size LC.toArray) ∧ CellsAt ((w1.alloc (.cells PZ.toArray 49)).setRow w1.heap.size LC.toArray) w.heap.size 38 F.cells ∧ CellsAt ((w1.alloc (.cells PZ.toArray 49)).setRow w1.heap.size LC.toArray) w1.heap.size 49 LC ∧ w.heap.size < w1.heap.size) := ⟨fun w1 hb1 => by
    have hB1 := hB0.trans (hb1.mono hB0.size)
    have hb2 : Below w1.heap.size w1 ((w1.alloc (.cells PZ.toArray 49)).setRow w1.heap.size LC.toArray) := below_setRow ((Below.refl _ _).alloc (Nat.le_refl _) _) (Nat.le_refl _) _
    have hD1 := hD0.farM hb1
    exact ⟨hB1.trans (hb2.mono hB1.size), hD1.farM hb2, (CellsAt.new w1 49 PZ).setRow LC, hD1.lt⟩⟩
  clear hD0 hB0
  rcases lookN_cases T a n F.prev SM with h0 | h11 | ⟨hn0, hn11⟩
  · obtain ⟨h8, hnc, hc, hpe⟩ := lookN_le T a n F.prev SM h0
    have HAS : Veil ((addSt T P a n F.prev SM) = (addS T a SM, P)) := ⟨by unfold addSt; rw [if_pos h0]⟩
    rw [h0] at hlk ⊢
    clear h0 hpe hnc HLK HLC
    have h8i : (a : Int) < 8 := by omega
    have ha0 : (0 : Int) ≤ (a : Int) := by omega
    go_enter Tryd.func40, Tryd.ntmps40
    go_upto_region 4 with (first
      | (refine wpList_ldv rfl 38 _ rfl _ _ rfl F.cells rF Tryd.underlying38 rfl hiF ?_)
      | (go_at_call 50; refine hlk.mono ?_; rintro e w1 ⟨rfl, hb1⟩; have hA1 := CellsAt.new w1 49 PZ)
      | (refine wpList_stv rfl 49 _ _ rfl _ rfl rfl hA1 iL (by rw [hLl, hPZl]) h1L ?_))
    obtain ⟨hB1, hD1, -, -⟩ := HMEET.out w1 hb1
    refine forget (p := fun y => Code.wp _ _ _ _ y) (fun W => Below w.heap.size w W ∧ CellsAt W w.heap.size 38 F.cells) ⟨hB1, hD1⟩ ?_
    clear hB1 hD1 hA1 hb1 hlk rF HMEET iL h1L hLl hzv hz1
    rintro W ⟨hB, hD⟩
    have hRW := HR.out W hB
    obtain ⟨g0, c0, hcell, hus, -⟩ := hRW.slot a h8
    have a0 : ∀ W', CellsAt W' w.heap.size 38 F.cells → W'.cell? ⟨w.heap.size, 0, none⟩ = some (.int .u8 (a : Int)) := fun W' h => by have := h.cell 0; rw [q1] at this; exact this
    have HA0 := Veil.mk a0
    clear a0
    refine wp_region_gate (fun w' => w'.cell? ⟨w.heap.size, 0, none⟩ = some (.int .u8 (a : Int)) ∧ w'.cell? ⟨R, a, none⟩ = some (.slice (some ⟨g0, 0, none⟩) (cnt T a + 1) c0) ∧ w'.rangeAt w.heap.size 0 F.cells) 19 (by kernel_rfl) ?_
    have HS : ∀ W', CellsAt W' w.heap.size 38 F.cells → RefC W' base R us vp T P → (fun w' : World => w'.cell? ⟨w.heap.size, 0, none⟩ = some (.int .u8 (a : Int)) ∧ w'.cell? ⟨R, a, none⟩ = some (.slice (some ⟨g0, 0, none⟩) (cnt T a + 1) c0) ∧ w'.rangeAt w.heap.size 0 F.cells) W' := fun W' h1 h2 => ⟨HA0.out W' h1, by rw [h2.cellU a h8, hus], h1.wholeM⟩
    have hD1 := hD.congr (w' := W.drew) rfl
    have hR1 := hRW.far (Below.refl _ W).drew
    have hB1 := hB.drew
    have hS := HS W.drew hD1 hR1
    refine wpAnyG_any (i := 0) (v := ?_) rfl (by kernel_rfl) (by kernel_rfl) (by kernel_rfl) (fun _ _ _ h => h) (by kernel_rfl) (fun _ => hS) (by kernel_rfl) ?_ ?_
    rotate_left
    · intro _; go_simp; try with_reducible rfl
    simp only [Act.put, List.getElem_toArray, List.getElem_cons_succ, List.getElem_cons_zero, List.setIfInBounds_toArray, List.set_cons_zero, List.set_cons_succ]
    refine wpAnyG_any (i := 1) (v := ?_) rfl (by kernel_rfl) (by kernel_rfl) (by kernel_rfl) (fun _ _ _ h => h) (by kernel_rfl) (fun _ => hS) (by kernel_rfl) ?_ ?_
    rotate_left
    · intro _; go_simp; try with_reducible rfl
    simp only [Act.put, List.getElem_toArray, List.getElem_cons_succ, List.getElem_cons_zero, List.setIfInBounds_toArray, List.set_cons_zero, List.set_cons_succ]
    refine wpAnyG_any (i := 4) (v := ?_) rfl (by kernel_rfl) (by kernel_rfl) (by kernel_rfl) (fun _ _ _ h => h) (by kernel_rfl) (fun _ => hS) (by kernel_rfl) ?_ ?_
    rotate_left
    · intro _; go_simp; try with_reducible rfl
    simp only [Act.put, List.getElem_toArray, List.getElem_cons_succ, List.getElem_cons_zero, List.setIfInBounds_toArray, List.set_cons_zero, List.set_cons_succ]
    refine wpAnyG_any (i := 5) (v := ?_) rfl (by kernel_rfl) (by kernel_rfl) (by kernel_rfl) (fun _ _ _ h => h) (by kernel_rfl) (fun _ => hS) (by kernel_rfl) ?_ ?_
    rotate_left
    · intro _; go_simp; try with_reducible rfl
    simp only [Act.put, List.getElem_toArray, List.getElem_cons_succ, List.getElem_cons_zero, List.setIfInBounds_toArray, List.set_cons_zero, List.set_cons_succ]
    refine wpAnyG_any (i := 7) (v := ?_) rfl (by kernel_rfl) (by kernel_rfl) (by kernel_rfl) (fun _ _ _ h => h) (by kernel_rfl) (fun _ => hS) (by kernel_rfl) ?_ ?_
    rotate_left
    · intro _; go_simp; try with_reducible rfl
    simp only [Act.put, List.getElem_toArray, List.getElem_cons_succ, List.getElem_cons_zero, List.setIfInBounds_toArray, List.set_cons_zero, List.set_cons_succ]
    refine wpAnyG_any (i := 8) (v := ?_) rfl (by kernel_rfl) (by kernel_rfl) (by kernel_rfl) (fun _ _ _ h => h) (by kernel_rfl) (fun _ => hS) (by kernel_rfl) ?_ ?_
    rotate_left
    · intro _; go_simp; try with_reducible rfl
    simp only [Act.put, List.getElem_toArray, List.getElem_cons_succ, List.getElem_cons_zero, List.setIfInBounds_toArray, List.set_cons_zero, List.set_cons_succ]
    refine wpAnyG_any (i := 16) (v := ?_) rfl (by kernel_rfl) (by kernel_rfl) (by kernel_rfl) (fun _ _ _ h => h) (by kernel_rfl) (fun _ => hS) (by kernel_rfl) ?_ ?_
    rotate_left
    · intro _; go_simp; try with_reducible rfl
    simp only [Act.put, List.getElem_toArray, List.getElem_cons_succ, List.getElem_cons_zero, List.setIfInBounds_toArray, List.set_cons_zero, List.set_cons_succ]
    refine wpAnyG_any (i := 17) (v := ?_) rfl (by kernel_rfl) (by kernel_rfl) (by kernel_rfl) (fun _ _ _ h => h) (by kernel_rfl) (fun _ => hS) (by kernel_rfl) ?_ ?_
    rotate_left
    · intro _; go_simp; try with_reducible rfl
    simp only [Act.put, List.getElem_toArray, List.getElem_cons_succ, List.getElem_cons_zero, List.setIfInBounds_toArray, List.set_cons_zero, List.set_cons_succ]
    refine wpAnyG_read (i := 2) (v := ?_) rfl (by kernel_rfl) (by kernel_rfl) (by kernel_rfl) (fun _ _ _ h => h) (by kernel_rfl) (by kernel_rfl) (by kernel_rfl) hS (by kernel_rfl) ?_ ?_
    rotate_left
    · intro wx hSw; go_split_ands; go_simp; try with_reducible rfl
    simp only [Act.put, List.getElem_toArray, List.getElem_cons_succ, List.getElem_cons_zero, List.setIfInBounds_toArray, List.set_cons_zero, List.set_cons_succ]
    refine wpAnyG_read (i := 6) (v := ?_) rfl (by kernel_rfl) (by kernel_rfl) (by kernel_rfl) (fun _ _ _ h => h) (by kernel_rfl) (by kernel_rfl) (by kernel_rfl) hS (by kernel_rfl) ?_ ?_
    rotate_left
    · intro wx hSw; go_split_ands; go_simp; try with_reducible rfl
    simp only [Act.put, List.getElem_toArray, List.getElem_cons_succ, List.getElem_cons_zero, List.setIfInBounds_toArray, List.set_cons_zero, List.set_cons_succ]
    refine wpAnyG_any (i := 9) (v := ?_) rfl (by kernel_rfl) (by kernel_rfl) (by kernel_rfl) (fun _ _ _ h => h) (by kernel_rfl) (fun _ => hS) (by kernel_rfl) ?_ ?_
    rotate_left
    · intro _; go_simp; try with_reducible rfl
    simp only [Act.put, List.getElem_toArray, List.getElem_cons_succ, List.getElem_cons_zero, List.setIfInBounds_toArray, List.set_cons_zero, List.set_cons_succ]
    refine wpAnyG_read (i := 10) (v := ?_) rfl (by kernel_rfl) (by kernel_rfl) (by kernel_rfl) (fun _ _ _ h => h) (by kernel_rfl) (by kernel_rfl) (by kernel_rfl) hS (by kernel_rfl) ?_ ?_
    rotate_left
    · intro wx hSw; go_split_ands; go_simp; try with_reducible rfl
    simp only [Act.put, List.getElem_toArray, List.getElem_cons_succ, List.getElem_cons_zero, List.setIfInBounds_toArray, List.set_cons_zero, List.set_cons_succ]
    refine wpAnyG_load (i := 12) (dst := some 28) (ty := 38) (x := .tmp 3) (b := w.heap.size) (o := (0)) (cs := F.cells) (by kernel_rfl) (by kernel_rfl) (by kernel_rfl) (by kernel_rfl) (by kernel_rfl) (fun _ _ _ h => h) (by kernel_rfl) (by kernel_rfl) (by kernel_rfl) hS (by kernel_rfl) (fun _ h => h.2.2) uF rfl hiF ?_
    simp only [Act.put, List.getElem_toArray, List.getElem_cons_succ, List.getElem_cons_zero, List.setIfInBounds_toArray, List.set_cons_zero, List.set_cons_succ]
    refine wpAnyG_one (i := 3) rfl (by kernel_rfl) (by kernel_rfl) (fun K hK => ?_)
    go_simp
    have hb2 : Below W.heap.size W ((W.alloc (.cells #[] 34)).drew) := ((Below.refl _ _).alloc (Nat.le_refl _) _).drew
    have hE2 : OwnI ((W.alloc (.cells #[] 34)).drew) W.heap.size 34 32 (.slice (some ⟨W.heap.size, 0, none⟩) 0 0) [] := (OwnI.empty W 34 32).far (Below.refl _ _).drew
    have hz2 : W.heap.size ≤ ((W.alloc (.cells #[] 34)).drew).heap.size := hb2.size
    refine forget (p := fun y => K _ y) (fun W2 => Below W.heap.size W W2 ∧ OwnI W2 W.heap.size 34 32 (.slice (some ⟨W.heap.size, 0, none⟩) 0 0) []) ⟨hb2, hE2⟩ ?_
    clear hb2 hE2 hz2
    rintro W2 ⟨hb2, hE2⟩
    have hR2 := hRW.far hb2
    have hD2 := hD.farM hb2
    have hu8 := hRW.us8
    have hone : ∀ c ∈ (T a).map keyC, ∀ u ∈ c, u.oneCell' = true := fun c hc u hu => by
      obtain ⟨q, _, rfl⟩ := List.mem_map.1 hc
      exact keyC_one q u hu
    obtain ⟨v3, W3, hr3, hv3, hg3, hw3⟩ := hE2.apps (P := Tryd.prog) 78 78 Tryd.underlying78 infoKeyH (by rfl) (by decide) ((T a).map keyC) (hR2.sums a (by omega)).each hone base (us[a]'(by omega)) (hR2.sums a (by omega)) (by simp; have := hok.le a; omega) (by decide) hb2.size
    rw [hus] at hr3
    rw [List.nil_append] at hv3
    replace hS := HS W2 hD2 hR2
    refine hK.out _ _ (fun _ => hS) ?_
    clear hK K
    try simp only [Act.put, List.getElem_toArray, List.getElem_cons_succ, List.getElem_cons_zero, List.setIfInBounds_toArray, List.set_cons_zero, List.set_cons_succ]
    refine wpAnyG_one (i := 11) rfl (by kernel_rfl) (by kernel_rfl) (fun K hK => ?_)
    refine wpx_app _ _ 78 78 rfl _ _ _ _ rfl rfl hr3 ?_
    have hb3 : Below W.heap.size W W3 := hb2.grown hg3 hb2.size (fun k hk => by cases hk; exact Nat.le_refl _)
    clear hr3 hg3 hw3 hE2 hb2 hR2 hD2
    have hR3 := hRW.far hb3
    have hD3 := hD.farM hb3
    have hB3 := hB.trans (hb3.mono hB.size)
    have hsm := HSM.out W3 hB3
    replace hS := HS W3 hD3 hR3
    refine hK.out _ _ (fun _ => hS) ?_
    clear hK K
    try simp only [Act.put, List.getElem_toArray, List.getElem_cons_succ, List.getElem_cons_zero, List.setIfInBounds_toArray, List.set_cons_zero, List.set_cons_succ]
    refine wpAnyG_one (i := 13) rfl (by kernel_rfl) (by kernel_rfl) (fun K hK => ?_)
    refine wpx_call _ _ (by kernel_rfl) (hsm.mono ?_)
    rintro e W4 ⟨rfl, hb4⟩
    refine ⟨_, rfl, ?_⟩
    have hb14 := hb3.trans (hb4.mono hb3.size)
    have hv4 := hv3.far hb4
    have hR4 := hRW.far hb14
    have hD4 := hD.farM hb14
    clear hv3 hR3 hD3 hB3 hsm hb4 hb3
    replace hS := HS W4 hD4 hR4
    refine hK.out _ _ (fun _ => hS) ?_
    clear hK K
    try simp only [Act.put, List.getElem_toArray, List.getElem_cons_succ, List.getElem_cons_zero, List.setIfInBounds_toArray, List.set_cons_zero, List.set_cons_succ]
    have hKl : (keyC SM).length = 32 := by unfold keyC; rw [List.length_map]; exact hsok.1
    refine wpAnyG_one (i := 14) rfl (by kernel_rfl) (by kernel_rfl) (fun K hK => ?_)
    refine wp_bs1 78 34 _ rfl (keyC SM) rfl Tryd.underlying78 infoKeyH (by decide) (by decide) hKl ?_
    have hb5 : Below W4.heap.size W4 (W4.alloc (.cells (keyC SM).toArray 34)) := (Below.refl _ _).alloc (Nat.le_refl _) _
    have hb15 := hb14.trans (hb5.mono hb14.size)
    have hn5 := (CellsAt.new W4 34 (keyC SM)).wholeM
    have hR5 := hRW.far hb15
    have hD5 := hD.farM hb15
    obtain ⟨v6, W6, hr6, hv6, hg6, hw6⟩ := (hv4.far hb5).app (P := Tryd.prog) 78 78 Tryd.underlying78 infoKeyH (by rfl) (by decide) (keyC SM) hKl (keyC_one SM) W4.heap.size hn5 (by rw [List.length_map]; have := hok.le a; omega) (by decide) hb15.size
    replace hS := HS _ hD5 hR5
    refine hK.out _ _ (fun _ => hS) ?_
    clear hK K
    try simp only [Act.put, List.getElem_toArray, List.getElem_cons_succ, List.getElem_cons_zero, List.setIfInBounds_toArray, List.set_cons_zero, List.set_cons_succ]
    refine wpAnyG_one (i := 15) rfl (by kernel_rfl) (by kernel_rfl) (fun K hK => ?_)
    refine wpx_app _ _ 78 78 rfl _ _ _ _ rfl rfl hr6 ?_
    have hb6 : Below W.heap.size W W6 := hb15.grown hg6 hb15.size (fun k hk => ((hv4.far hb5).blockLt k hk).2.1)
    have hR6 := hRW.far hb6
    have hD6 := hD.farM hb6
    replace hS := HS W6 hD6 hR6
    have HV6 : Veil (OwnI W6 W.heap.size 34 32 v6 ((addS T a SM a).map keyC)) := ⟨by
      have e : (addS T a SM a).map keyC = (T a).map keyC ++ [keyC SM] := by unfold addS; rw [if_pos rfl, List.map_append]; rfl
      rw [e]; exact hv6⟩
    clear hr6 hg6 hw6 hv4 hb5 hb14 hb15 hn5 hR5 hD5 hR4 hD4
    refine hK.out _ _ (fun _ => hS) ?_
    clear hK K
    try simp only [Act.put, List.getElem_toArray, List.getElem_cons_succ, List.getElem_cons_zero, List.setIfInBounds_toArray, List.set_cons_zero, List.set_cons_succ]
    refine wpAnyG_any (i := 18) (v := ?_) rfl (by kernel_rfl) (by kernel_rfl) (by kernel_rfl) (fun _ _ _ h => h) (by kernel_rfl) (fun _ => hS) (by kernel_rfl) ?_ ?_
    rotate_left
    · intro _; go_simp; try with_reducible rfl
    simp only [Act.put, List.getElem_toArray, List.getElem_cons_succ, List.getElem_cons_zero, List.setIfInBounds_toArray, List.set_cons_zero, List.set_cons_succ]
    refine wpAnyG_one (i := 19) rfl (by kernel_rfl) (by kernel_rfl) (fun K hK => ?_)
    have c6 := hS.2.1
    have f6 := hR6.box.frozen a
    have HALL : Veil (RefC W6 base R us vp T P ∧ Below w.heap.size w W6 ∧ w.heap.size ≤ W.heap.size) := ⟨hR6, hB.trans (hb6.mono hB.size), hB.size⟩
    obtain ⟨x6, k6, hx6⟩ := hv6.isSlice
    clear HS hv6 hR6 hD6 hb6 hcell hus hR1 hD1 hB1 hD hRW
    generalize ((T a).map keyC ++ [keyC SM]).length = m6 at hx6
    subst hx6
    go_simp
    refine hK.out _ _ (fun h => absurd (show true = false from h) (by decide)) ?_
    clear hK K
    try simp only [Act.put, List.getElem_toArray, List.getElem_cons_succ, List.getElem_cons_zero, List.setIfInBounds_toArray, List.set_cons_zero, List.set_cons_succ]
    refine wpAnyG_done (by kernel_rfl) ?_ _
    clear hS c6 f6
    go_wp2
    go_ret
    obtain ⟨hR6, hB6, hsW⟩ := HALL.out
    have hu8 := hR6.us8
    have hRl := HIN.out R (.inl rfl)
    have ht := Turn.of_setCell (p := refP R vp) W6 (a := ⟨R, a, none⟩) (.inl rfl) (.slice x6 m6 k6)
    refine ⟨rfl, us.set a (.slice x6 m6 k6), vp, ⟨?_, (Turn.of_below hB6).trans ht, .inl rfl⟩, fun k hk => ?_⟩
    · rw [HAS.out]
      refine hR6.setU a h8 _ (addS T a SM) ?_ (fun g _ hne => Below.heap_setCell W6 _ _ g hne) ?_ (fun b hb => by unfold addS; rw [if_neg hb]) (hok.add a SM hsok hc)
      · have := hR6.box.set a (.slice x6 m6 k6)
        rw [List.set_append_left _ _ (by omega)] at this
        exact this
      · refine (HV6.out.congr fun k hk => Below.heap_setCell W6 _ _ k ?_).less (by omega)
        show k ≠ R
        have := (HV6.out.blockLt k hk).2.1
        omega
    · rcases refB_set hk with h | h
      · exact .inl h
      · exact .inr (by have := (HV6.out.blockLt k h).2.1; omega)
  · have HAS : Veil ((addSt T P a n F.prev SM) = (T, noteP P (proofN T a n F.prev SM))) := ⟨by unfold addSt; rw [if_neg (by omega), if_pos h11]⟩
    have HNO : Veil (∀ W, Below w.heap.size w W → Calls Tryd.prog 49 #[.pointer (some ⟨R, 0, none⟩), .agg LC.toArray] W fun e w' => (∃ r, e = .returned r) ∧ ∃ vp', RefTo W w' base R us us vp vp' T (noteP P (proofN T a n F.prev SM))) := ⟨fun W hb => by
      have := rNote_any base R us vp T P W (lookP T a n F.prev SM) HLK.out (HR.out W hb) (by have := hb.size; omega)
      rw [HLC.out, lookP_fork h11] at this
      exact this⟩
    rw [h11] at hlk ⊢
    clear h11 HLK HLC HSM
    go_enter Tryd.func40, Tryd.ntmps40
    go_upto_region 6 with (first
      | (refine wpList_ldv rfl 38 _ rfl _ _ rfl F.cells rF Tryd.underlying38 rfl hiF ?_)
      | (go_at_call 50; refine hlk.mono ?_; rintro e w1 ⟨rfl, hb1⟩; have hA1 := CellsAt.new w1 49 PZ)
      | (refine wpList_stv rfl 49 _ _ rfl _ rfl rfl hA1 iL (by rw [hLl, hPZl]) h1L ?_))
    obtain ⟨hB1, -, hL1, -⟩ := HMEET.out w1 hb1
    refine forget (p := fun y => Code.wp _ _ _ _ y) (fun W => Below w.heap.size w W ∧ CellsAt W w1.heap.size 49 LC) ⟨hB1, hL1⟩ ?_
    clear hB1 hL1 hA1 hb1 hlk rF HMEET h1L hzv hz1
    rintro W ⟨hB, hL⟩
    have rL := hL.wholeM
    have hno := HNO.out W hB
    go_wp2_with (first
      | (refine wpList_ldv rfl 49 _ rfl _ _ rfl LC rL Tryd.underlying49 rfl iL ?_)
      | (go_at_call 49; refine hno.mono ?_; rintro e w3 ⟨⟨r3, rfl⟩, vp3, hto3⟩))
    go_ret
    refine ⟨rfl, us, vp3, ⟨by rw [HAS.out]; exact hto3.at_, (Turn.of_below hB).trans hto3.turn, ?_⟩, fun k hk => ?_⟩
    · rcases hto3.own with h | ⟨g, h, hg⟩
      · exact .inl h
      · exact .inr ⟨g, h, by have := hB.size; omega⟩
    · rcases refTo_blocks hto3 k hk with h | h
      · exact .inl h
      · exact .inr (by have := hB.size; omega)
  · have HAS : Veil ((addSt T P a n F.prev SM) = (T, P)) := ⟨by unfold addSt; rw [if_neg hn0, if_neg hn11]⟩
    have e0 : (lookN T a n F.prev SM == 0) = false := by simpa using hn0
    have e11 : (lookN T a n F.prev SM == 11) = false := by simpa using hn11
    clear hn0 hn11 HLK HLC HSM
    generalize lookN T a n F.prev SM = LN at hlk e0 e11 ⊢
    go_enter Tryd.func40, Tryd.ntmps40
    go_wp2_with (first
      | (refine wpList_ldv rfl 38 _ rfl _ _ rfl F.cells rF Tryd.underlying38 rfl hiF ?_)
      | (go_at_call 50; refine hlk.mono ?_; rintro e w1 ⟨rfl, hb1⟩; have hA1 := CellsAt.new w1 49 PZ)
      | (refine wpList_stv rfl 49 _ _ rfl _ rfl rfl hA1 iL (by rw [hLl, hPZl]) h1L ?_))
    go_ret
    obtain ⟨hB1, -, -, -⟩ := HMEET.out w1 hb1
    exact ⟨rfl, us, vp, ⟨by rw [HAS.out]; exact HR.out _ hB1, Turn.of_below hB1, .inl rfl⟩, fun k hk => .inl hk⟩
end
end Go.Proofs.YtgcidamdbidgiaaDoor
