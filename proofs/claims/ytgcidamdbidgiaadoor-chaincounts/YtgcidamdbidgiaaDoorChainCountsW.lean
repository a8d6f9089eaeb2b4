/- The statement ChainCounts, walked. -/
import Derived.Test.YtgcidamdbidgiaaDoorHz3
namespace Go.Proofs.YtgcidamdbidgiaaDoor
open Go.RowKit
set_option maxRecDepth 20000
set_option linter.unusedSimpArgs false

/-- What becomes of the heads when a frame is added. -/
theorem heads_added {T : Sms} (hT : OkS T) (P : List Pf) (a n : Nat) (prev sum : List Int) (j : Nat) :
    (lookN T a n prev sum = 0 ∧ a = j ∧ headOf (addSt T P a n prev sum).1 j = (((cnt T j + 1 : Nat) : Int), sum) ∧ n = cnt T j + 1 ∧ headOf T j = ((cnt T j : Int), prev)) ∨ (¬ (lookN T a n prev sum = 0 ∧ a = j) ∧ headOf (addSt T P a n prev sum).1 j = headOf T j) := by
  by_cases h0 : lookN T a n prev sum = 0
  · obtain ⟨h8, hn, hc, hp⟩ := lookN_le T a n prev sum h0
    have e : (addSt T P a n prev sum).1 = addS T a sum := by unfold addSt; rw [if_pos h0]
    rw [e]
    by_cases q : a = j
    · subst q
      exact .inl ⟨h0, rfl, headOf_add hT a sum, hn, by rw [hp]; rfl⟩
    · exact .inr ⟨fun h => q h.2, headOf_add_ne T a j sum (fun h => q h.symm)⟩
  · have e : (addSt T P a n prev sum).1 = T := by
      unfold addSt; rw [if_neg h0]; split <;> rfl
    rw [e]
    exact .inr ⟨fun h => h0 h.1, rfl⟩
theorem okS_addSt {T : Sms} (hT : OkS T) (P : List Pf) (a n : Nat) (prev sum : List Int) (hs : okK sum) : OkS (addSt T P a n prev sum).1 := by
  by_cases h0 : lookN T a n prev sum = 0
  · obtain ⟨h8, hn, hc, hp⟩ := lookN_le T a n prev sum h0
    have e : (addSt T P a n prev sum).1 = addS T a sum := by unfold addSt; rw [if_pos h0]
    rw [e]; exact hT.add a sum hs hc
  · have e : (addSt T P a n prev sum).1 = T := by
      unfold addSt; rw [if_neg h0]; split <;> rfl
    rw [e]; exact hT
theorem heads_range {W : World} {G : Nat} {T : Sms} (hT : OkS T) (h : CellsAt W G 41 (headsC (headsOf T))) (j : Nat) (hj : j < 8) : W.rangeAt G (j * 33) (headC (headOf T j)) := by
  have := h.range (j * 33) 33
  have hp := headsC_part (headsOf T) hT.heads_ok j (by rw [headsOf_length]; omega) []
  rw [List.append_nil, headsOf_get _ j hj] at hp
  rw [hp] at this
  exact this
set_option maxHeartbeats 32000000 in
theorem chainCounts_walk (x : Option Addr) (len cap : Nat) (ds : List Dc) (F : Fr) (xw : Option Addr) (lw cw : Nat) (ws : List Wp) (xb : Option Addr) (lb cb : Nat) (body : List Int) (w : World) (hd : DeedsC w x len cap ds) (hFr : FrIn w F xw lw cw ws xb lb cb body) (hKT : S.KTab w) :
    Calls Tryd.prog 10 #[.slice x len cap, .agg F.cells.toArray] w fun e w' => e = .returned (.bool true) ∧ Below w.heap.size w w' := by
  obtain ⟨f70, f0, f1, -, f4, f36, f37, -⟩ := fr_parts F hFr.prev hFr.mac
  have hb0 : Below w.heap.size w (w.alloc (.cells F.cells.toArray 38)) := (Below.refl _ _).alloc (Nat.le_refl _) _
  have hA0 := CellsAt.new w 38 F.cells
  have hP := playC_any x len cap ds (w.alloc (.cells F.cells.toArray 38)) (hd.below hb0) (hKT.below hb0)
  rw [World.size_alloc] at hP
  have HKT : Veil (∀ W, Below w.heap.size w W → S.KTab W) := ⟨fun W hb => hKT.below hb⟩
  have HFR := Veil.mk hFr
  obtain ⟨a, ha⟩ : ∃ a : Nat, F.author = (a : Int) := Int.eq_ofNat_of_zero_le hFr.inF.author.1
  obtain ⟨n, hn⟩ : ∃ n : Nat, F.number = (n : Int) := Int.eq_ofNat_of_zero_le hFr.inF.number.1
  have ha5 : (a : Int) ≤ 255 := by rw [← ha]; exact hFr.inF.author.2
  have HAN := Veil.mk (And.intro ha hn)
  have HAC : Veil (∀ W, CellsAt W w.heap.size 38 F.cells → W.cell? ⟨w.heap.size, 37, none⟩ = some (.slice xb lb cb) ∧ W.cell? ⟨w.heap.size, 36, none⟩ = some (.slice xw lw cw) ∧ W.cell? ⟨w.heap.size, 0, none⟩ = some (.int .u8 (a : Int)) ∧ W.cell? ⟨w.heap.size, 1, none⟩ = some (.int .u32 (n : Int)) ∧ W.rangeAt w.heap.size 4 (F.prev.map (Value.int .u8)) ∧ W.rangeAt w.heap.size 0 F.cells) := ⟨fun W h => ⟨by rw [h.cell, f37, hFr.body_], by rw [h.cell, f36, hFr.wraps], by rw [h.cell, f0, ha], by rw [h.cell, f1, hn], by have := h.range 4 32; rw [f4] at this; exact this, h.wholeM⟩⟩
  have iF : (Tryd.prog.info? 38).map (·.size) = some F.cells.length := by rw [f70]; exact sizeFrame
  obtain ⟨Z, hzv, hz1, hZ⟩ := zeroHeadsH
  have hZl : Z.length = 264 := by rw [hZ]; exact okS_no.headsLen
  clear hd hKT hFr ha hn f70 f0 f1 f4 f36 f37 hZ
  go_enter Tryd.func10, Tryd.ntmps10
  go_upto_region 2 with (go_at_call 11; refine hP.mono ?_; rintro e w1 ⟨H, b, R, rfl, ⟨v, us, vp, T, P, hB1⟩, hb1⟩)
  have hA1 : CellsAt w1 w.heap.size 38 F.cells := hA0.farM (by rw [World.size_alloc]; exact hb1)
  have hw1 : Below w.heap.size w w1 := hb0.trans (hb1.mono (by omega))
  have hs1 : w.heap.size + 1 ≤ w1.heap.size := by have := hb1.size; rw [World.size_alloc] at this; exact this
  have hC1 := hB1.c
  clear hB1 hb1 hA0 hb0 hP
  obtain ⟨c37, c36, -⟩ := HAC.out w1 hA1
  have hlv := live_any w1 (HKT.out w1 hw1)
  have HL2 : Veil (∀ w2, Below w1.heap.size w1 w2 → (w2.cell? ⟨w.heap.size, 37, none⟩ = some (.slice xb lb cb) ∧ w2.cell? ⟨w.heap.size, 36, none⟩ = some (.slice xw lw cw)) ∧ Calls Tryd.prog 12 #[] w2 fun e w' => e = .returned (.bool true) ∧ Below w2.heap.size w2 w') := ⟨fun w2 hb2 => ⟨⟨(HAC.out w2 (hA1.farM hb2)).1, (HAC.out w2 (hA1.farM hb2)).2.1⟩, live_any w2 (HKT.out w2 (hw1.trans (hb2.mono hw1.size)))⟩⟩
  by_cases hlb : (lb : Int) > 300
  · go_wp2_with (first
      | (go_at_call 12; refine hlv2.mono ?_; rintro e w3 ⟨rfl, hb3⟩)
      | (go_at_call 12; refine hlv.mono ?_; rintro e w2 ⟨rfl, hb2⟩; obtain ⟨⟨d37, d36⟩, hlv2⟩ := HL2.out w2 hb2; clear hlv))
    go_ret
    have h2 := hw1.trans (hb2.mono hw1.size)
    exact ⟨rfl, h2.trans (hb3.mono h2.size)⟩
  by_cases hlw : (lw : Int) > 3
  · go_wp2_with (first
      | (go_at_call 12; refine hlv2.mono ?_; rintro e w3 ⟨rfl, hb3⟩)
      | (go_at_call 12; refine hlv.mono ?_; rintro e w2 ⟨rfl, hb2⟩; obtain ⟨⟨d37, d36⟩, hlv2⟩ := HL2.out w2 hb2; clear hlv))
    go_ret
    have h2 := hw1.trans (hb2.mono hw1.size)
    exact ⟨rfl, h2.trans (hb3.mono h2.size)⟩
  have hT := hC1.ok
  have hpok : okK F.prev := ⟨HFR.out.prev, HFR.out.inF.prev⟩
  have hsok := fsum_ok F lw lb ws body
  have HOKX := Veil.mk (okS_addSt hT P a n F.prev (fsum F lw lb ws body) hsok)
  have HADD := Veil.mk (heads_added hT P a n F.prev (fsum F lw lb ws body))
  have hhd := fun w2 (hb : Below w1.heap.size w1 w2) => chHeads_any _ _ _ _ _ _ w2 (hC1.far hb)
  have HH1 := Veil.mk hhd
  have HAD : Veil (∀ w2, Below w1.heap.size w1 w2 → Calls Tryd.prog 15 #[.pointer (some ⟨H, 0, none⟩), .agg F.cells.toArray] w2 fun e w' => e = .returned (.int .i64 (lookN T a n F.prev (fsum F lw lb ws body))) ∧ ∃ v', ChainTo w2 w' (w.heap.size + 1) H b v v' (addSt T P a n F.prev (fsum F lw lb ws body)).1 (addSt T P a n F.prev (fsum F lw lb ws body)).2) := ⟨fun w2 hb => by
    have h2 := hw1.trans (hb.mono hw1.size)
    exact add_any _ _ _ _ _ _ w2 F xw lw cw ws xb lb cb body a n (hC1.far hb) (HFR.out.below h2) (HKT.out w2 h2) HAN.out.1 HAN.out.2 (by have := hb.size; omega)⟩
  have HIN : Veil (∀ k, chainP H b v k → k < w1.heap.size ∧ w.heap.size + 1 ≤ k) := ⟨fun k hk => hC1.inside k hk⟩
  have hl1 := hT.headsLen
  have h11 := headsC_one (headsOf T)
  have hl2 := HOKX.out.headsLen
  have h12 := headsC_one (headsOf (addSt T P a n F.prev (fsum F lw lb ws body)).1)
  generalize fsum F lw lb ws body = SM at HOKX HADD HAD hl2 h12 hsok
  generalize (addSt T P a n F.prev SM).2 = PX at HAD
  generalize (addSt T P a n F.prev SM).1 = TX at HAD HOKX HADD hl2 h12
  generalize lookN T a n F.prev SM = LN at HAD HADD
  have HR1 : Veil (∀ W G, CellsAt W G 41 (headsC (headsOf T)) → ∀ j, j < 8 → W.rangeAt G (j * 33) (headC (headOf T j))) := ⟨fun W G h j hj => heads_range hT h j hj⟩
  have HR2 : Veil (∀ W G, CellsAt W G 41 (headsC (headsOf TX)) → ∀ j, j < 8 → W.rangeAt G (j * 33) (headC (headOf TX j))) := ⟨fun W G h j hj => heads_range HOKX.out h j hj⟩
  obtain ⟨HC1, hHC1⟩ : ∃ q, headsC (headsOf T) = q := ⟨_, rfl⟩
  obtain ⟨HC2, hHC2⟩ : ∃ q, headsC (headsOf TX) = q := ⟨_, rfl⟩
  rw [hHC1] at HH1 hl1 h11 HR1
  rw [hHC2] at hl2 h12 HR2
  have HE2 := Veil.mk hHC2
  clear hHC1 hHC2 hhd
  have i1 : (Tryd.prog.info? 41).map (·.size) = some HC1.length := by rw [hl1]; exact sizeHeads
  have i2 : (Tryd.prog.info? 41).map (·.size) = some HC2.length := by rw [hl2]; exact sizeHeads
  go_upto_region 5 with (first
    | (go_at_call 12; refine hlv.mono ?_; rintro e w2 ⟨rfl, hb2⟩; obtain ⟨⟨d37, d36⟩, -⟩ := HL2.out w2 hb2; have hh1 := HH1.out w2 hb2; clear hlv)
    | (go_at_call 14; refine hh1.mono ?_; rintro e w3 ⟨rfl, hb3⟩; have hG3 := CellsAt.new w3 41 Z; clear hh1)
    | (refine wpList_stv rfl 41 _ _ rfl _ rfl rfl hG3 i1 (by rw [hl1, hZl]) h11 ?_))
  have hb13 := hb2.trans (hb3.mono hb2.size)
  have hb4 : Below w3.heap.size w3 ((w3.alloc (.cells Z.toArray 41)).setRow w3.heap.size HC1.toArray) := below_setRow ((Below.refl _ _).alloc (Nat.le_refl _) _) (Nat.le_refl _) _
  have hb14 := hb13.trans (hb4.mono hb13.size)
  refine forget (p := fun y => Code.wp _ _ _ _ y) (fun W => Below w1.heap.size w1 W ∧ CellsAt W w3.heap.size 41 HC1) ⟨hb14, hG3.setRow HC1⟩ ?_
  have hG3s : w1.heap.size ≤ w3.heap.size := hb13.size
  clear hb14 hb4 hb13 hb2 hb3 hG3 d37 d36 c37 c36 HL2 HH1
  obtain ⟨G1, hG1e⟩ : ∃ q, w3.heap.size = q := ⟨_, rfl⟩
  rw [hG1e] at hG3s ⊢
  clear hG1e
  rintro W ⟨hb, hG1⟩
  have had := HAD.out W hb
  have rA := (HAC.out W (hA1.farM hb)).2.2.2.2.2
  have HST : Veil (∀ w5 v', ChainTo W w5 (w.heap.size + 1) H b v v' TX PX → Below w.heap.size w w5 ∧ CellsAt w5 w.heap.size 38 F.cells ∧ CellsAt w5 G1 41 HC1 ∧ Calls Tryd.prog 14 #[.pointer (some ⟨H, 0, none⟩)] w5 fun e w' => e = .returned (.agg HC2.toArray) ∧ Below w5.heap.size w5 w') := ⟨fun w5 v' hto => by
    have hAW := hA1.farM hb
    refine ⟨(hw1.trans (hb.mono hw1.size)).trans ((hto.below (hC1.far hb) (by have := hb.size; omega)).mono (by omega)), hAW.congr (hto.turn.block _ hAW.lt (fun hp => by have := (HIN.out _ hp).2; omega)), hG1.congr (hto.turn.block _ hG1.lt (fun hp => by have := (HIN.out _ hp).1; omega)), ?_⟩
    have := chHeads_any _ _ _ _ _ _ w5 hto.at_
    rw [HE2.out] at this
    exact this⟩
  go_upto_region 7 with (first
    | (refine wpList_ldv rfl 38 _ rfl _ _ rfl F.cells rA Tryd.underlying38 rfl iF ?_)
    | (go_at_call 15; refine had.mono ?_; rintro e w5 ⟨rfl, v5, hto5⟩; obtain ⟨hw5, hA5, hG5, hh5⟩ := HST.out w5 v5 hto5; clear had rA)
    | (go_at_call 14; refine hh5.mono ?_; rintro e w6 ⟨rfl, hb6⟩; have hG6 := CellsAt.new w6 41 Z; clear hh5)
    | (refine wpList_stv rfl 41 _ _ rfl _ rfl rfl hG6 i2 (by rw [hl2, hZl]) h12 ?_))
  have hb7 : Below w6.heap.size w6 ((w6.alloc (.cells Z.toArray 41)).setRow w6.heap.size HC2.toArray) := below_setRow ((Below.refl _ _).alloc (Nat.le_refl _) _) (Nat.le_refl _) _
  have hw6 := hw5.trans (hb6.mono hw5.size)
  refine forget (p := fun y => Code.wp _ _ _ _ y) (fun W => Below w.heap.size w W ∧ CellsAt W w.heap.size 38 F.cells ∧ CellsAt W G1 41 HC1 ∧ CellsAt W w6.heap.size 41 HC2) ⟨hw6.trans (hb7.mono hw6.size), (hA5.farM hb6).farM hb7, (hG5.farM hb6).farM hb7, hG6.setRow HC2⟩ ?_
  clear hb7 hw6 hb6 hw5 hA5 hG5 hG6 hto5 HST hG1 hb hA1 hC1 HIN HAD hG3s hw1 hs1 iF i1 i2 hl1 hl2 h11 h12 hzv hz1 hZl HKT HFR hlb hlw
  obtain ⟨G2, hG2e⟩ : ∃ q, w6.heap.size = q := ⟨_, rfl⟩
  rw [hG2e]
  clear hG2e
  rintro W7 ⟨hw7, hA7, hG7, hK7⟩
  go_wp2
  go_loopw [11, 12] (fun q _ wr => ∃ j : Nat, j ≤ 8 ∧ q = .int .i64 j ∧ Below w.heap.size w wr ∧ CellsAt wr w.heap.size 38 F.cells ∧ CellsAt wr G1 41 HC1 ∧ CellsAt wr G2 41 HC2) (fun q _ _ => 8 - (intOf q).toNat)
  case atStart => exact ⟨0, Nat.zero_le _, rfl, hw7, hA7, hG7, hK7⟩
  case round =>
    clear hw7 hA7 hG7 hK7
    obtain ⟨j, hj, rfl, hb, hA, hG, hK⟩ := hrel
    by_cases hj8 : j < 8
    · have hji : (j : Int) < 8 := by omega
      have hj0 : (0 : Int) ≤ (j : Int) := by omega
      have hw1 : IntKind.i64.wrap ((j : Int) + 1) = (j : Int) + 1 := by rw [IntKind.wrap_i64]; omega
      have ha0 : (0 : Int) ≤ (a : Int) := by omega
      obtain ⟨-, -, c0, c1, r4, -⟩ := HAC.out wr hA
      have r1 := HR1.out wr G1 hG j hj8
      have r2 := HR2.out wr G2 hK j hj8
      rcases HADD.out j with ⟨h0, haj, e1, e2, e3⟩ | ⟨hng, e1⟩
      · subst haj
        rw [e3] at r1
        rw [e1] at r2
        have hcl := hT.cnt_le a
        have hL0 : (LN == 0) = true := by simp [h0]
        have k1 : wr.cell? ⟨G1, a * 33, none⟩ = some (.int .u32 (cnt T a : Int)) := r1 0 _ rfl
        have k2 : wr.cell? ⟨G2, a * 33, none⟩ = some (.int .u32 ((cnt T a + 1 : Nat) : Int)) := r2 0 _ rfl
        have s1 : wr.rangeAt G1 (a * 33 + 1) (F.prev.map (Value.int .u8)) := fun i v hv => by
          have := r1 (i + 1) v hv
          rw [show a * 33 + (i + 1) = a * 33 + 1 + i by omega] at this
          exact this
        rw [e2] at c1
        have hneq : ∀ wx, (binOp .neq 34 (.agg (F.prev.map (Value.int .u8)).toArray) (.agg (F.prev.map (Value.int .u8)).toArray)).run Tryd.prog wx = .ok (.bool false) wx := fun wx => by
          have := neqKey F.prev F.prev hpok hpok wx
          rw [show (!decide (F.prev = F.prev)) = false by simp] at this
          exact this
        have iP : (Tryd.prog.info? 34).map (·.size) = some (F.prev.map (Value.int .u8)).length := by rw [List.length_map, hpok.1]; exact sizeKeyH
        have uK : Tryd.prog.underlying 34 = _ := Tryd.underlying34
        clear h0 e1 e2 e3 r1 r2
        obtain ⟨C, hC⟩ : ∃ q, cnt T a = q := ⟨_, rfl⟩
        rw [hC] at hcl k1 k2 c1
        clear hC
        have hwc : IntKind.u32.wrap ((C : Int) + 1) = (C : Int) + 1 := by rw [IntKind.wrap_u32]; omega
        have hcc : ((C + 1 : Nat) : Int) = (C : Int) + 1 := by omega
        rw [hcc] at k2 c1
        clear hcc
        generalize F.prev.map (Value.int .u8) = PV at r4 s1 hneq iP
        go_upto_region 11 with fail
        refine wp_region_gateT (fun w' => w'.cell? ⟨G1, a * 33, none⟩ = some (.int .u32 (C : Int)) ∧ w'.cell? ⟨G2, a * 33, none⟩ = some (.int .u32 ((C : Int) + 1)) ∧ w'.cell? ⟨w.heap.size, 1, none⟩ = some (.int .u32 ((C : Int) + 1)) ∧ w'.rangeAt w.heap.size 4 PV ∧ w'.rangeAt G1 (a * 33 + 1) PV) (fun _ => True) 99 (by kernel_rfl) ?_
        have hT : (fun w' : World => w'.cell? ⟨G1, a * 33, none⟩ = some (.int .u32 (C : Int)) ∧ w'.cell? ⟨G2, a * 33, none⟩ = some (.int .u32 ((C : Int) + 1)) ∧ w'.cell? ⟨w.heap.size, 1, none⟩ = some (.int .u32 ((C : Int) + 1)) ∧ w'.rangeAt w.heap.size 4 PV ∧ w'.rangeAt G1 (a * 33 + 1) PV) wr.drew := ⟨k1, k2, c1, r4, s1⟩
        have hS := trivial
        refine wpAnyT_held (i := 0) (v := ?_) rfl (by kernel_rfl) (by kernel_rfl) (by kernel_rfl) (fun _ _ _ h => h) (by kernel_rfl) hT (fun _ => hS) (by kernel_rfl) ?_ ?_
        rotate_left
        · intro wx hSw; go_split_ands; go_simp; try with_reducible rfl
        simp only [Act.put, List.getElem_toArray, List.getElem_cons_succ, List.getElem_cons_zero, List.setIfInBounds_toArray, List.set_cons_zero, List.set_cons_succ]
        refine wpAnyT_held (i := 1) (v := ?_) rfl (by kernel_rfl) (by kernel_rfl) (by kernel_rfl) (fun _ _ _ h => h) (by kernel_rfl) hT (fun _ => hS) (by kernel_rfl) ?_ ?_
        rotate_left
        · intro wx hSw; go_split_ands; go_simp; try with_reducible rfl
        simp only [Act.put, List.getElem_toArray, List.getElem_cons_succ, List.getElem_cons_zero, List.setIfInBounds_toArray, List.set_cons_zero, List.set_cons_succ]
        refine wpAnyT_held (i := 2) (v := ?_) rfl (by kernel_rfl) (by kernel_rfl) (by kernel_rfl) (fun _ _ _ h => h) (by kernel_rfl) hT (fun _ => hS) (by kernel_rfl) ?_ ?_
        rotate_left
        · intro wx hSw; go_split_ands; go_simp; try with_reducible rfl
        simp only [Act.put, List.getElem_toArray, List.getElem_cons_succ, List.getElem_cons_zero, List.setIfInBounds_toArray, List.set_cons_zero, List.set_cons_succ]
        refine wpAnyT_held (i := 3) (v := ?_) rfl (by kernel_rfl) (by kernel_rfl) (by kernel_rfl) (fun _ _ _ h => h) (by kernel_rfl) hT (fun _ => hS) (by kernel_rfl) ?_ ?_
        rotate_left
        · intro wx hSw; go_split_ands; go_simp; try with_reducible rfl
        simp only [Act.put, List.getElem_toArray, List.getElem_cons_succ, List.getElem_cons_zero, List.setIfInBounds_toArray, List.set_cons_zero, List.set_cons_succ]
        refine wpAnyT_held (i := 4) (v := ?_) rfl (by kernel_rfl) (by kernel_rfl) (by kernel_rfl) (fun _ _ _ h => h) (by kernel_rfl) hT (fun _ => hS) (by kernel_rfl) ?_ ?_
        rotate_left
        · intro wx hSw; go_split_ands; go_simp; try with_reducible rfl
        simp only [Act.put, List.getElem_toArray, List.getElem_cons_succ, List.getElem_cons_zero, List.setIfInBounds_toArray, List.set_cons_zero, List.set_cons_succ]
        refine wpAnyT_held (i := 5) (v := ?_) rfl (by kernel_rfl) (by kernel_rfl) (by kernel_rfl) (fun _ _ _ h => h) (by kernel_rfl) hT (fun _ => hS) (by kernel_rfl) ?_ ?_
        rotate_left
        · intro wx hSw; go_split_ands; go_simp; try with_reducible rfl
        simp only [Act.put, List.getElem_toArray, List.getElem_cons_succ, List.getElem_cons_zero, List.setIfInBounds_toArray, List.set_cons_zero, List.set_cons_succ]
        refine wpAnyT_held (i := 6) (v := ?_) rfl (by kernel_rfl) (by kernel_rfl) (by kernel_rfl) (fun _ _ _ h => h) (by kernel_rfl) hT (fun _ => hS) (by kernel_rfl) ?_ ?_
        rotate_left
        · intro wx hSw; go_split_ands; go_simp; try with_reducible rfl
        simp only [Act.put, List.getElem_toArray, List.getElem_cons_succ, List.getElem_cons_zero, List.setIfInBounds_toArray, List.set_cons_zero, List.set_cons_succ]
        refine wpAnyT_held (i := 7) (v := ?_) rfl (by kernel_rfl) (by kernel_rfl) (by kernel_rfl) (fun _ _ _ h => h) (by kernel_rfl) hT (fun _ => hS) (by kernel_rfl) ?_ ?_
        rotate_left
        · intro wx hSw; go_split_ands; go_simp; try with_reducible rfl
        simp only [Act.put, List.getElem_toArray, List.getElem_cons_succ, List.getElem_cons_zero, List.setIfInBounds_toArray, List.set_cons_zero, List.set_cons_succ]
        refine wpAnyT_held (i := 8) (v := ?_) rfl (by kernel_rfl) (by kernel_rfl) (by kernel_rfl) (fun _ _ _ h => h) (by kernel_rfl) hT (fun _ => hS) (by kernel_rfl) ?_ ?_
        rotate_left
        · intro wx hSw; go_split_ands; go_simp; try with_reducible rfl
        simp only [Act.put, List.getElem_toArray, List.getElem_cons_succ, List.getElem_cons_zero, List.setIfInBounds_toArray, List.set_cons_zero, List.set_cons_succ]
        refine wpAnyT_held (i := 9) (v := ?_) rfl (by kernel_rfl) (by kernel_rfl) (by kernel_rfl) (fun _ _ _ h => h) (by kernel_rfl) hT (fun _ => hS) (by kernel_rfl) ?_ ?_
        rotate_left
        · intro wx hSw; go_split_ands; go_simp; try with_reducible rfl
        simp only [Act.put, List.getElem_toArray, List.getElem_cons_succ, List.getElem_cons_zero, List.setIfInBounds_toArray, List.set_cons_zero, List.set_cons_succ]
        refine wpAnyT_held (i := 10) (v := ?_) rfl (by kernel_rfl) (by kernel_rfl) (by kernel_rfl) (fun _ _ _ h => h) (by kernel_rfl) hT (fun _ => hS) (by kernel_rfl) ?_ ?_
        rotate_left
        · intro wx hSw; go_split_ands; go_simp; try with_reducible rfl
        simp only [Act.put, List.getElem_toArray, List.getElem_cons_succ, List.getElem_cons_zero, List.setIfInBounds_toArray, List.set_cons_zero, List.set_cons_succ]
        refine wpAnyT_held (i := 11) (v := .bool false) rfl (by kernel_rfl) (by kernel_rfl) (by kernel_rfl) (fun _ _ _ h => h) (by kernel_rfl) hT (fun _ => hS) (by kernel_rfl) ?_ ?_
        · intro wx hSw; go_split_ands; go_simp
        simp only [Act.put, List.getElem_toArray, List.getElem_cons_succ, List.getElem_cons_zero, List.setIfInBounds_toArray, List.set_cons_zero, List.set_cons_succ]
        refine wpAnyT_held (i := 12) (v := ?_) rfl (by kernel_rfl) (by kernel_rfl) (by kernel_rfl) (fun _ _ _ h => h) (by kernel_rfl) hT (fun _ => hS) (by kernel_rfl) ?_ ?_
        rotate_left
        · intro wx hSw; go_split_ands; go_simp; try with_reducible rfl
        simp only [Act.put, List.getElem_toArray, List.getElem_cons_succ, List.getElem_cons_zero, List.setIfInBounds_toArray, List.set_cons_zero, List.set_cons_succ]
        refine wpAnyT_held (i := 13) (v := ?_) rfl (by kernel_rfl) (by kernel_rfl) (by kernel_rfl) (fun _ _ _ h => h) (by kernel_rfl) hT (fun _ => hS) (by kernel_rfl) ?_ ?_
        rotate_left
        · intro wx hSw; go_split_ands; go_simp; try with_reducible rfl
        simp only [Act.put, List.getElem_toArray, List.getElem_cons_succ, List.getElem_cons_zero, List.setIfInBounds_toArray, List.set_cons_zero, List.set_cons_succ]
        refine wpAnyT_held (i := 14) (v := ?_) rfl (by kernel_rfl) (by kernel_rfl) (by kernel_rfl) (fun _ _ _ h => h) (by kernel_rfl) hT (fun _ => hS) (by kernel_rfl) ?_ ?_
        rotate_left
        · intro wx hSw; go_split_ands; go_simp; try with_reducible rfl
        simp only [Act.put, List.getElem_toArray, List.getElem_cons_succ, List.getElem_cons_zero, List.setIfInBounds_toArray, List.set_cons_zero, List.set_cons_succ]
        refine wpAnyT_held (i := 15) (v := ?_) rfl (by kernel_rfl) (by kernel_rfl) (by kernel_rfl) (fun _ _ _ h => h) (by kernel_rfl) hT (fun _ => hS) (by kernel_rfl) ?_ ?_
        rotate_left
        · intro wx hSw; go_split_ands; go_simp; try with_reducible rfl
        simp only [Act.put, List.getElem_toArray, List.getElem_cons_succ, List.getElem_cons_zero, List.setIfInBounds_toArray, List.set_cons_zero, List.set_cons_succ]
        refine wpAnyT_held (i := 16) (v := ?_) rfl (by kernel_rfl) (by kernel_rfl) (by kernel_rfl) (fun _ _ _ h => h) (by kernel_rfl) hT (fun _ => hS) (by kernel_rfl) ?_ ?_
        rotate_left
        · intro wx hSw; go_split_ands; go_simp; try with_reducible rfl
        simp only [Act.put, List.getElem_toArray, List.getElem_cons_succ, List.getElem_cons_zero, List.setIfInBounds_toArray, List.set_cons_zero, List.set_cons_succ]
        refine wpAnyT_held (i := 17) (v := ?_) rfl (by kernel_rfl) (by kernel_rfl) (by kernel_rfl) (fun _ _ _ h => h) (by kernel_rfl) hT (fun _ => hS) (by kernel_rfl) ?_ ?_
        rotate_left
        · intro wx hSw; go_split_ands; go_simp; try with_reducible rfl
        simp only [Act.put, List.getElem_toArray, List.getElem_cons_succ, List.getElem_cons_zero, List.setIfInBounds_toArray, List.set_cons_zero, List.set_cons_succ]
        refine wpAnyT_held (i := 18) (v := ?_) rfl (by kernel_rfl) (by kernel_rfl) (by kernel_rfl) (fun _ _ _ h => h) (by kernel_rfl) hT (fun _ => hS) (by kernel_rfl) ?_ ?_
        rotate_left
        · intro wx hSw; go_split_ands; go_simp; try with_reducible rfl
        simp only [Act.put, List.getElem_toArray, List.getElem_cons_succ, List.getElem_cons_zero, List.setIfInBounds_toArray, List.set_cons_zero, List.set_cons_succ]
        refine wpAnyT_held (i := 19) (v := .bool false) rfl (by kernel_rfl) (by kernel_rfl) (by kernel_rfl) (fun _ _ _ h => h) (by kernel_rfl) hT (fun _ => hS) (by kernel_rfl) ?_ ?_
        · intro wx hSw; go_split_ands; go_simp
        simp only [Act.put, List.getElem_toArray, List.getElem_cons_succ, List.getElem_cons_zero, List.setIfInBounds_toArray, List.set_cons_zero, List.set_cons_succ]
        refine wpAnyT_held (i := 20) (v := .bool false) rfl (by kernel_rfl) (by kernel_rfl) (by kernel_rfl) (fun _ _ _ h => h) (by kernel_rfl) hT (fun _ => hS) (by kernel_rfl) ?_ ?_
        · intro wx hSw; go_split_ands; go_simp
        simp only [Act.put, List.getElem_toArray, List.getElem_cons_succ, List.getElem_cons_zero, List.setIfInBounds_toArray, List.set_cons_zero, List.set_cons_succ]
        refine wpAnyT_held (i := 21) (v := ?_) rfl (by kernel_rfl) (by kernel_rfl) (by kernel_rfl) (fun _ _ _ h => h) (by kernel_rfl) hT (fun _ => hS) (by kernel_rfl) ?_ ?_
        rotate_left
        · intro wx hSw; go_split_ands; go_simp; try with_reducible rfl
        simp only [Act.put, List.getElem_toArray, List.getElem_cons_succ, List.getElem_cons_zero, List.setIfInBounds_toArray, List.set_cons_zero, List.set_cons_succ]
        refine wpAnyT_held (i := 22) (v := ?_) rfl (by kernel_rfl) (by kernel_rfl) (by kernel_rfl) (fun _ _ _ h => h) (by kernel_rfl) hT (fun _ => hS) (by kernel_rfl) ?_ ?_
        rotate_left
        · intro wx hSw; go_split_ands; go_simp; try with_reducible rfl
        simp only [Act.put, List.getElem_toArray, List.getElem_cons_succ, List.getElem_cons_zero, List.setIfInBounds_toArray, List.set_cons_zero, List.set_cons_succ]
        refine wpAnyT_load (i := 23) (dst := some 84) (ty := 34) (x := .tmp 83) (b := w.heap.size) (o := (4)) (cs := PV) (by kernel_rfl) (by kernel_rfl) (by kernel_rfl) (by kernel_rfl) (by kernel_rfl) (fun _ _ _ h => h) (by kernel_rfl) hT (fun _ => hS) (by kernel_rfl) (fun _ h => h.2.2.2.1) uK rfl iP ?_
        simp only [Act.put, List.getElem_toArray, List.getElem_cons_succ, List.getElem_cons_zero, List.setIfInBounds_toArray, List.set_cons_zero, List.set_cons_succ]
        refine wpAnyT_held (i := 24) (v := ?_) rfl (by kernel_rfl) (by kernel_rfl) (by kernel_rfl) (fun _ _ _ h => h) (by kernel_rfl) hT (fun _ => hS) (by kernel_rfl) ?_ ?_
        rotate_left
        · intro wx hSw; go_split_ands; go_simp; try with_reducible rfl
        simp only [Act.put, List.getElem_toArray, List.getElem_cons_succ, List.getElem_cons_zero, List.setIfInBounds_toArray, List.set_cons_zero, List.set_cons_succ]
        refine wpAnyT_held (i := 25) (v := ?_) rfl (by kernel_rfl) (by kernel_rfl) (by kernel_rfl) (fun _ _ _ h => h) (by kernel_rfl) hT (fun _ => hS) (by kernel_rfl) ?_ ?_
        rotate_left
        · intro wx hSw; go_split_ands; go_simp; try with_reducible rfl
        simp only [Act.put, List.getElem_toArray, List.getElem_cons_succ, List.getElem_cons_zero, List.setIfInBounds_toArray, List.set_cons_zero, List.set_cons_succ]
        refine wpAnyT_held (i := 26) (v := ?_) rfl (by kernel_rfl) (by kernel_rfl) (by kernel_rfl) (fun _ _ _ h => h) (by kernel_rfl) hT (fun _ => hS) (by kernel_rfl) ?_ ?_
        rotate_left
        · intro wx hSw; go_split_ands; go_simp; try with_reducible rfl
        simp only [Act.put, List.getElem_toArray, List.getElem_cons_succ, List.getElem_cons_zero, List.setIfInBounds_toArray, List.set_cons_zero, List.set_cons_succ]
        refine wpAnyT_load (i := 27) (dst := some 88) (ty := 34) (x := .tmp 87) (b := G1) (o := ((a * 33 + 1))) (cs := PV) (by kernel_rfl) (by kernel_rfl) (by kernel_rfl) (by kernel_rfl) (by kernel_rfl) (fun _ _ _ h => h) (by kernel_rfl) hT (fun _ => hS) (by kernel_rfl) (fun _ h => h.2.2.2.2) uK rfl iP ?_
        simp only [Act.put, List.getElem_toArray, List.getElem_cons_succ, List.getElem_cons_zero, List.setIfInBounds_toArray, List.set_cons_zero, List.set_cons_succ]
        refine wpAnyT_held (i := 28) (v := .bool false) rfl (by kernel_rfl) (by kernel_rfl) (by kernel_rfl) (fun _ _ _ h => h) (by kernel_rfl) hT (fun _ => hS) (by kernel_rfl) ?_ ?_
        · intro wx hSw; go_split_ands; go_simp
        simp only [Act.put, List.getElem_toArray, List.getElem_cons_succ, List.getElem_cons_zero, List.setIfInBounds_toArray, List.set_cons_zero, List.set_cons_succ]
        refine wpAnyT_held (i := 29) (v := .bool false) rfl (by kernel_rfl) (by kernel_rfl) (by kernel_rfl) (fun _ _ _ h => h) (by kernel_rfl) hT (fun _ => hS) (by kernel_rfl) ?_ ?_
        · intro wx hSw; go_split_ands; go_simp
        simp only [Act.put, List.getElem_toArray, List.getElem_cons_succ, List.getElem_cons_zero, List.setIfInBounds_toArray, List.set_cons_zero, List.set_cons_succ]
        refine wpAnyT_held (i := 30) (v := .bool false) rfl (by kernel_rfl) (by kernel_rfl) (by kernel_rfl) (fun _ _ _ h => h) (by kernel_rfl) hT (fun _ => hS) (by kernel_rfl) ?_ ?_
        · intro wx hSw; go_split_ands; go_simp
        simp only [Act.put, List.getElem_toArray, List.getElem_cons_succ, List.getElem_cons_zero, List.setIfInBounds_toArray, List.set_cons_zero, List.set_cons_succ]
        refine wpAnyT_held (i := 31) (v := ?_) rfl (by kernel_rfl) (by kernel_rfl) (by kernel_rfl) (fun _ _ _ h => h) (by kernel_rfl) hT (fun _ => hS) (by kernel_rfl) ?_ ?_
        rotate_left
        · intro wx hSw; go_split_ands; go_simp; try with_reducible rfl
        simp only [Act.put, List.getElem_toArray, List.getElem_cons_succ, List.getElem_cons_zero, List.setIfInBounds_toArray, List.set_cons_zero, List.set_cons_succ]
        refine wpAnyT_held (i := 32) (v := ?_) rfl (by kernel_rfl) (by kernel_rfl) (by kernel_rfl) (fun _ _ _ h => h) (by kernel_rfl) hT (fun _ => hS) (by kernel_rfl) ?_ ?_
        rotate_left
        · intro wx hSw; go_split_ands; go_simp; try with_reducible rfl
        simp only [Act.put, List.getElem_toArray, List.getElem_cons_succ, List.getElem_cons_zero, List.setIfInBounds_toArray, List.set_cons_zero, List.set_cons_succ]
        refine wpAnyT_held (i := 33) (v := .bool false) rfl (by kernel_rfl) (by kernel_rfl) (by kernel_rfl) (fun _ _ _ h => h) (by kernel_rfl) hT (fun _ => hS) (by kernel_rfl) ?_ ?_
        · intro wx hSw; go_split_ands; go_simp
        simp only [Act.put, List.getElem_toArray, List.getElem_cons_succ, List.getElem_cons_zero, List.setIfInBounds_toArray, List.set_cons_zero, List.set_cons_succ]
        refine wpAnyT_held (i := 34) (v := ?_) rfl (by kernel_rfl) (by kernel_rfl) (by kernel_rfl) (fun _ _ _ h => h) (by kernel_rfl) hT (fun _ => hS) (by kernel_rfl) ?_ ?_
        rotate_left
        · intro wx hSw; go_split_ands; go_simp; try with_reducible rfl
        simp only [Act.put, List.getElem_toArray, List.getElem_cons_succ, List.getElem_cons_zero, List.setIfInBounds_toArray, List.set_cons_zero, List.set_cons_succ]
        refine wpAnyT_skip (i := 35) rfl (by kernel_rfl) (by kernel_rfl) (by kernel_rfl) (fun _ _ _ h => h) (by kernel_rfl) hT (fun _ => hS) (by kernel_rfl) ?_
        simp only [Act.put, List.getElem_toArray, List.getElem_cons_succ, List.getElem_cons_zero, List.setIfInBounds_toArray, List.set_cons_zero, List.set_cons_succ]
        refine wpAnyT_skip (i := 36) rfl (by kernel_rfl) (by kernel_rfl) (by kernel_rfl) (fun _ _ _ h => h) (by kernel_rfl) hT (fun _ => hS) (by kernel_rfl) ?_
        simp only [Act.put, List.getElem_toArray, List.getElem_cons_succ, List.getElem_cons_zero, List.setIfInBounds_toArray, List.set_cons_zero, List.set_cons_succ]
        refine wpAnyT_skip (i := 37) rfl (by kernel_rfl) (by kernel_rfl) (by kernel_rfl) (fun _ _ _ h => h) (by kernel_rfl) hT (fun _ => hS) (by kernel_rfl) ?_
        simp only [Act.put, List.getElem_toArray, List.getElem_cons_succ, List.getElem_cons_zero, List.setIfInBounds_toArray, List.set_cons_zero, List.set_cons_succ]
        refine wpAnyT_skip (i := 38) rfl (by kernel_rfl) (by kernel_rfl) (by kernel_rfl) (fun _ _ _ h => h) (by kernel_rfl) hT (fun _ => hS) (by kernel_rfl) ?_
        simp only [Act.put, List.getElem_toArray, List.getElem_cons_succ, List.getElem_cons_zero, List.setIfInBounds_toArray, List.set_cons_zero, List.set_cons_succ]
        refine wpAnyT_skip (i := 39) rfl (by kernel_rfl) (by kernel_rfl) (by kernel_rfl) (fun _ _ _ h => h) (by kernel_rfl) hT (fun _ => hS) (by kernel_rfl) ?_
        simp only [Act.put, List.getElem_toArray, List.getElem_cons_succ, List.getElem_cons_zero, List.setIfInBounds_toArray, List.set_cons_zero, List.set_cons_succ]
        refine wpAnyT_skip (i := 40) rfl (by kernel_rfl) (by kernel_rfl) (by kernel_rfl) (fun _ _ _ h => h) (by kernel_rfl) hT (fun _ => hS) (by kernel_rfl) ?_
        simp only [Act.put, List.getElem_toArray, List.getElem_cons_succ, List.getElem_cons_zero, List.setIfInBounds_toArray, List.set_cons_zero, List.set_cons_succ]
        refine wpAnyT_skip (i := 41) rfl (by kernel_rfl) (by kernel_rfl) (by kernel_rfl) (fun _ _ _ h => h) (by kernel_rfl) hT (fun _ => hS) (by kernel_rfl) ?_
        simp only [Act.put, List.getElem_toArray, List.getElem_cons_succ, List.getElem_cons_zero, List.setIfInBounds_toArray, List.set_cons_zero, List.set_cons_succ]
        refine wpAnyT_held (i := 42) (v := .bool false) rfl (by kernel_rfl) (by kernel_rfl) (by kernel_rfl) (fun _ _ _ h => h) (by kernel_rfl) hT (fun _ => hS) (by kernel_rfl) ?_ ?_
        · intro wx hSw; go_split_ands; go_simp
        simp only [Act.put, List.getElem_toArray, List.getElem_cons_succ, List.getElem_cons_zero, List.setIfInBounds_toArray, List.set_cons_zero, List.set_cons_succ]
        refine wpAnyT_held (i := 43) (v := .bool false) rfl (by kernel_rfl) (by kernel_rfl) (by kernel_rfl) (fun _ _ _ h => h) (by kernel_rfl) hT (fun _ => hS) (by kernel_rfl) ?_ ?_
        · intro wx hSw; go_split_ands; go_simp
        simp only [Act.put, List.getElem_toArray, List.getElem_cons_succ, List.getElem_cons_zero, List.setIfInBounds_toArray, List.set_cons_zero, List.set_cons_succ]
        refine wpAnyT_done (by kernel_rfl) ?_ _
        clear hT hS k1 k2 c1 r4 s1 hneq c0
        go_wp2
        go_roundw
        case rel => exact ⟨a + 1, hj8, by push_cast; rfl, hb.drew, hA.congr rfl, hG.congr rfl, hK.congr rfl⟩
        case measure => simp [intOf]; omega
      · rw [e1] at r2
        have hHk := hT.head_ok j
        have hHl := headC_len _ hHk.2.1
        have hneq : ∀ wx, (binOp .neq 40 (.agg (headC (headOf T j)).toArray) (.agg (headC (headOf T j)).toArray)).run Tryd.prog wx = .ok (.bool false) wx := fun wx => by
          have := neqHead (headOf T j) (headOf T j) hHk hHk wx
          simpa using this
        have iH : (Tryd.prog.info? 40).map (·.size) = some (headC (headOf T j)).length := by rw [hHl]; exact sizeHead1
        have uH : Tryd.prog.underlying 40 = _ := Tryd.underlying40
        generalize headC (headOf T j) = HD at r1 r2 hneq iH hHl
        clear e1 c1 r4
        by_cases h0 : LN = 0
        focus
          have hL0 : (LN == 0) = true := by simp [h0]
          have haj : ((a : Int) == (j : Int)) = false := by simp; intro q; exact hng ⟨h0, by omega⟩
          clear h0 hng
          go_upto_region 11 with fail
        rotate_left
        focus
          have hL0 : (LN == 0) = false := by simp [h0]
          clear h0 hng
          go_upto_region 11 with fail
        all_goals (
          refine wp_region_gateT (fun w' => w'.rangeAt G1 (j * 33) HD ∧ w'.rangeAt G2 (j * 33) HD) (fun _ => True) 99 (by kernel_rfl) ?_
          have hT : (fun w' : World => w'.rangeAt G1 (j * 33) HD ∧ w'.rangeAt G2 (j * 33) HD) wr.drew := ⟨r1, r2⟩
          have hS := trivial
          refine wpAnyT_held (i := 0) (v := ?_) rfl (by kernel_rfl) (by kernel_rfl) (by kernel_rfl) (fun _ _ _ h => h) (by kernel_rfl) hT (fun _ => hS) (by kernel_rfl) ?_ ?_
          rotate_left
          · intro wx hSw; go_split_ands; go_simp; try with_reducible rfl
          simp only [Act.put, List.getElem_toArray, List.getElem_cons_succ, List.getElem_cons_zero, List.setIfInBounds_toArray, List.set_cons_zero, List.set_cons_succ]
          refine wpAnyT_held (i := 1) (v := ?_) rfl (by kernel_rfl) (by kernel_rfl) (by kernel_rfl) (fun _ _ _ h => h) (by kernel_rfl) hT (fun _ => hS) (by kernel_rfl) ?_ ?_
          rotate_left
          · intro wx hSw; go_split_ands; go_simp; try with_reducible rfl
          simp only [Act.put, List.getElem_toArray, List.getElem_cons_succ, List.getElem_cons_zero, List.setIfInBounds_toArray, List.set_cons_zero, List.set_cons_succ]
          refine wpAnyT_skip (i := 2) rfl (by kernel_rfl) (by kernel_rfl) (by kernel_rfl) (fun _ _ _ h => h) (by kernel_rfl) hT (fun _ => hS) (by kernel_rfl) ?_
          simp only [Act.put, List.getElem_toArray, List.getElem_cons_succ, List.getElem_cons_zero, List.setIfInBounds_toArray, List.set_cons_zero, List.set_cons_succ]
          refine wpAnyT_skip (i := 3) rfl (by kernel_rfl) (by kernel_rfl) (by kernel_rfl) (fun _ _ _ h => h) (by kernel_rfl) hT (fun _ => hS) (by kernel_rfl) ?_
          simp only [Act.put, List.getElem_toArray, List.getElem_cons_succ, List.getElem_cons_zero, List.setIfInBounds_toArray, List.set_cons_zero, List.set_cons_succ]
          refine wpAnyT_skip (i := 4) rfl (by kernel_rfl) (by kernel_rfl) (by kernel_rfl) (fun _ _ _ h => h) (by kernel_rfl) hT (fun _ => hS) (by kernel_rfl) ?_
          simp only [Act.put, List.getElem_toArray, List.getElem_cons_succ, List.getElem_cons_zero, List.setIfInBounds_toArray, List.set_cons_zero, List.set_cons_succ]
          refine wpAnyT_skip (i := 5) rfl (by kernel_rfl) (by kernel_rfl) (by kernel_rfl) (fun _ _ _ h => h) (by kernel_rfl) hT (fun _ => hS) (by kernel_rfl) ?_
          simp only [Act.put, List.getElem_toArray, List.getElem_cons_succ, List.getElem_cons_zero, List.setIfInBounds_toArray, List.set_cons_zero, List.set_cons_succ]
          refine wpAnyT_skip (i := 6) rfl (by kernel_rfl) (by kernel_rfl) (by kernel_rfl) (fun _ _ _ h => h) (by kernel_rfl) hT (fun _ => hS) (by kernel_rfl) ?_
          simp only [Act.put, List.getElem_toArray, List.getElem_cons_succ, List.getElem_cons_zero, List.setIfInBounds_toArray, List.set_cons_zero, List.set_cons_succ]
          refine wpAnyT_skip (i := 7) rfl (by kernel_rfl) (by kernel_rfl) (by kernel_rfl) (fun _ _ _ h => h) (by kernel_rfl) hT (fun _ => hS) (by kernel_rfl) ?_
          simp only [Act.put, List.getElem_toArray, List.getElem_cons_succ, List.getElem_cons_zero, List.setIfInBounds_toArray, List.set_cons_zero, List.set_cons_succ]
          refine wpAnyT_skip (i := 8) rfl (by kernel_rfl) (by kernel_rfl) (by kernel_rfl) (fun _ _ _ h => h) (by kernel_rfl) hT (fun _ => hS) (by kernel_rfl) ?_
          simp only [Act.put, List.getElem_toArray, List.getElem_cons_succ, List.getElem_cons_zero, List.setIfInBounds_toArray, List.set_cons_zero, List.set_cons_succ]
          refine wpAnyT_skip (i := 9) rfl (by kernel_rfl) (by kernel_rfl) (by kernel_rfl) (fun _ _ _ h => h) (by kernel_rfl) hT (fun _ => hS) (by kernel_rfl) ?_
          simp only [Act.put, List.getElem_toArray, List.getElem_cons_succ, List.getElem_cons_zero, List.setIfInBounds_toArray, List.set_cons_zero, List.set_cons_succ]
          refine wpAnyT_skip (i := 10) rfl (by kernel_rfl) (by kernel_rfl) (by kernel_rfl) (fun _ _ _ h => h) (by kernel_rfl) hT (fun _ => hS) (by kernel_rfl) ?_
          simp only [Act.put, List.getElem_toArray, List.getElem_cons_succ, List.getElem_cons_zero, List.setIfInBounds_toArray, List.set_cons_zero, List.set_cons_succ]
          refine wpAnyT_skip (i := 11) rfl (by kernel_rfl) (by kernel_rfl) (by kernel_rfl) (fun _ _ _ h => h) (by kernel_rfl) hT (fun _ => hS) (by kernel_rfl) ?_
          simp only [Act.put, List.getElem_toArray, List.getElem_cons_succ, List.getElem_cons_zero, List.setIfInBounds_toArray, List.set_cons_zero, List.set_cons_succ]
          refine wpAnyT_skip (i := 12) rfl (by kernel_rfl) (by kernel_rfl) (by kernel_rfl) (fun _ _ _ h => h) (by kernel_rfl) hT (fun _ => hS) (by kernel_rfl) ?_
          simp only [Act.put, List.getElem_toArray, List.getElem_cons_succ, List.getElem_cons_zero, List.setIfInBounds_toArray, List.set_cons_zero, List.set_cons_succ]
          refine wpAnyT_skip (i := 13) rfl (by kernel_rfl) (by kernel_rfl) (by kernel_rfl) (fun _ _ _ h => h) (by kernel_rfl) hT (fun _ => hS) (by kernel_rfl) ?_
          simp only [Act.put, List.getElem_toArray, List.getElem_cons_succ, List.getElem_cons_zero, List.setIfInBounds_toArray, List.set_cons_zero, List.set_cons_succ]
          refine wpAnyT_skip (i := 14) rfl (by kernel_rfl) (by kernel_rfl) (by kernel_rfl) (fun _ _ _ h => h) (by kernel_rfl) hT (fun _ => hS) (by kernel_rfl) ?_
          simp only [Act.put, List.getElem_toArray, List.getElem_cons_succ, List.getElem_cons_zero, List.setIfInBounds_toArray, List.set_cons_zero, List.set_cons_succ]
          refine wpAnyT_skip (i := 15) rfl (by kernel_rfl) (by kernel_rfl) (by kernel_rfl) (fun _ _ _ h => h) (by kernel_rfl) hT (fun _ => hS) (by kernel_rfl) ?_
          simp only [Act.put, List.getElem_toArray, List.getElem_cons_succ, List.getElem_cons_zero, List.setIfInBounds_toArray, List.set_cons_zero, List.set_cons_succ]
          refine wpAnyT_skip (i := 16) rfl (by kernel_rfl) (by kernel_rfl) (by kernel_rfl) (fun _ _ _ h => h) (by kernel_rfl) hT (fun _ => hS) (by kernel_rfl) ?_
          simp only [Act.put, List.getElem_toArray, List.getElem_cons_succ, List.getElem_cons_zero, List.setIfInBounds_toArray, List.set_cons_zero, List.set_cons_succ]
          refine wpAnyT_skip (i := 17) rfl (by kernel_rfl) (by kernel_rfl) (by kernel_rfl) (fun _ _ _ h => h) (by kernel_rfl) hT (fun _ => hS) (by kernel_rfl) ?_
          simp only [Act.put, List.getElem_toArray, List.getElem_cons_succ, List.getElem_cons_zero, List.setIfInBounds_toArray, List.set_cons_zero, List.set_cons_succ]
          refine wpAnyT_skip (i := 18) rfl (by kernel_rfl) (by kernel_rfl) (by kernel_rfl) (fun _ _ _ h => h) (by kernel_rfl) hT (fun _ => hS) (by kernel_rfl) ?_
          simp only [Act.put, List.getElem_toArray, List.getElem_cons_succ, List.getElem_cons_zero, List.setIfInBounds_toArray, List.set_cons_zero, List.set_cons_succ]
          refine wpAnyT_skip (i := 19) rfl (by kernel_rfl) (by kernel_rfl) (by kernel_rfl) (fun _ _ _ h => h) (by kernel_rfl) hT (fun _ => hS) (by kernel_rfl) ?_
          simp only [Act.put, List.getElem_toArray, List.getElem_cons_succ, List.getElem_cons_zero, List.setIfInBounds_toArray, List.set_cons_zero, List.set_cons_succ]
          refine wpAnyT_skip (i := 20) rfl (by kernel_rfl) (by kernel_rfl) (by kernel_rfl) (fun _ _ _ h => h) (by kernel_rfl) hT (fun _ => hS) (by kernel_rfl) ?_
          simp only [Act.put, List.getElem_toArray, List.getElem_cons_succ, List.getElem_cons_zero, List.setIfInBounds_toArray, List.set_cons_zero, List.set_cons_succ]
          refine wpAnyT_skip (i := 21) rfl (by kernel_rfl) (by kernel_rfl) (by kernel_rfl) (fun _ _ _ h => h) (by kernel_rfl) hT (fun _ => hS) (by kernel_rfl) ?_
          simp only [Act.put, List.getElem_toArray, List.getElem_cons_succ, List.getElem_cons_zero, List.setIfInBounds_toArray, List.set_cons_zero, List.set_cons_succ]
          refine wpAnyT_skip (i := 22) rfl (by kernel_rfl) (by kernel_rfl) (by kernel_rfl) (fun _ _ _ h => h) (by kernel_rfl) hT (fun _ => hS) (by kernel_rfl) ?_
          simp only [Act.put, List.getElem_toArray, List.getElem_cons_succ, List.getElem_cons_zero, List.setIfInBounds_toArray, List.set_cons_zero, List.set_cons_succ]
          refine wpAnyT_skip (i := 23) rfl (by kernel_rfl) (by kernel_rfl) (by kernel_rfl) (fun _ _ _ h => h) (by kernel_rfl) hT (fun _ => hS) (by kernel_rfl) ?_
          simp only [Act.put, List.getElem_toArray, List.getElem_cons_succ, List.getElem_cons_zero, List.setIfInBounds_toArray, List.set_cons_zero, List.set_cons_succ]
          refine wpAnyT_skip (i := 24) rfl (by kernel_rfl) (by kernel_rfl) (by kernel_rfl) (fun _ _ _ h => h) (by kernel_rfl) hT (fun _ => hS) (by kernel_rfl) ?_
          simp only [Act.put, List.getElem_toArray, List.getElem_cons_succ, List.getElem_cons_zero, List.setIfInBounds_toArray, List.set_cons_zero, List.set_cons_succ]
          refine wpAnyT_skip (i := 25) rfl (by kernel_rfl) (by kernel_rfl) (by kernel_rfl) (fun _ _ _ h => h) (by kernel_rfl) hT (fun _ => hS) (by kernel_rfl) ?_
          simp only [Act.put, List.getElem_toArray, List.getElem_cons_succ, List.getElem_cons_zero, List.setIfInBounds_toArray, List.set_cons_zero, List.set_cons_succ]
          refine wpAnyT_skip (i := 26) rfl (by kernel_rfl) (by kernel_rfl) (by kernel_rfl) (fun _ _ _ h => h) (by kernel_rfl) hT (fun _ => hS) (by kernel_rfl) ?_
          simp only [Act.put, List.getElem_toArray, List.getElem_cons_succ, List.getElem_cons_zero, List.setIfInBounds_toArray, List.set_cons_zero, List.set_cons_succ]
          refine wpAnyT_skip (i := 27) rfl (by kernel_rfl) (by kernel_rfl) (by kernel_rfl) (fun _ _ _ h => h) (by kernel_rfl) hT (fun _ => hS) (by kernel_rfl) ?_
          simp only [Act.put, List.getElem_toArray, List.getElem_cons_succ, List.getElem_cons_zero, List.setIfInBounds_toArray, List.set_cons_zero, List.set_cons_succ]
          refine wpAnyT_skip (i := 28) rfl (by kernel_rfl) (by kernel_rfl) (by kernel_rfl) (fun _ _ _ h => h) (by kernel_rfl) hT (fun _ => hS) (by kernel_rfl) ?_
          simp only [Act.put, List.getElem_toArray, List.getElem_cons_succ, List.getElem_cons_zero, List.setIfInBounds_toArray, List.set_cons_zero, List.set_cons_succ]
          refine wpAnyT_skip (i := 29) rfl (by kernel_rfl) (by kernel_rfl) (by kernel_rfl) (fun _ _ _ h => h) (by kernel_rfl) hT (fun _ => hS) (by kernel_rfl) ?_
          simp only [Act.put, List.getElem_toArray, List.getElem_cons_succ, List.getElem_cons_zero, List.setIfInBounds_toArray, List.set_cons_zero, List.set_cons_succ]
          refine wpAnyT_held (i := 30) (v := .bool false) rfl (by kernel_rfl) (by kernel_rfl) (by kernel_rfl) (fun _ _ _ h => h) (by kernel_rfl) hT (fun _ => hS) (by kernel_rfl) ?_ ?_
          · intro wx hSw; go_split_ands; go_simp
          simp only [Act.put, List.getElem_toArray, List.getElem_cons_succ, List.getElem_cons_zero, List.setIfInBounds_toArray, List.set_cons_zero, List.set_cons_succ]
          refine wpAnyT_held (i := 31) (v := ?_) rfl (by kernel_rfl) (by kernel_rfl) (by kernel_rfl) (fun _ _ _ h => h) (by kernel_rfl) hT (fun _ => hS) (by kernel_rfl) ?_ ?_
          rotate_left
          · intro wx hSw; go_split_ands; go_simp; try with_reducible rfl
          simp only [Act.put, List.getElem_toArray, List.getElem_cons_succ, List.getElem_cons_zero, List.setIfInBounds_toArray, List.set_cons_zero, List.set_cons_succ]
          refine wpAnyT_held (i := 32) (v := ?_) rfl (by kernel_rfl) (by kernel_rfl) (by kernel_rfl) (fun _ _ _ h => h) (by kernel_rfl) hT (fun _ => hS) (by kernel_rfl) ?_ ?_
          rotate_left
          · intro wx hSw; go_split_ands; go_simp; try with_reducible rfl
          simp only [Act.put, List.getElem_toArray, List.getElem_cons_succ, List.getElem_cons_zero, List.setIfInBounds_toArray, List.set_cons_zero, List.set_cons_succ]
          refine wpAnyT_held (i := 33) (v := .bool true) rfl (by kernel_rfl) (by kernel_rfl) (by kernel_rfl) (fun _ _ _ h => h) (by kernel_rfl) hT (fun _ => hS) (by kernel_rfl) ?_ ?_
          · intro wx hSw; go_split_ands; go_simp
          simp only [Act.put, List.getElem_toArray, List.getElem_cons_succ, List.getElem_cons_zero, List.setIfInBounds_toArray, List.set_cons_zero, List.set_cons_succ]
          refine wpAnyT_held (i := 34) (v := ?_) rfl (by kernel_rfl) (by kernel_rfl) (by kernel_rfl) (fun _ _ _ h => h) (by kernel_rfl) hT (fun _ => hS) (by kernel_rfl) ?_ ?_
          rotate_left
          · intro wx hSw; go_split_ands; go_simp; try with_reducible rfl
          simp only [Act.put, List.getElem_toArray, List.getElem_cons_succ, List.getElem_cons_zero, List.setIfInBounds_toArray, List.set_cons_zero, List.set_cons_succ]
          refine wpAnyT_held (i := 35) (v := ?_) rfl (by kernel_rfl) (by kernel_rfl) (by kernel_rfl) (fun _ _ _ h => h) (by kernel_rfl) hT (fun _ => hS) (by kernel_rfl) ?_ ?_
          rotate_left
          · intro wx hSw; go_split_ands; go_simp; try with_reducible rfl
          simp only [Act.put, List.getElem_toArray, List.getElem_cons_succ, List.getElem_cons_zero, List.setIfInBounds_toArray, List.set_cons_zero, List.set_cons_succ]
          refine wpAnyT_held (i := 36) (v := ?_) rfl (by kernel_rfl) (by kernel_rfl) (by kernel_rfl) (fun _ _ _ h => h) (by kernel_rfl) hT (fun _ => hS) (by kernel_rfl) ?_ ?_
          rotate_left
          · intro wx hSw; go_split_ands; go_simp; try with_reducible rfl
          simp only [Act.put, List.getElem_toArray, List.getElem_cons_succ, List.getElem_cons_zero, List.setIfInBounds_toArray, List.set_cons_zero, List.set_cons_succ]
          refine wpAnyT_load (i := 37) (dst := some 98) (ty := 40) (x := .tmp 97) (b := G2) (o := ((j * 33))) (cs := HD) (by kernel_rfl) (by kernel_rfl) (by kernel_rfl) (by kernel_rfl) (by kernel_rfl) (fun _ _ _ h => h) (by kernel_rfl) hT (fun _ => hS) (by kernel_rfl) (fun _ h => h.2) uH rfl iH ?_
          simp only [Act.put, List.getElem_toArray, List.getElem_cons_succ, List.getElem_cons_zero, List.setIfInBounds_toArray, List.set_cons_zero, List.set_cons_succ]
          refine wpAnyT_held (i := 38) (v := ?_) rfl (by kernel_rfl) (by kernel_rfl) (by kernel_rfl) (fun _ _ _ h => h) (by kernel_rfl) hT (fun _ => hS) (by kernel_rfl) ?_ ?_
          rotate_left
          · intro wx hSw; go_split_ands; go_simp; try with_reducible rfl
          simp only [Act.put, List.getElem_toArray, List.getElem_cons_succ, List.getElem_cons_zero, List.setIfInBounds_toArray, List.set_cons_zero, List.set_cons_succ]
          refine wpAnyT_held (i := 39) (v := ?_) rfl (by kernel_rfl) (by kernel_rfl) (by kernel_rfl) (fun _ _ _ h => h) (by kernel_rfl) hT (fun _ => hS) (by kernel_rfl) ?_ ?_
          rotate_left
          · intro wx hSw; go_split_ands; go_simp; try with_reducible rfl
          simp only [Act.put, List.getElem_toArray, List.getElem_cons_succ, List.getElem_cons_zero, List.setIfInBounds_toArray, List.set_cons_zero, List.set_cons_succ]
          refine wpAnyT_load (i := 40) (dst := some 101) (ty := 40) (x := .tmp 100) (b := G1) (o := ((j * 33))) (cs := HD) (by kernel_rfl) (by kernel_rfl) (by kernel_rfl) (by kernel_rfl) (by kernel_rfl) (fun _ _ _ h => h) (by kernel_rfl) hT (fun _ => hS) (by kernel_rfl) (fun _ h => h.1) uH rfl iH ?_
          simp only [Act.put, List.getElem_toArray, List.getElem_cons_succ, List.getElem_cons_zero, List.setIfInBounds_toArray, List.set_cons_zero, List.set_cons_succ]
          refine wpAnyT_held (i := 41) (v := .bool false) rfl (by kernel_rfl) (by kernel_rfl) (by kernel_rfl) (fun _ _ _ h => h) (by kernel_rfl) hT (fun _ => hS) (by kernel_rfl) ?_ ?_
          · intro wx hSw; go_split_ands; go_simp
          simp only [Act.put, List.getElem_toArray, List.getElem_cons_succ, List.getElem_cons_zero, List.setIfInBounds_toArray, List.set_cons_zero, List.set_cons_succ]
          refine wpAnyT_held (i := 42) (v := .bool false) rfl (by kernel_rfl) (by kernel_rfl) (by kernel_rfl) (fun _ _ _ h => h) (by kernel_rfl) hT (fun _ => hS) (by kernel_rfl) ?_ ?_
          · intro wx hSw; go_split_ands; go_simp
          simp only [Act.put, List.getElem_toArray, List.getElem_cons_succ, List.getElem_cons_zero, List.setIfInBounds_toArray, List.set_cons_zero, List.set_cons_succ]
          refine wpAnyT_held (i := 43) (v := .bool false) rfl (by kernel_rfl) (by kernel_rfl) (by kernel_rfl) (fun _ _ _ h => h) (by kernel_rfl) hT (fun _ => hS) (by kernel_rfl) ?_ ?_
          · intro wx hSw; go_split_ands; go_simp
          simp only [Act.put, List.getElem_toArray, List.getElem_cons_succ, List.getElem_cons_zero, List.setIfInBounds_toArray, List.set_cons_zero, List.set_cons_succ]
          refine wpAnyT_done (by kernel_rfl) ?_ _
          clear hT hS hneq r1 r2 c0
          go_wp2
          go_roundw
          case rel => exact ⟨j + 1, hj8, by push_cast; rfl, hb.drew, hA.congr rfl, hG.congr rfl, hK.congr rfl⟩
          case measure => simp [intOf]; omega)
    · obtain rfl : j = 8 := by omega
      have hji : ¬ ((8 : Nat) : Int) < 8 := by omega
      go_wp2
      go_ret
      exact ⟨rfl, hb⟩
end Go.Proofs.YtgcidamdbidgiaaDoor
