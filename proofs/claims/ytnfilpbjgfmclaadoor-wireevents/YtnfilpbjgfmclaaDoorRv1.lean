/- The reference of wire: 'Event'. -/
import Derived.Test.YtnfilpbjgfmclaaDoorGz
import Derived.Test.YtnfilpbjgfmclaaDoorWo1
import Derived.Test.YtnfilpbjgfmclaaDoorWireBackW
namespace Go.Proofs.YtnfilpbjgfmclaaDoor
open Go.RowKit
set_option maxRecDepth 20000
set_option linter.unusedSimpArgs false

theorem CellsAt.grown2 {w w' : World} {base g : Nat} {v : Value} {z : List Int} {t : TypeId} {cs : List Value} (h : CellsAt w g t cs) (ho : OwnB w base v z) (hg : w.grownBy w' v.ownBlock) (ht : t ≠ 5) : CellsAt w' g t cs := grownT ho hg h ht
theorem pastL_take2 (P : List Int) (j : Nat) (hj : j < P.length) : pastL (P.take (j + 1)) = pastL (P.take j) ++ be4 (P[j]?.getD 0) := by
  unfold pastL
  rw [List.take_succ_eq_append_getElem hj, List.map_append, List.flatten_append, List.getElem?_eq_getElem hj]
  simp
theorem pastL_len2 (l : List Int) : (pastL l).length = 4 * l.length := by
  induction l with
  | nil => rfl
  | cons a l ih =>
    unfold pastL at ih ⊢
    rw [List.map_cons, List.flatten_cons, List.length_append, ih, be4_length, List.length_cons]; omega
theorem ev_dot0 (E : Ev) : (E.cells.drop 0).take 2 = dotC E.da E.ds := rfl
theorem ev_dot11 (E : Ev) (h : E.past.length = 8) : (E.cells.drop 11).take 2 = dotC E.pa E.ps := by
  rw [show 11 = 10 + 1 from rfl, ← List.drop_drop, ev_split, List.drop_left' (ev_pre E h)]; rfl
set_option maxHeartbeats 8000000 in
theorem refEvent_any (E : Ev) (w : World) (hE : E.past.length = 8) :
    Calls Tryd.prog 8 #[.agg E.cells.toArray] w fun e w' => ∃ v, e = .returned v ∧ OwnB w' w.heap.size v (eventL E) ∧ Below w.heap.size w w' := by
  have kD0 : ∀ w', CellsAt w' w.heap.size 30 E.cells → w'.rangeAt w.heap.size 0 (dotC E.da E.ds) := fun w' h => by
    have := h.range 0 2
    rw [ev_dot0] at this
    exact this
  have kD11 : ∀ w', CellsAt w' w.heap.size 30 E.cells → w'.rangeAt w.heap.size 11 (dotC E.pa E.ps) := fun w' h => by
    have := h.range 11 2
    rw [ev_dot11 E hE] at this
    exact this
  have kC : ∀ w', CellsAt w' w.heap.size 30 E.cells → w'.cell? ⟨w.heap.size, 10, none⟩ = some (.int .u8 E.kind) ∧ w'.cell? ⟨w.heap.size, 13, none⟩ = some (.bool E.right) ∧ w'.cell? ⟨w.heap.size, 14, none⟩ = some (.int .u8 E.char) ∧ w'.cell? ⟨w.heap.size, 15, none⟩ = some (.int .u8 E.who) ∧ w'.cell? ⟨w.heap.size, 16, none⟩ = some (.int .u8 E.role) := fun w' h =>
    ⟨by rw [h.cell, ev_get E hE 10 (by decide)]; rfl, by rw [h.cell, ev_get E hE 13 (by decide)]; rfl, by rw [h.cell, ev_get E hE 14 (by decide)]; rfl, by rw [h.cell, ev_get E hE 15 (by decide)]; rfl, by rw [h.cell, ev_get E hE 16 (by decide)]; rfl⟩
  have kP : ∀ w' (j : Nat), j < 8 → CellsAt w' w.heap.size 30 E.cells → w'.cell? ⟨w.heap.size, 2 + j, none⟩ = some (.int .u32 (E.past[j]?.getD 0)) := fun w' j hj h => by rw [h.cell, ev_cell2 E hE j hj]
  have HE : Veil (E.past.length = 8) := ⟨hE⟩
  have HD0 : Veil (∀ w', CellsAt w' w.heap.size 30 E.cells → w'.rangeAt w.heap.size 0 (dotC E.da E.ds)) := ⟨kD0⟩
  have HD11 : Veil (∀ w', CellsAt w' w.heap.size 30 E.cells → w'.rangeAt w.heap.size 11 (dotC E.pa E.ps)) := ⟨kD11⟩
  have HKC : Veil (∀ w', CellsAt w' w.heap.size 30 E.cells → w'.cell? ⟨w.heap.size, 10, none⟩ = some (.int .u8 E.kind) ∧ w'.cell? ⟨w.heap.size, 13, none⟩ = some (.bool E.right) ∧ w'.cell? ⟨w.heap.size, 14, none⟩ = some (.int .u8 E.char) ∧ w'.cell? ⟨w.heap.size, 15, none⟩ = some (.int .u8 E.who) ∧ w'.cell? ⟨w.heap.size, 16, none⟩ = some (.int .u8 E.role)) := ⟨kC⟩
  have HKP : Veil (∀ w' (j : Nat), j < 8 → CellsAt w' w.heap.size 30 E.cells → w'.cell? ⟨w.heap.size, 2 + j, none⟩ = some (.int .u32 (E.past[j]?.getD 0))) := ⟨kP⟩
  clear kD0 kD11 kC kP
  have uD := Tryd.underlying24
  have iD := sizeDot
  have hD0 := CellsAt.new w 30 E.cells
  have hB0 : Below w.heap.size w (w.alloc (.cells E.cells.toArray 30)) := (Below.refl _ _).alloc (Nat.le_refl _) _
  clear hE
  go_enter Tryd.func8, Tryd.ntmps8
  go_upto_region 1 with fail
  refine forget (p := fun y => Code.wp _ _ _ _ y) (fun W0 => Below w.heap.size w W0 ∧ CellsAt W0 w.heap.size 30 E.cells) ⟨hB0, hD0⟩ ?_
  clear hB0 hD0
  rintro W0 ⟨hB0, hD0⟩
  have rD := HD0.out _ hD0
  have hdt := refDot_any E.da E.ds W0
  have hdl := dotL_length E.da E.ds
  obtain ⟨DL, hDL⟩ : ∃ q, dotL E.da E.ds = q := ⟨_, rfl⟩
  have HDL : Veil (dotL E.da E.ds = DL) := ⟨hDL⟩
  rw [hDL] at hdt hdl
  clear hDL
  go_upto_region 2 with (first
    | (refine wpList_ldv rfl 24 _ rfl _ _ rfl (dotC E.da E.ds) rD uD rfl iD ?_)
    | (go_at_call 16; refine hdt.mono ?_; rintro e w1 ⟨v1, rfl, ho1, hb1⟩))
  have hD1 := hD0.far2 hb1
  have hB1 := hB0.trans (hb1.mono hB0.size)
  have hO1 := ho1.lessG (base' := w.heap.size) hB0.size
  clear rD hdt hB0 hD0 ho1 hb1
  go_wp2_with fail
  go_loopw [3, 4] (fun v q wr => ∃ j : Nat, j ≤ 8 ∧ q = .int .i64 j ∧ OwnB wr w.heap.size v (DL ++ pastL (E.past.take j)) ∧ CellsAt wr w.heap.size 30 E.cells ∧ Below w.heap.size w wr) (fun _ q _ => 8 - (intOf q).toNat)
  case atStart => exact ⟨0, by omega, rfl, by simpa [pastL] using hO1, hD1, hB1⟩
  case round =>
    clear hO1 hD1 hB1
    obtain ⟨j, hj, rfl, hO1, hD1, hB1⟩ := hrel
    obtain ⟨x1, n1, c1, hv1, hn1⟩ := hO1.isSlice
    subst hv1
    clear hn1
    have hlen : (DL ++ pastL (E.past.take j)).length ≤ 100 := by rw [List.length_append, pastL_len2, List.length_take, hdl]; have := HE.out; omega
    by_cases hlt : j < 8
    · have cj := HKP.out wr j hlt hD1
      have hts := pastL_take2 E.past j (by have := HE.out; omega)
      obtain ⟨V, hV⟩ : ∃ q, E.past[j]?.getD 0 = q := ⟨_, rfl⟩
      rw [hV] at cj hts
      have HTS : Veil (DL ++ pastL (E.past.take j) ++ be4 V = DL ++ pastL (E.past.take (j + 1))) := ⟨by rw [hts, List.append_assoc]⟩
      have hf := refFour_any V wr
      have hfl := be4_length V
      obtain ⟨N4, hN4⟩ : ∃ q, be4 V = q := ⟨_, rfl⟩
      rw [hN4] at hf hfl HTS
      obtain ⟨A, hA⟩ : ∃ q, DL ++ pastL (E.past.take j) = q := ⟨_, rfl⟩
      rw [hA] at hO1 hlen HTS
      have hj0 : (0 : Int) ≤ (j : Int) := by omega
      have hj8 : (j : Int) < 8 := by omega
      clear hts hV hN4 hA
      go_wp2_with (first
        | (go_at_call 17; refine hf.mono ?_; rintro e w2 ⟨v2, rfl, ho2, hb2⟩; obtain ⟨x2, n2, c2, rfl, hn2⟩ := ho2.isSlice; have hy2 := ho2.bytes.2; rw [hfl] at hn2; subst hn2; have hO2 := hO1.afarW hb2; have hB2 := hB1.trans (hb2.mono hB1.size))
        | (at_builtin; refine wpList_app rfl _ _ rfl w.heap.size _ A rfl hO2 x2 4 c2 N4 rfl hy2 (by omega) hB2.size ?_; intro v3 w3 ho3 hg3))
      have hD3 := (hD1.far2 hb2).grown2 hO2 hg3 (by decide)
      have hB3 : Below w.heap.size w w3 := below_grown hB2 hO2 hg3 hB2.size
      rw [HTS.out] at ho3
      go_roundw
      case rel => exact ⟨j + 1, by omega, by go_num, ho3, hD3, hB3⟩
      case measure => simp [intOf]; omega
    · obtain rfl : j = 8 := by omega
      have hP8 : E.past.take 8 = E.past := List.take_of_length_le (by have := HE.out; omega)
      rw [hP8] at hO1 hlen
      obtain ⟨A, hA⟩ : ∃ q, DL ++ pastL E.past = q := ⟨_, rfl⟩
      have HA : Veil (DL ++ pastL E.past = A) := ⟨hA⟩
      rw [hA] at hO1 hlen
      clear hP8 hA
      have hdt := fun wx => refDot_any E.pa E.ps wx
      have hdl2 := dotL_length E.pa E.ps
      obtain ⟨DP, hDP⟩ : ∃ q, dotL E.pa E.ps = q := ⟨_, rfl⟩
      have HDP : Veil (dotL E.pa E.ps = DP) := ⟨hDP⟩
      rw [hDP] at hdt hdl2
      clear hDP
      go_upto_region 6 with fail
      refine wp_region_gate (fun w' => w'.cell? ⟨w.heap.size, 10, none⟩ = some (.int .u8 E.kind) ∧ w'.rangeAt w.heap.size 11 (dotC E.pa E.ps)) 9 (by kernel_rfl) ?_
      obtain ⟨D0, hD0⟩ : ∃ q, wr.drew = q := ⟨_, rfl⟩
      have hb0 : Below wr.heap.size wr D0 := by rw [← hD0]; exact (Below.refl _ _).drew
      rw [hD0]
      have hB2 := hB1.trans (hb0.mono hB1.size)
      have hD2 := hD1.far2 hb0
      have hO2 := hO1.afarW hb0
      clear hD0 hb0 hB1 hD1 hO1
      have kS : ∀ w', CellsAt w' w.heap.size 30 E.cells → w'.cell? ⟨w.heap.size, 10, none⟩ = some (.int .u8 E.kind) ∧ w'.rangeAt w.heap.size 11 (dotC E.pa E.ps) := fun w' h => ⟨(HKC.out w' h).1, HD11.out w' h⟩
      have HKS := Veil.mk kS
      have hS := kS _ hD2
      clear kS
      refine wpAnyG_any (i := 0) (v := ?_) rfl (by kernel_rfl) (by kernel_rfl) (by kernel_rfl) (fun _ _ _ h => h) (by kernel_rfl) (fun _ => hS) (by kernel_rfl) ?_ ?_
      rotate_left
      · intro _; go_simp; try with_reducible rfl
      simp only [Act.put, List.setIfInBounds_toArray, List.set_cons_zero, List.set_cons_succ]
      refine wpAnyG_any (i := 1) (v := ?_) rfl (by kernel_rfl) (by kernel_rfl) (by kernel_rfl) (fun _ _ _ h => h) (by kernel_rfl) (fun _ => hS) (by kernel_rfl) ?_ ?_
      rotate_left
      · intro _; go_simp; try with_reducible rfl
      simp only [Act.put, List.setIfInBounds_toArray, List.set_cons_zero, List.set_cons_succ]
      refine wpAnyG_read (i := 2) (v := ?_) rfl (by kernel_rfl) (by kernel_rfl) (by kernel_rfl) (fun _ _ _ h => h) (by kernel_rfl) (by kernel_rfl) (by kernel_rfl) hS (by kernel_rfl) ?_ ?_
      rotate_left
      · intro wx hSw; go_split_ands; go_simp; try with_reducible rfl
      simp only [Act.put, List.setIfInBounds_toArray, List.set_cons_zero, List.set_cons_succ]
      refine wpAnyG_any (i := 5) (v := ?_) rfl (by kernel_rfl) (by kernel_rfl) (by kernel_rfl) (fun _ _ _ h => h) (by kernel_rfl) (fun _ => hS) (by kernel_rfl) ?_ ?_
      rotate_left
      · intro _; go_simp; try with_reducible rfl
      simp only [Act.put, List.setIfInBounds_toArray, List.set_cons_zero, List.set_cons_succ]
      refine wpAnyG_load (i := 6) (dst := some 26) (ty := 24) (x := .tmp 25) (b := w.heap.size) (o := (11)) (cs := (dotC E.pa E.ps)) (by kernel_rfl) (by kernel_rfl) (by kernel_rfl) (by kernel_rfl) (by kernel_rfl) (fun _ _ _ h => h) (by kernel_rfl) (by kernel_rfl) (by kernel_rfl) hS (by kernel_rfl) (fun _ h => h.2) uD rfl iD ?_
      simp only [Act.put, List.setIfInBounds_toArray, List.set_cons_zero, List.set_cons_succ]
      refine wpAnyG_one (i := 3) rfl (by kernel_rfl) (by kernel_rfl) (fun K hK => ?_)
      go_simp
      have hO3 := hO2.alloc (.cells (row .u8 [E.kind]) 5)
      have hD3 := hD2.alloc (.cells (row .u8 [E.kind]) 5)
      have hB3 := hB2.alloc hB2.size (.cells (row .u8 [E.kind]) 5)
      have hy3 := new_bytes D0 [E.kind] (by simp)
      replace hS := HKS.out _ hD3
      refine hK.out _ _ (fun _ => hS) ?_
      clear hK K
      obtain ⟨G3, hG3⟩ : ∃ q, D0.heap.size = q := ⟨_, rfl⟩
      obtain ⟨U3, hU3⟩ : ∃ q, D0.alloc (.cells (row .u8 [E.kind]) 5) = q := ⟨_, rfl⟩
      have hc3 : D0.alloc (.cells #[.int .u8 E.kind] 5) = U3 := hU3
      rw [hU3] at hO3 hD3 hB3 hy3
      rw [hG3] at hy3
      rw [hc3, hG3]
      clear hU3 hc3 hG3 hO2 hD2 hB2
      refine wpAnyG_one (i := 4) rfl (by kernel_rfl) (by kernel_rfl) (fun K hK => ?_)
      refine wp_appA _ _ rfl w.heap.size _ A rfl hO3 (some ⟨G3, 0, none⟩) 1 1 [E.kind] rfl hy3 (by omega) hB3.size ?_
      intro v4 w4 ho4 hg4
      have hD4 := hD3.grown2 hO3 hg4 (by decide)
      have hB4 : Below w.heap.size w w4 := below_grown hB3 hO3 hg4 hB3.size
      replace hS := HKS.out _ hD4
      clear hg4 hO3 hD3 hB3 hy3
      refine hK.out _ _ (fun _ => hS) ?_
      clear hK K
      refine wpAnyG_one (i := 7) rfl (by kernel_rfl) (by kernel_rfl) (fun K hK => ?_)
      go_wp2_with (go_at_call 16; refine (hdt _).mono ?_; rintro e w5 ⟨v5, rfl, ho5, hb5⟩)
      obtain ⟨x5, n5, c5, rfl, hn5⟩ := ho5.isSlice
      have hy5 := ho5.bytes.2
      rw [hdl2] at hn5
      subst hn5
      have hO5 := ho4.afarW hb5
      have hD5 := hD4.far2 hb5
      have hB5 := hB4.trans (hb5.mono hB4.size)
      clear ho4 hD4 hB4 hb5 ho5
      replace hS := HKS.out _ hD5
      refine hK.out _ _ (fun _ => hS) ?_
      clear hK K
      refine wpAnyG_one (i := 8) rfl (by kernel_rfl) (by kernel_rfl) (fun K hK => ?_)
      refine wp_appA _ _ rfl w.heap.size _ (A ++ [E.kind]) rfl hO5 x5 5 c5 DP rfl hy5 (by rw [List.length_append]; simp; omega) hB5.size ?_
      intro v6 w6 ho6 hg6
      have hD6 := hD5.grown2 hO5 hg6 (by decide)
      have hB6 : Below w.heap.size w w6 := below_grown hB5 hO5 hg6 hB5.size
      replace hS := HKS.out _ hD6
      clear hg6 hO5 hD5 hB5 hy5
      refine hK.out _ _ (fun _ => hS) ?_
      clear hK K
      refine wpAnyG_one (i := 9) rfl (by kernel_rfl) (by kernel_rfl) (fun K hK => ?_)
      go_simp
      refine hK.out _ _ (fun h => absurd (show true = false from h) (by decide)) ?_
      clear hK K
      refine wpAnyG_done (by kernel_rfl) ?_ _
      have hl6 : (A ++ [E.kind] ++ DP).length ≤ 200 := by rw [List.length_append, List.length_append]; simp; omega
      have h06 : 0 < (A ++ [E.kind] ++ DP).length := by rw [List.length_append, List.length_append, hdl2]; omega
      obtain ⟨A6, hA6⟩ : ∃ q, A ++ [E.kind] ++ DP = q := ⟨_, rfl⟩
      have HA6 : Veil (A ++ [E.kind] ++ DP = A6) := ⟨hA6⟩
      rw [hA6] at ho6 hl6 h06
      clear hA6 hS HKS hdt
      obtain ⟨_, q13, q14, q15, q16⟩ := HKC.out _ hD6
      have hy7 := new_bytes w6 [truthB E.right, E.char, E.who, E.role] (by simp)
      have hO7 : OwnB (w6.alloc (.cells (row .u8 [truthB E.right, E.char, E.who, E.role]) 5)) w.heap.size v6 A6 := ho6.alloc _
      have hB7 := hB6.alloc hB6.size (.cells (row .u8 [truthB E.right, E.char, E.who, E.role]) 5)
      have HEND : Veil (A6 ++ [truthB E.right, E.char, E.who, E.role] ++ List.replicate 11 0 = eventL E) := ⟨by
        rw [← HA6.out, ← HA.out, ← HDL.out, ← HDP.out]
        unfold eventL
        simp only [List.append_assoc, List.cons_append, List.nil_append]⟩
      obtain ⟨x6, n6, c6, rfl, hn6⟩ := ho6.isSlice
      clear hn6
      cases hr : E.right with
      | true =>
        rw [hr] at q13 hy7 hO7 hB7 HEND
        clear hr
        go_upto_region 11 with (at_builtin; refine wpList_app rfl _ _ rfl w.heap.size _ A6 rfl hO7 (some ⟨w6.heap.size, 0, none⟩) 4 4 [truthB true, E.char, E.who, E.role] rfl hy7 (by omega) hB7.size ?_; intro v8 w8 ho8 hg8)
        have hB8 : Below w.heap.size w w8 := below_grown hB7 hO7 hg8 hB7.size
        go_wp2_with (at_builtin; refine wpList_appz rfl _ _ rfl w.heap.size _ _ rfl ho8 rfl (by rw [List.length_append]; omega) (by rw [List.length_append]; simp; omega) hB8.size ?_; intro v9 w9 ho9 hg9)
        go_ret
        rw [HEND.out] at ho9
        exact ⟨_, rfl, ho9, below_grown hB8 ho8 hg9 hB8.size⟩
      | false =>
        rw [hr] at q13 hy7 hO7 hB7 HEND
        clear hr
        go_upto_region 11 with (at_builtin; refine wpList_app rfl _ _ rfl w.heap.size _ A6 rfl hO7 (some ⟨w6.heap.size, 0, none⟩) 4 4 [truthB false, E.char, E.who, E.role] rfl hy7 (by omega) hB7.size ?_; intro v8 w8 ho8 hg8)
        have hB8 : Below w.heap.size w w8 := below_grown hB7 hO7 hg8 hB7.size
        go_wp2_with (at_builtin; refine wpList_appz rfl _ _ rfl w.heap.size _ _ rfl ho8 rfl (by rw [List.length_append]; omega) (by rw [List.length_append]; simp; omega) hB8.size ?_; intro v9 w9 ho9 hg9)
        go_ret
        rw [HEND.out] at ho9
        exact ⟨_, rfl, ho9, below_grown hB8 ho8 hg9 hB8.size⟩
end Go.Proofs.YtnfilpbjgfmclaaDoor
