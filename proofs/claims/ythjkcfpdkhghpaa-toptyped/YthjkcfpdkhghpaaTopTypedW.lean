/- TopTyped, walked. -/
import Derived.Test.YthjkcfpdkhghpaaMTt3Tt4Tt5
namespace Go.Proofs.Ythjkcfpdkhghpaa
open Go.RowKit Go.Shelf
set_option maxRecDepth 20000
set_option linter.unusedSimpArgs false
/-- What a round of inserting wants to know of its character. -/
structure InsI (w0 : World) (R bc bn i k n : Nat) (N : List Nd) (V : (Int × Int) × Bool → Value) (z : List Int) (pa pb : Int) (pr : Bool) (cc : Int) : Prop where
  place : ∀ W, TreeAt W w0.heap.size R bc bn N V → Calls Try.prog 14 #[.pointer (some ⟨R, 0, none⟩), .int .i64 (k : Nat)] W fun e w' => e = .returned (.tuple #[.agg #[.int .u8 pa, .int .u32 pb], .bool pr, .int .i64 0]) ∧ Below W.heap.size W w'
  ins : ∀ W, TreeAt W w0.heap.size R bc bn N V → w0.heap.size ≤ W.heap.size → Calls Try.prog 15 #[.pointer (some ⟨R, 0, none⟩), .agg #[.int .u8 1, .int .u32 ((i : Int) + 1)], .agg #[.int .u8 pa, .int .u32 pb], .bool pr, .int .u8 cc] W fun e w' => e = .returned (.int .i64 0) ∧ ∃ V', TreeAt w' w0.heap.size R bc bn (insN N ⟨(1, (i : Int) + 1), ((pa, pb), pr), cc⟩) V' ∧ TreeTo R bc bn V V' W w'
  typed : Typed (insN N ⟨(1, (i : Int) + 1), ((pa, pb), pr), cc⟩) (z.take k ++ [cc] ++ z.drop k) (i + 1)
  bel : ∀ W : World, Below W.heap.size W (W.alloc (.cells #[.int .u8 cc] 5))
  one : ∀ W : World, OwnB (W.alloc (.cells #[.int .u8 cc] 5)) W.heap.size (.slice (some ⟨W.heap.size, 0, none⟩) 1 1) [cc]
theorem insI {w0 W0 : World} {R bc bn i k n : Nat} {N : List Nd} {V : (Int × Int) × Bool → Value} {z : List Int} {pa pb : Int} {pr : Bool} {cc : Int} (h : Typed N z i) (hT0 : TreeAt W0 w0.heap.size R bc bn N V) (hi : i < 60) (hk : k ≤ z.length) (hP : placeN N (k : Nat) = ((pa, pb), pr, 0)) (h1 : 1 ≤ cc) (h2 : cc ≤ 127) : InsI w0 R bc bn i k n N V z pa pb pr cc := by
  obtain ⟨-, q2, q3⟩ := h.ins hi hk h1 h2
  have hln := h.len
  have hpo : okDF (pa, pb) := by
    obtain ⟨-, -, h3⟩ := place_ok h.ok (k := k) (by rw [h.wr]; exact hk)
    rw [hP] at h3
    rcases h3 with q | q
    · rw [show (pa, pb) = (0, 0) from q]; exact okRoot
    · obtain ⟨m, hm, e⟩ := chrN_some.1 q
      have := (hT0.okId m hm).1
      rw [show (pa, pb) = m.id from e.symm]; exact this
  rw [hP] at q2 q3
  refine ⟨fun W hT => ?_, fun W hT hl => ?_, q3, fun W => (Below.refl _ _).alloc (Nat.le_refl _) _, fun W => OwnB.ofHolds (Holds.new W .u8 5 [cc]) (Nat.le_refl _) (by simp)⟩
  · have := placeT_any _ R bc bn N V h.ok (by omega) (k : Nat) (by have := h.few; omega) W hT
    rw [hP] at this
    exact this
  · have := insT_any _ R bc bn N V ⟨(1, (i : Int) + 1), ((pa, pb), pr), cc⟩ (by unfold okDF; simp; omega) hpo (by omega) W hl hT
    rw [q2] at this
    exact this
set_option maxHeartbeats 16000000 in
theorem tty_walk (px : Option Addr) (pn pc : Nat) (P : List Int) (cx : Option Addr) (cn cc : Nat) (C : List Int) (w : World) (hP : Bytes w px pn pc P) (hC : Bytes w cx cn cc C) (hP8 : ∀ v ∈ P, 0 ≤ v ∧ v ≤ 255) (hC8 : ∀ v ∈ C, 0 ≤ v ∧ v ≤ 255) :
    Calls Try.prog 4 #[.slice px pn pc, .slice cx cn cc] w fun e w' => e = .returned (.bool true) ∧ Below w.heap.size w w' := by
  have HP := Veil.mk hP
  have HC := Veil.mk hC
  have HP8 := Veil.mk hP8
  have HC8 := Veil.mk hC8
  have hplen := Veil.mk hP.len_eq
  have hclen := Veil.mk hC.len_eq
  have uD := Try.underlying32
  have iDD : ∀ a b : Int, (Try.prog.info? 32).map (·.size) = some [Value.int .u8 a, Value.int .u32 b].length := fun a b => sizeDot
  have HID := Veil.mk iDD
  clear iDD
  have hnew := newT_any w
  clear hP hC hP8 hC8
  go_enter Try.func4, Try.ntmps4
  go_upto_region 3 with (go_at_call 6; refine hnew.mono ?_; rintro y W1 ⟨R, bc, bn, rfl, hT1, hB1, hr1, hr2, hr3⟩; clear hnew)
  have HI0 : HalfI w W1 R bc bn [] (fun _ => .slice none 0 0) (.slice none 0 0) [] := ⟨hT1, (fun k hk => by
    rcases hk with rfl | rfl | rfl | ⟨s, -, hs⟩
    · exact hr1
    · exact hr2
    · exact hr3
    · cases hs), OwnB.nil _ _, fun g hg => (by cases hg), hB1⟩
  clear hT1 hB1 hr1 hr2 hr3
  go_wp2_with fail
  go_loopw [6, 7, 8, 9, 10, 11, 12, 13, 14, 15] (fun wv iv _ _ _ _ _ _ _ _ wr => ∃ (i n c : Nat) (x : Option Addr) (N : List Nd) (V : (Int × Int) × Bool → Value) (z : List Int), iv = .int .i64 (i : Nat) ∧ wv = .slice x n c ∧ i ≤ 60 ∧ Veil (n = z.length) ∧ Typed N z i ∧ HalfI w wr R bc bn N V (.slice x n c) z) (fun _ iv _ _ _ _ _ _ _ _ _ => 60 - (intOf iv).toNat)
  case atStart => exact ⟨0, 0, 0, none, [], _, [], rfl, rfl, by omega, ⟨rfl⟩, Typed.nil, HI0⟩
  case round =>
    clear HI0
    obtain ⟨i, n, c, x, N, V, z, rfl, rfl, hi60, HN, hty, hH⟩ := hrel
    have HTY := Veil.mk hty
    have HH := Veil.mk hH
    have hfew := hty.few
    have hn60 : n ≤ 60 := by have := HN.out; omega
    have hi0 : (0 : Int) ≤ (i : Int) := by omega
    clear hty hH hfew
    by_cases hcond : i < pn ∧ i < cn ∧ i < 60
    · obtain ⟨hc1, hc2, hc3⟩ := hcond
      have d1 : decide ((i : Int) < (pn : Int)) = true := by simp; omega
      have d2 : decide ((i : Int) < (cn : Int)) = true := by simp; omega
      have d3 : decide ((i : Int) < 60) = true := by simp; omega
      have l1 : (i : Int) < (pn : Int) := by omega
      have l2 : (i : Int) < (cn : Int) := by omega
      have l3 : (i : Int) < 60 := by omega
      obtain ⟨gp, op, rfl, hcp⟩ : ∃ g o, px = some ⟨g, o, none⟩ ∧ wr.cell? ⟨g, o + i, none⟩ = some (.int .u8 (P[i]?.getD 0)) := by
        rcases (HP.out.below HH.out.below).at_ with h | ⟨g, o, hx, hc⟩
        · omega
        · exact ⟨g, o, hx, hc i hc1⟩
      obtain ⟨gc, oc, rfl, hcc⟩ : ∃ g o, cx = some ⟨g, o, none⟩ ∧ wr.cell? ⟨g, o + i, none⟩ = some (.int .u8 (C[i]?.getD 0)) := by
        rcases (HC.out.below HH.out.below).at_ with h | ⟨g, o, hx, hc⟩
        · omega
        · exact ⟨g, o, hx, hc i hc2⟩
      have hpv : 0 ≤ P[i]?.getD 0 ∧ P[i]?.getD 0 ≤ 255 := by
        have hl : i < P.length := by have := hplen.out; omega
        rw [List.getElem?_eq_getElem hl]; exact HP8.out _ (List.getElem_mem hl)
      have hcv : 0 ≤ C[i]?.getD 0 ∧ C[i]?.getD 0 ≤ 255 := by
        have hl : i < C.length := by have := hclen.out; omega
        rw [List.getElem?_eq_getElem hl]; exact HC8.out _ (List.getElem_mem hl)
      generalize P[i]?.getD 0 = pv at hcp hpv
      generalize C[i]?.getD 0 = cv at hcc hcv
      obtain ⟨k, hk1, hk2⟩ : ∃ k : Nat, pv.tmod ((n : Int) + 1) = (k : Nat) ∧ k ≤ n := by
        refine ⟨(pv % ((n : Int) + 1)).toNat, ?_, ?_⟩
        · rw [Int.tmod_eq_emod_of_nonneg hpv.1, Int.toNat_of_nonneg (Int.emod_nonneg _ (by omega))]
        · have := Int.emod_lt_of_pos pv (show (0 : Int) < (n : Int) + 1 by omega)
          have := Int.emod_nonneg pv (show ((n : Int) + 1) ≠ 0 by omega)
          omega
      obtain ⟨c7, hm7, hc70, hc71⟩ : ∃ q, cv.tmod 128 = q ∧ 0 ≤ q ∧ q ≤ 127 := by
        refine ⟨cv.tmod 128, rfl, ?_, ?_⟩ <;> rw [Int.tmod_eq_emod_of_nonneg hcv.1] <;> omega
      have hwp : IntKind.i64.wrap pv = pv := by rw [IntKind.wrap_i64]; omega
      have hwn : IntKind.i64.wrap ((n : Int) + 1) = (n : Int) + 1 := by rw [IntKind.wrap_i64]; omega
      have hnz : ¬ ((n : Int) + 1 = 0) := by omega
      have hwi : IntKind.i64.wrap ((i : Int) + 1) = (i : Int) + 1 := by rw [IntKind.wrap_i64]; omega
      have hwu : IntKind.u32.wrap ((i : Int) + 1) = (i : Int) + 1 := by rw [IntKind.wrap_u32]; omega
      have hkz : k ≤ z.length := by have := HN.out; omega
      clear hpv hcv
      by_cases hdel : c7 = 0 ∧ k < n
      · obtain ⟨h70, hkn⟩ := hdel
        subst h70
        have dk : decide ((k : Int) < (n : Int)) = true := by simp; omega
        have dkl : (k : Int) < (n : Int) := by omega
        have hkw : k < (wrN N).length := by rw [HTY.out.wr]; have := HN.out; omega
        have HDT := Veil.mk (HTY.out.del hkw)
        have hwm := List.getElem_mem hkw
        have hdok := wrT_okDF HTY.out.ok HH.out.tree hwm
        have hat := atT2_any _ R bc bn N V HTY.out.ok (by have := HTY.out.len; omega) (k : Nat) wr HH.out.tree
        have HDL : Veil (∀ W, TreeAt W w.heap.size R bc bn N V → Calls Try.prog 13 #[.pointer (some ⟨R, 0, none⟩), .agg (encF (wrN N)[k]).toArray] W fun e w' => e = .returned (.int .i64 0) ∧ TreeAt w' w.heap.size R bc bn (delN N (wrN N)[k]) V ∧ TreeTo R bc bn V V W w') := ⟨fun W hT => by
          have := delT_any _ R bc bn N V (wrN N)[k] hdok (by have := HTY.out.len; omega) W hT
          rw [wrT_node HTY.out.ok hwm, if_pos rfl] at this
          exact this⟩
        rw [atT_in hkw] at hat
        change Calls _ _ _ _ (fun e w' => e = .returned (.tuple #[.agg (encF (wrN N)[k]).toArray, .int .i64 0]) ∧ Below wr.heap.size wr w') at hat
        clear hdok hwm
        generalize (wrN N)[k] = d at HDT hat HDL
        obtain ⟨da, db⟩ := d
        simp only [encF, dotC] at hat HDL
        go_upto_region 10 with (go_at_call 12; refine hat.mono ?_; rintro y W5 ⟨rfl, hb5⟩; clear hat)
        have hb6 : Below W5.heap.size W5 (W5.alloc (.cells #[.int .u8 da, .int .u32 db] 32)) := (Below.refl _ _).alloc (Nat.le_refl _) _
        have hb45 := hb5.trans (hb6.mono hb5.size)
        refine forget (p := fun y => Code.wp _ _ _ _ y) (fun W => Below wr.heap.size wr W ∧ CellsAt W W5.heap.size 32 [.int .u8 da, .int .u32 db]) ⟨hb45, CellsAt.new W5 32 [.int .u8 da, .int .u32 db]⟩ ?_
        generalize W5.heap.size = b11
        clear hb45 hb6 hb5 W5
        rintro W6 ⟨hb6, hd6⟩
        have iD := HID.out da db
        have hH6 := HH.out.far hb6
        have hde := HDL.out W6 hH6.tree
        have hrd := hd6.wholeM
        have HH6 := Veil.mk hH6
        clear hH6 hb6 hd6 HDL HH hcp hcc
        go_upto_region 12 with (first
          | (refine wpList_ldgv (by kernel_rfl) 32 (.tmp 10) rfl b11 0 rfl [.int .u8 da, .int .u32 db] hrd uD rfl iD ?_)
          | (go_at_call 13; refine hde.mono ?_; rintro y W7 ⟨rfl, hT7, ht7⟩; clear hde))
        have hH7 := HH6.out.to hT7 ht7
        have hz7 := hH7.own.bytes.2
        have HH7 := Veil.mk hH7
        clear hT7 ht7 HH6 hH7 hrd
        have cut1 : ∀ wx, (Instr.slice 42 (.slice x n c) none (some (.int .i64 (k : Int))) none).run Try.prog wx = .ok (.slice (subA x c 0) k c) wx := fun wx => run_cut_h wx _ n c k (by have := hz7.le; omega)
        have cut2 : ∀ wx, (Instr.slice 42 (.slice x n c) (some (.int .i64 ((k : Int) + 1))) none none).run Try.prog wx = .ok (.slice (subA x c (k + 1)) (n - (k + 1)) (c - (k + 1))) wx := fun wx => by
          have := run_cut_l wx x n c (k + 1) (by omega)
          push_cast at this
          exact this
        have b1 := hz7.cut 0 k (by omega) (by omega)
        have b2 := hz7.cut (k + 1) n (by omega) (by omega)
        rw [List.drop_zero, Nat.sub_zero, Nat.sub_zero] at b1
        have ez : (z.drop (k + 1)).take (n - (k + 1)) = z.drop (k + 1) := List.take_of_length_le (by rw [List.length_drop]; have := HN.out; omega)
        rw [ez] at b2
        have HB1 := Veil.mk b1
        have HB2 := Veil.mk b2
        generalize subA x c 0 = a1 at cut1 HB1
        generalize subA x c (k + 1) = a2 at cut2 HB2
        generalize n - (k + 1) = n2 at cut2 HB2
        generalize c - (k + 1) = c2 at cut2 HB2
        have hwk : IntKind.i64.wrap ((k : Int) + 1) = (k : Int) + 1 := by rw [IntKind.wrap_i64]; omega
        have hn2 : n2 ≤ 60 := by have := HB2.out.len_eq; rw [List.length_drop] at this; have := HN.out; omega
        have hl1 : (z.take k).length = k := by rw [List.length_take]; have := HN.out; omega
        clear b1 b2 ez hz7
        have hE0 : OwnB (W7.alloc (.cells #[] 5)).drew W7.heap.size (.slice (some ⟨W7.heap.size, 0, none⟩) 0 0) [] := OwnB.ofHolds (Holds.new W7 .u8 5 []).drew (Nat.le_refl _) (by simp)
        have hB3 : Below W7.heap.size W7 (W7.alloc (.cells #[] 5)).drew := ((Below.refl _ _).alloc (Nat.le_refl _) _).drew
        refine wp_region_gate (fun _ => True) 10 (by kernel_rfl) ?_
        have hS : (fun _ : World => True) W7.drew := trivial
        refine wpAnyG_any (i := 1) (v := ?_) rfl (by kernel_rfl) (by kernel_rfl) (by kernel_rfl) (fun _ _ _ h => h) (by kernel_rfl) (fun _ => hS) (by kernel_rfl) ?_ ?_
        rotate_left
        · intro _; go_simp; try with_reducible rfl
        simp only [Act.put, List.getElem_toArray, List.getElem_cons_succ, List.getElem_cons_zero, List.setIfInBounds_toArray, List.set_cons_zero, List.set_cons_succ]
        refine wpAnyG_any (i := 2) (v := ?_) rfl (by kernel_rfl) (by kernel_rfl) (by kernel_rfl) (fun _ _ _ h => h) (by kernel_rfl) (fun _ => hS) (by kernel_rfl) ?_ ?_
        rotate_left
        · intro _; go_simp; try with_reducible rfl
        simp only [Act.put, List.getElem_toArray, List.getElem_cons_succ, List.getElem_cons_zero, List.setIfInBounds_toArray, List.set_cons_zero, List.set_cons_succ]
        refine wpAnyG_any (i := 3) (v := ?_) rfl (by kernel_rfl) (by kernel_rfl) (by kernel_rfl) (fun _ _ _ h => h) (by kernel_rfl) (fun _ => hS) (by kernel_rfl) ?_ ?_
        rotate_left
        · intro _; go_simp; try with_reducible rfl
        simp only [Act.put, List.getElem_toArray, List.getElem_cons_succ, List.getElem_cons_zero, List.setIfInBounds_toArray, List.set_cons_zero, List.set_cons_succ]
        refine wpAnyG_any (i := 5) (v := ?_) rfl (by kernel_rfl) (by kernel_rfl) (by kernel_rfl) (fun _ _ _ h => h) (by kernel_rfl) (fun _ => hS) (by kernel_rfl) ?_ ?_
        rotate_left
        · intro _; go_simp; try with_reducible rfl
        simp only [Act.put, List.getElem_toArray, List.getElem_cons_succ, List.getElem_cons_zero, List.setIfInBounds_toArray, List.set_cons_zero, List.set_cons_succ]
        refine wpAnyG_any (i := 6) (v := ?_) rfl (by kernel_rfl) (by kernel_rfl) (by kernel_rfl) (fun _ _ _ h => h) (by kernel_rfl) (fun _ => hS) (by kernel_rfl) ?_ ?_
        rotate_left
        · intro _; go_simp; try with_reducible rfl
        simp only [Act.put, List.getElem_toArray, List.getElem_cons_succ, List.getElem_cons_zero, List.setIfInBounds_toArray, List.set_cons_zero, List.set_cons_succ]
        refine wpAnyG_any (i := 7) (v := ?_) rfl (by kernel_rfl) (by kernel_rfl) (by kernel_rfl) (fun _ _ _ h => h) (by kernel_rfl) (fun _ => hS) (by kernel_rfl) ?_ ?_
        rotate_left
        · intro _; go_simp; try with_reducible rfl
        simp only [Act.put, List.getElem_toArray, List.getElem_cons_succ, List.getElem_cons_zero, List.setIfInBounds_toArray, List.set_cons_zero, List.set_cons_succ]
        refine wpAnyG_any (i := 8) (v := ?_) rfl (by kernel_rfl) (by kernel_rfl) (by kernel_rfl) (fun _ _ _ h => h) (by kernel_rfl) (fun _ => hS) (by kernel_rfl) ?_ ?_
        rotate_left
        · intro _; go_simp; try with_reducible rfl
        simp only [Act.put, List.getElem_toArray, List.getElem_cons_succ, List.getElem_cons_zero, List.setIfInBounds_toArray, List.set_cons_zero, List.set_cons_succ]
        refine wpAnyG_one (i := 0) rfl (by kernel_rfl) (by kernel_rfl) (fun K hK => ?_)
        go_simp
        refine hK.out _ _ (fun _ => hS) ?_
        clear hK K
        try simp only [Act.put, List.getElem_toArray, List.getElem_cons_succ, List.getElem_cons_zero, List.setIfInBounds_toArray, List.set_cons_zero, List.set_cons_succ]
        refine wpAnyG_one (i := 4) rfl (by kernel_rfl) (by kernel_rfl) (fun K hK => ?_)
        refine wp_appA _ _ rfl W7.heap.size _ [] rfl hE0 a1 k c (z.take k) rfl (HB1.out.below hB3) (by simp; omega) (by simp) ?_
        intro v4 w4 ho4 hg4
        have hB4 : Below W7.heap.size W7 w4 := below_grown hB3 hE0 hg4 (by simp)
        rw [List.nil_append] at ho4
        have hs4 := hB4.size
        refine hK.out _ _ (fun _ => hS) ?_
        clear hK K
        try simp only [Act.put, List.getElem_toArray, List.getElem_cons_succ, List.getElem_cons_zero, List.setIfInBounds_toArray, List.set_cons_zero, List.set_cons_succ]
        refine wpAnyG_one (i := 9) rfl (by kernel_rfl) (by kernel_rfl) (fun K hK => ?_)
        refine wp_appA _ _ rfl W7.heap.size _ (z.take k) rfl ho4 a2 n2 c2 (z.drop (k + 1)) rfl (HB2.out.below hB4) (by omega) hs4 ?_
        intro v5 w5 ho5 hg5
        have hB5 : Below W7.heap.size W7 w5 := below_grown hB4 ho4 hg5 hs4
        refine hK.out _ _ (fun _ => hS) ?_
        clear hK K
        try simp only [Act.put, List.getElem_toArray, List.getElem_cons_succ, List.getElem_cons_zero, List.setIfInBounds_toArray, List.set_cons_zero, List.set_cons_succ]
        refine wpAnyG_one (i := 10) rfl (by kernel_rfl) (by kernel_rfl) (fun K hK => ?_)
        go_simp
        refine hK.out _ _ (fun h => absurd (show true = false from h) (by decide)) ?_
        clear hK K
        try simp only [Act.put, List.getElem_toArray, List.getElem_cons_succ, List.getElem_cons_zero, List.setIfInBounds_toArray, List.set_cons_zero, List.set_cons_succ]
        refine wpAnyG_done (by kernel_rfl) ?_ _
        have hH5 := HH7.out.want hB5 ho5
        obtain ⟨x5, n5, c5, rfl, hn5⟩ := ho5.isSlice
        have HN5 := Veil.mk hn5
        have HH5 := Veil.mk hH5
        clear hn5 hH5 ho5 hg5 hB5 ho4 hg4 hB4 hs4 hE0 hB3 HH7 HB1 HB2 cut1 cut2 hS
        go_wp2
        go_roundw
        case rel => exact ⟨i + 1, n5, c5, x5, _, V, _, by push_cast; rfl, rfl, hc3, HN5, HDT.out, HH5.out⟩
        case measure => simp [intOf]; omega
      · obtain ⟨⟨⟨pa, pb⟩, pr, pe⟩, hPl⟩ : ∃ q, placeN N (k : Nat) = q := ⟨_, rfl⟩
        obtain rfl : pe = 0 := by have := (place_ok HTY.out.ok (k := k) (by rw [HTY.out.wr]; exact hkz)).1; rw [hPl] at this; exact this
        have HINS : Veil (∀ cc : Int, 1 ≤ cc ∧ cc ≤ 127 → InsI w R bc bn i k n N V z pa pb pr cc) := ⟨fun cc h => insI HTY.out HH.out.tree hc3 hkz hPl h.1 h.2⟩
        clear hPl
        by_cases h70 : c7 = 0
        case' pos =>
          subst h70
          have hkn : ¬ k < n := fun q => hdel ⟨rfl, q⟩
          have HCC : Veil ((1 : Int) ≤ 1 ∧ (1 : Int) ≤ 127) := ⟨by decide, by decide⟩
          have dk : decide ((k : Int) < (n : Int)) = false := by simp; omega
          have dkl : ¬ (k : Int) < (n : Int) := by omega
          clear hdel hkn
          go_upto_region 15 with fail
        case' neg =>
          have HCC : Veil (1 ≤ c7 ∧ c7 ≤ 127) := ⟨by omega, by omega⟩
          have h7b : (c7 == 0) = false := by simpa using h70
          have dk := trivial
          have dkl := trivial
          clear hdel
          go_upto_region 15 with fail
        all_goals
          have HIN := Veil.mk (HINS.out _ HCC.out)
          have hpc := HIN.out.place wr HH.out.tree
          clear HINS dk dkl
          go_upto_region 16 with (go_at_call 14; refine hpc.mono ?_; rintro y W4 ⟨rfl, hb4⟩; clear hpc)
        all_goals
          have hb5 : Below W4.heap.size W4 (W4.alloc (.cells #[.int .u8 pa, .int .u32 pb] 32)) := (Below.refl _ _).alloc (Nat.le_refl _) _
          have hb34 := hb4.trans (hb5.mono hb4.size)
          refine forget (p := fun y => Code.wp _ _ _ _ y) (fun W => Below wr.heap.size wr W ∧ CellsAt W W4.heap.size 32 [.int .u8 pa, .int .u32 pb]) ⟨hb34, CellsAt.new W4 32 [.int .u8 pa, .int .u32 pb]⟩ ?_
          generalize W4.heap.size = b12
          clear hb34 hb5 hb4 W4
          rintro W6 ⟨hb6, hd6⟩
          have iD := HID.out pa pb
          have hH6 := HH.out.far hb6
          have hin := HIN.out.ins W6 hH6.tree hH6.below.size
          have hrd := hd6.wholeM
          have HH6 := Veil.mk hH6
          clear hH6 hb6 hd6 HH hcp hcc
          go_upto_region 18 with (first
            | (refine wpList_ldgv (by kernel_rfl) 32 (.tmp 12) rfl b12 0 rfl [.int .u8 pa, .int .u32 pb] hrd uD rfl iD ?_)
            | (go_at_call 15; refine hin.mono ?_; rintro y W7 ⟨rfl, V7, hT7, ht7⟩; clear hin))
        all_goals
          have hH7 := HH6.out.to hT7 ht7
          have hz7 := hH7.own.bytes.2
          have HH7 := Veil.mk hH7
          clear hT7 ht7 HH6 hH7 hrd
          have cut1 : ∀ wx, (Instr.slice 42 (.slice x n c) none (some (.int .i64 (k : Int))) none).run Try.prog wx = .ok (.slice (subA x c 0) k c) wx := fun wx => run_cut_h wx _ n c k (by have := hz7.le; omega)
          have cut2 : ∀ wx, (Instr.slice 42 (.slice x n c) (some (.int .i64 (k : Int))) none none).run Try.prog wx = .ok (.slice (subA x c k) (n - k) (c - k)) wx := fun wx => run_cut_l wx x n c k (by omega)
          have b1 := hz7.cut 0 k (by omega) (by omega)
          have b2 := hz7.cut k n (by omega) (by omega)
          rw [List.drop_zero, Nat.sub_zero, Nat.sub_zero] at b1
          have ez : (z.drop k).take (n - k) = z.drop k := List.take_of_length_le (by rw [List.length_drop]; have := HN.out; omega)
          rw [ez] at b2
          have HB1 := Veil.mk b1
          have hE1 := HIN.out.one W7
          have hA1 := HIN.out.bel W7
          have hb2 := b2.below hA1
          generalize subA x c 0 = a1 at cut1 HB1
          generalize subA x c k = a2 at cut2 hb2
          have hn2 : n - k ≤ 60 := by omega
          generalize n - k = n2 at cut2 hb2 hn2
          generalize c - k = c2 at cut2 hb2
          have hk0 : (0 : Int) ≤ (k : Int) := by omega
          have hl1 : (z.take k).length = k := by rw [List.length_take]; have := HN.out; omega
          clear b1 b2 ez hz7
          go_upto_region 19 with (at_builtin; refine wpList_app rfl _ _ rfl W7.heap.size _ [_] rfl hE1 a2 n2 c2 (z.drop k) rfl hb2 (by simp; omega) (by simp) ?_; intro v1 w1 ho1 hg1)
        all_goals
          have hB1 := below_grown hA1 hE1 hg1 (by simp)
          obtain ⟨xr, nr, cr, rfl, hnr⟩ := ho1.isSlice
          have hr1 := ho1.bytes.2
          have hq1 := HB1.out.below hB1
          have hE0 : OwnB (w1.alloc (.cells #[] 5)) w1.heap.size (.slice (some ⟨w1.heap.size, 0, none⟩) 0 0) [] := OwnB.ofHolds (Holds.new w1 .u8 5 []) (Nat.le_refl _) (by simp)
          have hA2 := (Below.refl w1.heap.size w1).alloc (Nat.le_refl _) (.cells #[] 5)
          have hq2 := hq1.below hA2
          have hnr2 : nr ≤ 70 := by rw [hnr, List.length_append, List.length_drop, List.length_singleton]; have := HN.out; omega
          have HHB := Veil.mk hB1
          have HHR := Veil.mk hr1
          clear hq1 hnr hg1 ho1 hE1 hA1 hb2 cut2 hB1 hr1
          go_upto_region 5 with (first
            | (at_builtin; refine wpList_app rfl _ _ rfl w1.heap.size _ [] rfl hE0 a1 k c (z.take k) rfl hq2 (by simp; omega) (by simp) ?_; intro v2 w2 ho2 hg2; have hB2 := below_grown hA2 hE0 hg2 (by simp); have hq3 := HHR.out.below hB2; have hs2 := hB2.size; rw [List.nil_append] at ho2; clear hE0 hq2 hg2 hA2)
            | (at_builtin; refine wpList_app rfl _ _ rfl w1.heap.size _ (z.take k) rfl ho2 xr nr cr _ rfl hq3 (by rw [hl1]; omega) hs2 ?_; intro v3 w3 ho3 hg3))
        all_goals
          have hB3 := below_grown hB2 ho2 hg3 hs2
          have hB7 := HHB.out.trans (hB3.mono HHB.out.size)
          have hO7 := ho3.lessG HHB.out.size
          rw [← List.append_assoc] at hO7
          have hH5 := HH7.out.want hB7 hO7
          obtain ⟨x5, n5, c5, rfl, hn5⟩ := hO7.isSlice
          have HN5 := Veil.mk hn5
          have HH5 := Veil.mk hH5
          clear hn5 hH5 ho3 hg3 hB3 ho2 hB2 hs2 hB7 hO7 HH7 HB1 cut1 hq3 HHR HHB
          go_wp2
          go_roundw
        all_goals first
          | exact ⟨i + 1, n5, c5, x5, _, V7, _, by push_cast; rfl, rfl, hc3, HN5, HIN.out.typed, HH5.out⟩
          | (simp [intOf]; omega)
    · have HEND : Veil (refI N ⟨(2, 1), rootS, 122⟩ = 0 ∧ textN (insN N ⟨(2, 1), rootS, 122⟩) = z ++ [122]) := ⟨HTY.out.last hi60⟩
      obtain ⟨a1, ha1⟩ : ∃ q, n + 1 = q := ⟨_, rfl⟩
      have HA1 := Veil.mk ha1
      have hinl : (insN N ⟨(2, 1), rootS, 122⟩) = N ++ [⟨(2, 1), rootS, 122⟩] := by unfold insN; rw [if_pos HEND.out.1]
      have HCI : Veil (∀ W, TreeAt W w.heap.size R bc bn N V → w.heap.size ≤ W.heap.size → Calls Try.prog 15 #[.pointer (some ⟨R, 0, none⟩), .agg #[.int .u8 2, .int .u32 1], .agg #[.int .u8 0, .int .u32 0], .bool true, .int .u8 122] W fun e w' => e = .returned (.int .i64 0) ∧ ∃ V', TreeAt w' w.heap.size R bc bn (insN N ⟨(2, 1), rootS, 122⟩) V' ∧ TreeTo R bc bn V V' W w') := ⟨fun W hT hl => by
        have := insT_any _ R bc bn N V ⟨(2, 1), rootS, 122⟩ (by unfold okDF; simp) okRoot (by have := HTY.out.len; omega) W hl hT
        rw [HEND.out.1] at this
        exact this⟩
      have hok2 : TreeOk (insN N ⟨(2, 1), rootS, 122⟩) := HTY.out.ok.ins _
      have HLE : Veil ((insN N ⟨(2, 1), rootS, 122⟩).length ≤ 61 ∧ 1 ≤ (insN N ⟨(2, 1), rootS, 122⟩).length) := ⟨by rw [hinl, List.length_append, List.length_singleton]; have := HTY.out.len; omega⟩
      have HCT : Veil (∀ V2 W, TreeAt W w.heap.size R bc bn (insN N ⟨(2, 1), rootS, 122⟩) V2 → (Calls Try.prog 11 #[.pointer (some ⟨R, 0, none⟩)] W fun e w' => ∃ tx tc, e = .returned (.slice tx a1 tc) ∧ Bytes w' tx a1 tc (z ++ [122]) ∧ Below W.heap.size W w') ∧ (Calls Try.prog 8 #[.pointer (some ⟨R, 0, none⟩)] W fun e w' => e = .returned (.int .i64 ((insN N ⟨(2, 1), rootS, 122⟩).length : Nat)) ∧ w' = W)) := ⟨fun V2 W hT => by
        refine ⟨(textB_any _ R bc bn _ V2 hok2 (by have := HLE.out; omega) W hT).mono ?_, lenT_any _ R bc bn _ V2 W hT⟩
        rintro e w' ⟨v, h1, h2, h3⟩
        rw [HEND.out.2] at h2
        obtain ⟨y, m, c, rfl, hm⟩ := h2.isSlice
        obtain rfl : m = a1 := by rw [hm, List.length_append, List.length_singleton, ← ha1]; have := HN.out; omega
        exact ⟨y, c, h1, h2.bytes.2, h3⟩⟩
      have HWO : Veil (∀ tx tc W, Bytes W tx a1 tc (z ++ [122]) → Bytes W x n c z → Calls Try.prog 16 #[.slice tx a1 tc, .slice x n c] W fun e w' => e = .returned (.bool true) ∧ Below W.heap.size W w') := ⟨fun tx tc W h1 h2 => by subst ha1; exact without_any tx x tc c n z 122 HN.out.symm (by omega) W h1 h2⟩
      have hwn : IntKind.i64.wrap ((n : Int) + 1) = (a1 : Int) := by rw [IntKind.wrap_i64]; omega
      have haa : ((a1 : Int) == (a1 : Int)) = true := by simp
      obtain ⟨nl, hnl⟩ : ∃ q, (insN N ⟨(2, 1), rootS, 122⟩).length = q := ⟨_, rfl⟩
      rw [hnl] at HCT HLE
      have dl : decide ((0 : Int) < (nl : Int)) = true := by have := HLE.out; simp; omega
      have dll : (0 : Int) < (nl : Int) := by have := HLE.out; omega
      generalize insN N ⟨(2, 1), rootS, 122⟩ = NI at HEND hinl HCI hok2 HCT hnl
      have hin := HCI.out wr HH.out.tree HH.out.below.size
      clear hnl hinl hok2 HCI HEND HLE ha1 HTY
      have hcases : (¬ i < pn) ∨ (i < pn ∧ ¬ i < cn) ∨ (i < pn ∧ i < cn ∧ ¬ i < 60) := by omega
      rcases hcases with hx | ⟨hx, hy⟩ | ⟨hx, hy, hz⟩
      case' inl =>
        have d1 : decide ((i : Int) < (pn : Int)) = false := by simp; omega
        have l1 : ¬ (i : Int) < (pn : Int) := by omega
        clear hcond hx
        go_upto_region 20 with fail
      case' inr.inl =>
        have d1 : decide ((i : Int) < (pn : Int)) = true := by simp; omega
        have l1 : (i : Int) < (pn : Int) := by omega
        have d2 : decide ((i : Int) < (cn : Int)) = false := by simp; omega
        have l2 : ¬ (i : Int) < (cn : Int) := by omega
        clear hcond hx hy
        go_upto_region 20 with fail
      case' inr.inr =>
        have d1 : decide ((i : Int) < (pn : Int)) = true := by simp; omega
        have l1 : (i : Int) < (pn : Int) := by omega
        have d2 : decide ((i : Int) < (cn : Int)) = true := by simp; omega
        have l2 : (i : Int) < (cn : Int) := by omega
        have d3 : decide ((i : Int) < 60) = false := by simp; omega
        have l3 : ¬ (i : Int) < 60 := by omega
        clear hcond hx hy hz
        go_upto_region 20 with fail
      all_goals
        go_upto_region 21 with (go_at_call 15; refine hin.mono ?_; rintro y W2 ⟨rfl, V2, hT2, ht2⟩; clear hin)
      all_goals
        have hH2 := HH.out.to hT2 ht2
        have hle := (HCT.out V2 W2 hH2.tree).2
        have HH2 := Veil.mk hH2
        clear hH2 hT2 ht2 HH
        go_wp2_with (first
          | (go_at_call 8; refine hle.mono ?_; rintro y W3 ⟨rfl, rfl⟩; have htx := (HCT.out V2 _ HH2.out.tree).1; clear hle)
          | (go_at_call 11; refine htx.mono ?_; rintro y W4 ⟨tx, tc, rfl, hb4, hB4⟩; have htz := (HCT.out V2 _ (HH2.out.tree.far hB4)).1; have HB4 := Veil.mk hB4; clear htx hb4 hB4)
          | (go_at_call 11; refine htz.mono ?_; rintro y W5 ⟨ty, tc5, rfl, hb5, hB5⟩; have hH5 := (HH2.out.far HB4.out).far hB5; have hwo := HWO.out ty tc5 _ hb5 hH5.own.bytes.2; have HH5 := Veil.mk hH5; clear htz hb5 hB5 hH5)
          | (go_at_call 16; refine hwo.mono ?_; rintro y W6 ⟨rfl, hb6⟩; have HB6 := Veil.mk (HH5.out.below.trans (hb6.mono HH5.out.below.size)); clear hwo hb6))
      all_goals
        go_ret
        exact ⟨rfl, HB6.out⟩
end Go.Proofs.Ythjkcfpdkhghpaa

