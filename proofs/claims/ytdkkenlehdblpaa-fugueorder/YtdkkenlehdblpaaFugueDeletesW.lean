/- FugueDeletes, walked. -/
import Derived.Test.YtdkkenlehdblpaaFp2
import Derived.Test.YtdkkenlehdblpaaFugueAtsW
import Derived.Test.YtdkkenlehdblpaaFuguePlacesW
namespace Go.Proofs.Ytdkkenlehdblpaa
open Go.RowKit Go.Shelf
set_option maxRecDepth 20000
set_option linter.unusedSimpArgs false
theorem delN_twice (N : List Nd) (x : Int × Int) : delN (delN N x) x = delN N x := by
  unfold delN
  rw [List.map_map]
  refine List.map_congr_left fun n _ => ?_
  show gone x (gone x n) = gone x n
  unfold gone
  by_cases h : n.id = x <;> simp [h]
theorem OwnI.turned {p : Nat → Prop} {w w' : World} {base : Nat} {t : TypeId} {k : Nat} {v : Value} {L : List (List Value)} (h : OwnI w base t k v L) (ht : Turn p w w') (hp : ∀ g, v.ownBlock = some g → ¬ p g) : OwnI w' base t k v L := h.congr fun g hg => ht.block g (h.blockLt g hg).1 (hp g hg)
set_option maxHeartbeats 16000000 in
theorem fde_walk (x : Option Addr) (len cap : Nat) (L : List Dd8) (iv : Int) (w : World) (hL : DeedsAt w x len cap L) (hi0 : 0 ≤ iv) (hi1 : iv ≤ 255) :
    Calls Try.prog 7 #[.slice x len cap, .int .u8 iv] w fun e w' => e = .returned (.bool true) ∧ Below w.heap.size w w' := by
  have hpl := play8_any x len cap L w hL
  obtain ⟨N, hNN⟩ : ∃ q, playN (L.take 60) = q := ⟨_, rfl⟩
  have hok : TreeOk N := by rw [← hNN]; exact playN_ok _
  have hln : N.length ≤ 60 := by rw [← hNN]; have := playN_len (L.take 60); have := List.length_take_le 60 L; omega
  have HPL : Veil (∀ v0 W2, PlayR w L v0 W2 → ∃ R bc bn V Q, v0 = .tuple #[.pointer (some ⟨R, 0, none⟩), .pointer (some ⟨Q, 0, none⟩), .bool true] ∧ TreeAt W2 w.heap.size R bc bn N V ∧ (∀ k, treeP R bc bn V k → w.heap.size ≤ k) ∧ Below w.heap.size w W2) := ⟨fun v0 W2 ⟨R, bc, bn, V, Q, v, h1, h2, h3⟩ => ⟨R, bc, bn, V, Q, h1, by rw [hNN] at h2; exact h2.tree, fun k hk => h2.above k (.inl hk), h3⟩⟩
  have HLV : Veil (∀ W, Calls Try.prog 12 #[] W fun e w' => e = .returned (.bool true) ∧ Below W.heap.size W w') := ⟨fun W => live8_any W⟩
  obtain ⟨z, hz⟩ : ∃ q, textN N = q := ⟨_, rfl⟩
  obtain ⟨tn, htn⟩ : ∃ q, z.length = q := ⟨_, rfl⟩
  have hwl : (wrN N).length = tn := by rw [← htn, ← hz]; unfold textN; rw [List.length_map]
  obtain ⟨ORD, hORD⟩ : ∃ q, walkA N rootS = q := ⟨_, rfl⟩
  have hol : ORD.length ≤ 60 := by rw [← hORD, hok.len]; exact hln
  have ht60 : tn ≤ 60 := by
    rw [← hwl]
    have h1 : (wrN N).length ≤ (walkA N rootS).length := List.length_filter_le _ _
    rw [hORD] at h1; omega
  have HCO : Veil (∀ R bc bn V W2, TreeAt W2 w.heap.size R bc bn N V → (Calls Try.prog 14 #[.pointer (some ⟨R, 0, none⟩)] W2 fun e w' => ∃ tx tc, e = .returned (.slice tx tn tc) ∧ Bytes w' tx tn tc z ∧ (∀ a, tx = some a → W2.heap.size ≤ a.block) ∧ Below W2.heap.size W2 w') ∧ (Calls Try.prog 21 #[.pointer (some ⟨R, 0, none⟩)] W2 fun e w' => ∃ ox oc, e = .returned (.slice ox ORD.length oc) ∧ OwnI w' W2.heap.size 32 2 (.slice ox ORD.length oc) (ORD.map encF) ∧ Below W2.heap.size W2 w')) := ⟨fun R bc bn V W2 hT => by
    refine ⟨(textB_any _ R bc bn N V hok (by omega) W2 hT).mono ?_, (orderT_any _ R bc bn N V hok (by omega) W2 hT).mono ?_⟩
    · rintro e w' ⟨v, h1, h2, h3⟩
      rw [hz] at h2
      obtain ⟨y, n, c, rfl, hn⟩ := h2.isSlice
      obtain rfl : n = tn := by rw [hn]; exact htn
      exact ⟨y, c, h1, h2.bytes.2, h2.fresh, h3⟩
    · rintro e w' ⟨v, h1, h2, h3⟩
      rw [hORD] at h2
      obtain ⟨y, c, hv⟩ := h2.isSlice
      rw [List.length_map] at hv
      exact ⟨y, c, by rw [h1, hv], by rw [← hv]; exact h2, h3⟩⟩
  have HDD : Veil (0 < tn → ∃ (k : Nat) (d : Int × Int) (y : List Int), k < tn ∧ iv.tmod (tn : Int) = (k : Nat) ∧ y.take k = z.take k ∧ y.drop k = z.drop (k + 1) ∧ y.length + 1 = tn ∧ (∀ R bc bn V W2, TreeAt W2 w.heap.size R bc bn N V → okDF d ∧ (Calls Try.prog 24 #[.pointer (some ⟨R, 0, none⟩), .int .i64 (k : Nat)] W2 fun e w' => e = .returned (.tuple #[.agg (encF d).toArray, .int .i64 0]) ∧ Below W2.heap.size W2 w') ∧ (Calls Try.prog 25 #[.pointer (some ⟨R, 0, none⟩), .agg (encF d).toArray] W2 fun e w' => e = .returned (.int .i64 0) ∧ TreeAt w' w.heap.size R bc bn (delN N d) V ∧ TreeTo R bc bn V V W2 w')) ∧ (∀ R bc bn V W2, TreeAt W2 w.heap.size R bc bn (delN N d) V → okDF d → (Calls Try.prog 25 #[.pointer (some ⟨R, 0, none⟩), .agg (encF d).toArray] W2 fun e w' => e = .returned (.int .i64 0) ∧ TreeAt w' w.heap.size R bc bn (delN N d) V ∧ TreeTo R bc bn V V W2 w') ∧ (Calls Try.prog 14 #[.pointer (some ⟨R, 0, none⟩)] W2 fun e w' => ∃ ix ic, e = .returned (.slice ix y.length ic) ∧ Bytes w' ix y.length ic y ∧ Below W2.heap.size W2 w') ∧ (Calls Try.prog 18 #[.pointer (some ⟨R, 0, none⟩), .agg (encF d).toArray] W2 fun e w' => e = .returned (.bool true) ∧ Below W2.heap.size W2 w') ∧ (Calls Try.prog 21 #[.pointer (some ⟨R, 0, none⟩)] W2 fun e w' => ∃ ox oc, e = .returned (.slice ox ORD.length oc) ∧ OwnI w' W2.heap.size 32 2 (.slice ox ORD.length oc) (ORD.map encF) ∧ Below W2.heap.size W2 w'))) := ⟨fun h0 => by
    obtain ⟨k, hk1, hk2⟩ : ∃ k : Nat, iv.tmod (tn : Int) = (k : Nat) ∧ k < tn := by
      refine ⟨(iv % (tn : Int)).toNat, ?_, ?_⟩
      · rw [Int.tmod_eq_emod_of_nonneg hi0, Int.toNat_of_nonneg (Int.emod_nonneg _ (by omega))]
      · have := Int.emod_lt_of_pos iv (show (0 : Int) < (tn : Int) by omega)
        have := Int.emod_nonneg iv (show ((tn : Int)) ≠ 0 by omega)
        omega
    have hkw : k < (wrN N).length := by omega
    have htd := textN_del hok hkw
    have hhas := wrN_node hok (List.getElem_mem hkw)
    have hat := atN_in hkw
    have hdok : ∀ R bc bn V W2, TreeAt W2 w.heap.size R bc bn N V → okDF (wrN N)[k] := fun R bc bn V W2 hT => wrN_okDF hok hT (List.getElem_mem hkw)
    rw [hz] at htd
    generalize (wrN N)[k] = d at htd hhas hat hdok
    have hkl : (z.take k).length = k := by rw [List.length_take]; omega
    have hhas2 : (chrN (delN N d) d).isSome = true := by
      rw [chrN_del, if_pos rfl]
      cases hq : chrN N d with
      | none => rw [hq] at hhas; cases hhas
      | some c => rfl
    refine ⟨k, d, z.take k ++ z.drop (k + 1), hk2, hk1, List.take_left' hkl, List.drop_left' hkl, by simp only [List.length_append, List.length_take, List.length_drop]; omega, fun R bc bn V W2 hT => ⟨hdok R bc bn V W2 hT, ?_, ?_⟩, fun R bc bn V W2 hT hd => ⟨?_, ?_, ?_, ?_⟩⟩
    · have := atT2_any _ R bc bn N V hok (by omega) (k : Nat) W2 hT
      rw [hat] at this
      exact this
    · have := delT_any _ R bc bn N V d (hdok R bc bn V W2 hT) (by omega) W2 hT
      rw [hhas, if_pos rfl] at this
      exact this
    · have := delT_any _ R bc bn (delN N d) V d hd (by rw [delN_len]; omega) W2 hT
      rw [hhas2, if_pos rfl, delN_twice] at this
      exact this
    · refine (textB_any _ R bc bn _ V (hok.del d) (by rw [delN_len]; omega) W2 hT).mono ?_
      rintro e w' ⟨v, h1, h2, h3⟩
      rw [htd] at h2
      obtain ⟨y, n, c, rfl, hn⟩ := h2.isSlice
      subst hn
      exact ⟨y, c, h1, h2.bytes.2, h3⟩
    · have := hasT_any _ R bc bn (delN N d) V d hd W2 hT
      rw [hhas2] at this
      exact this
    · refine (orderT_any _ R bc bn _ V (hok.del d) (by rw [delN_len]; omega) W2 hT).mono ?_
      rintro e w' ⟨v, h1, h2, h3⟩
      rw [walk_delN hok.rooted, hORD] at h2
      obtain ⟨y, c, hv⟩ := h2.isSlice
      rw [List.length_map] at hv
      exact ⟨y, c, by rw [h1, hv], by rw [← hv]; exact h2, h3⟩⟩
  have HSD : Veil (∀ b1 b2 x1 x2 c1 c2 W, OwnI W b1 32 2 (.slice x1 ORD.length c1) (ORD.map encF) → OwnI W b2 32 2 (.slice x2 ORD.length c2) (ORD.map encF) → Calls Try.prog 20 #[.slice x1 ORD.length c1, .slice x2 ORD.length c2] W fun e w' => e = .returned (.bool true) ∧ Below W.heap.size W w') := ⟨fun b1 b2 x1 x2 c1 c2 W h1 h2 => sameDots_any b1 b2 x1 x2 c1 c2 ORD (by omega) W h1 h2⟩
  obtain ⟨OC, hOC⟩ : ∃ q, ORD.map encF = q := ⟨_, rfl⟩
  rw [hOC] at HCO HDD HSD
  obtain ⟨on, hon⟩ : ∃ q, ORD.length = q := ⟨_, rfl⟩
  rw [hon] at HCO HDD HSD hol
  have HT60 := Veil.mk ht60
  have hwi : IntKind.i64.wrap iv = iv := by rw [IntKind.wrap_i64]; omega
  clear hOC hon hNN hok hln hz htn hwl hORD hL hi0 hi1 ht60
  go_enter Try.func7, Try.ntmps7
  go_upto_region 5 with (first
    | (go_at_call 11; refine hpl.mono ?_; rintro y W1 ⟨v0, rfl, hpr⟩; obtain ⟨R, bc, bn, V, Q, rfl, hT1, hab1, hB1⟩ := HPL.out v0 W1 hpr; have hlv := HLV.out W1; clear hpl hpr)
    | (go_at_call 12; refine hlv.mono ?_; rintro y W2 ⟨rfl, hb2⟩; have hT2 := hT1.far hb2; have hB2 := hB1.trans (hb2.mono hB1.size); have htx := (HCO.out R bc bn V W2 hT2).1; clear hlv)
    | (go_at_call 14; refine htx.mono ?_; rintro y W3 ⟨tx, tc, rfl, hz3, hfr3, hb3⟩; have hT3 := hT2.far hb3; have hor := (HCO.out R bc bn V W3 hT3).2; clear htx)
    | (go_at_call 21; refine hor.mono ?_; rintro y W4 ⟨ox, oc, rfl, hO4, hb4⟩; clear hor))
  have hB3 := hB2.trans (hb3.mono hB2.size)
  have hB4 := hB3.trans (hb4.mono hB3.size)
  have HFR : Veil (∀ a, tx = some a → ¬ treeP R bc bn V a.block) := ⟨fun a ha q => by have := hfr3 a ha; have := hT2.blockLt _ q; omega⟩
  have HFO : Veil (∀ g, (Value.slice ox on oc).ownBlock = some g → ¬ treeP R bc bn V g) := ⟨fun g hg q => by have := (hO4.blockLt g hg).2.1; have := hT3.blockLt _ q; omega⟩
  have HST := Veil.mk (And.intro (hT3.far hb4) (And.intro hB4 (And.intro (hz3.below hb4) hO4)))
  have HAB := Veil.mk hab1
  generalize W3.heap.size = ob at HST
  clear hfr3 hz3 hO4 hT3 hT2 hT1 hB1 hB2 hB3 hB4 hb2 hb3 hb4 hab1 HPL HLV HCO W1 W2 W3
  by_cases h0 : tn = 0
  · subst h0
    go_wp2
    go_ret
    exact ⟨rfl, HST.out.2.1⟩
  have h0b : ((tn : Int) == 0) = false := by simp; omega
  have h0z : ¬ ((tn : Int) = 0) := by omega
  obtain ⟨k, d, y, hkt, htm, hyt, hyd, hyl, HC1, HC2⟩ := HDD.out (by omega)
  have HY := Veil.mk (And.intro hkt (And.intro hyt (And.intro hyd hyl)))
  have HD1 := Veil.mk HC1
  have HD2 := Veil.mk HC2
  have hat := (HC1 R bc bn V W4 HST.out.1).2.1
  have HOKD := Veil.mk (HC1 R bc bn V W4 HST.out.1).1
  obtain ⟨da, db⟩ := d
  simp only [encF, dotC] at hat HD1 HD2
  have hkk : (k : Int) < (tn : Int) := by omega
  clear HC1 HC2 hkt hyt hyd hyl HDD h0
  go_upto_region 9 with (go_at_call 24; refine hat.mono ?_; rintro y W5 ⟨rfl, hb5⟩; clear hat)
  have hb6 : Below W5.heap.size W5 (W5.alloc (.cells #[.int .u8 da, .int .u32 db] 32)) := (Below.refl _ _).alloc (Nat.le_refl _) _
  have hb45 := hb5.trans (hb6.mono hb5.size)
  refine forget (p := fun y => Code.wp _ _ _ _ y) (fun W => Below W4.heap.size W4 W ∧ CellsAt W W5.heap.size 32 [.int .u8 da, .int .u32 db]) ⟨hb45, CellsAt.new W5 32 [.int .u8 da, .int .u32 db]⟩ ?_
  have HLP : Veil (∀ k, treeP R bc bn V k → k ≠ W5.heap.size) := ⟨fun k q => by have := HST.out.1.blockLt k q; have := hb5.size; omega⟩
  generalize W5.heap.size = b11 at HLP
  clear hb45 hb6 hb5 W5
  rintro W6 ⟨hb6, hd6⟩
  obtain ⟨hT4, hB4, hz4, hO4⟩ := HST.out
  have uD := Try.underlying32
  have iD : (Try.prog.info? 32).map (·.size) = some [Value.int .u8 da, Value.int .u32 db].length := sizeDot
  have hde1 := (HD1.out R bc bn V W6 (hT4.far hb6)).2.2
  have hrd6 := hd6.wholeM
  -- what stays while the tree is written to
  have HKEEP : Veil (∀ (A B : World), TreeTo R bc bn V V A B → Below w.heap.size w A → Bytes A tx tn tc z → OwnI A ob 32 2 (.slice ox on oc) OC → CellsAt A b11 32 [.int .u8 da, .int .u32 db] → Below w.heap.size w B ∧ Bytes B tx tn tc z ∧ OwnI B ob 32 2 (.slice ox on oc) OC ∧ CellsAt B b11 32 [.int .u8 da, .int .u32 db]) := ⟨fun A B ht h1 h2 h3 h4 => ⟨h1.trans (below_turn ht.turn (fun k hk => HAB.out k hk) h1.size), h2.turned ht.turn HFR.out, h3.turned ht.turn HFO.out, h4.congr (ht.turn.block _ h4.lt (fun q => HLP.out _ q rfl))⟩⟩
  have H6 := Veil.mk (And.intro (hB4.trans (hb6.mono hB4.size)) (And.intro (hz4.below hb6) (And.intro (hO4.far hb6) hd6)))
  clear hT4 hB4 hz4 hO4 HST hb6 hd6 HD1 W4
  go_upto_region 10 with (first
    | (refine wpList_ldv rfl 32 (.tmp 11) rfl b11 0 rfl [.int .u8 da, .int .u32 db] hrd6 uD rfl iD ?_)
    | (go_at_call 25; refine hde1.mono ?_; rintro y W7 ⟨rfl, hT7, ht7⟩; clear hde1))
  obtain ⟨q1, q2, q3, q4⟩ := H6.out
  obtain ⟨h71, h72, h73, h74⟩ := HKEEP.out W6 W7 ht7 q1 q2 q3 q4
  have hde2 := (HD2.out R bc bn V W7 hT7 HOKD.out).1
  have hrd7 := h74.wholeM
  have H7 := Veil.mk (And.intro h71 (And.intro h72 (And.intro h73 h74)))
  clear q1 q2 q3 q4 h71 h72 h73 h74 hT7 ht7 hrd6 H6 W6
  go_upto_region 11 with (first
    | (refine wpList_ldv rfl 32 (.tmp 11) rfl b11 0 rfl [.int .u8 da, .int .u32 db] hrd7 uD rfl iD ?_)
    | (go_at_call 25; refine hde2.mono ?_; rintro y W8 ⟨rfl, hT8, ht8⟩; clear hde2))
  obtain ⟨q1, q2, q3, q4⟩ := H7.out
  obtain ⟨h81, h82, h83, h84⟩ := HKEEP.out W7 W8 ht8 q1 q2 q3 q4
  have htx := (HD2.out R bc bn V W8 hT8 HOKD.out).2.1
  have HT8 := Veil.mk hT8
  have H8 := Veil.mk (And.intro h81 (And.intro h82 (And.intro h83 h84)))
  clear q1 q2 q3 q4 h81 h82 h83 h84 hT8 ht8 hrd7 H7 HKEEP W7
  obtain ⟨m, hm⟩ : ∃ q, y.length = q := ⟨_, rfl⟩
  rw [hm] at htx
  have HM := Veil.mk hm
  clear hm
  go_upto_region 12 with (go_at_call 14; refine htx.mono ?_; rintro yy W9 ⟨ix, ic, rfl, hy9, hb9⟩; clear htx)
  obtain ⟨q1, q2, q3, q4⟩ := H8.out
  have hT9 := HT8.out.far hb9
  have hB9 := q1.trans (hb9.mono q1.size)
  have hz9 := q2.below hb9
  have hO9 := q3.far hb9
  have hd9 := q4.farM hb9
  obtain ⟨hkt, hyt, hyd, hyl⟩ := HY.out
  have hml := HM.out
  rw [hml] at hyl
  have ht6 := HT60.out
  have cut1 : ∀ wx, (Instr.slice 35 (.slice ix m ic) none (some (.int .i64 (k : Int))) none).run Try.prog wx = .ok (.slice (subA ix ic 0) k ic) wx := fun wx => run_cut_h wx _ m ic k (by have := hy9.le; omega)
  have cut2 : ∀ wx, (Instr.slice 35 (.slice tx tn tc) none (some (.int .i64 (k : Int))) none).run Try.prog wx = .ok (.slice (subA tx tc 0) k tc) wx := fun wx => run_cut_h wx _ tn tc k (by have := hz9.le; omega)
  have cut3 : ∀ wx, (Instr.slice 35 (.slice ix m ic) (some (.int .i64 (k : Int))) none none).run Try.prog wx = .ok (.slice (subA ix ic k) (m - k) (ic - k)) wx := fun wx => run_cut_l wx _ m ic k (by omega)
  have cut4 : ∀ wx, (Instr.slice 35 (.slice tx tn tc) (some (.int .i64 ((k : Int) + 1))) none none).run Try.prog wx = .ok (.slice (subA tx tc (k + 1)) (m - k) (tc - (k + 1))) wx := fun wx => by
    have := run_cut_l wx tx tn tc (k + 1) (by omega)
    rw [show tn - (k + 1) = m - k by omega] at this
    push_cast at this
    exact this
  have b1 := hy9.cut 0 k (by omega) (by omega)
  have b2 := hz9.cut 0 k (by omega) (by omega)
  have b3 := hy9.cut k m (by omega) (by omega)
  have b4 := hz9.cut (k + 1) tn (by omega) (by omega)
  rw [List.drop_zero, Nat.sub_zero, Nat.sub_zero, hyt] at b1
  rw [List.drop_zero, Nat.sub_zero, Nat.sub_zero] at b2
  rw [hyd] at b3
  rw [show tn - (k + 1) = m - k by omega] at b4
  have HV : Veil (∀ w', Below W9.heap.size W9 w' → w'.rangeAt b11 0 [.int .u8 da, .int .u32 db] ∧ (convert 35 9 (.slice (subA ix ic 0) k ic)).run Try.prog w' = .ok (.string (strOfNums (z.take k))) w' ∧ (convert 35 9 (.slice (subA tx tc 0) k tc)).run Try.prog w' = .ok (.string (strOfNums (z.take k))) w' ∧ (convert 35 9 (.slice (subA ix ic k) (m - k) (ic - k))).run Try.prog w' = .ok (.string (strOfNums ((z.drop (k + 1)).take (m - k)))) w' ∧ (convert 35 9 (.slice (subA tx tc (k + 1)) (m - k) (tc - (k + 1)))).run Try.prog w' = .ok (.string (strOfNums ((z.drop (k + 1)).take (m - k)))) w') := ⟨fun w' hb => ⟨(hd9.farM hb).wholeM, conv_bytes (b1.below hb), conv_bytes (b2.below hb), conv_bytes (b3.below hb), conv_bytes (b4.below hb)⟩⟩
  generalize strOfNums (z.take k) = S1 at HV
  generalize strOfNums ((z.drop (k + 1)).take (m - k)) = S2 at HV
  generalize subA ix ic 0 = a1 at cut1 HV
  generalize subA tx tc 0 = a2 at cut2 HV
  generalize subA ix ic k = a3 at cut3 HV
  generalize subA tx tc (k + 1) = a4 at cut4 HV
  generalize ic - k = d3 at cut3 HV
  generalize tc - (k + 1) = d4 at cut4 HV
  have hk0 : (0 : Int) ≤ (k : Int) := by omega
  have hwk : IntKind.i64.wrap ((k : Int) + 1) = (k : Int) + 1 := by rw [IntKind.wrap_i64]; omega
  have hws : IntKind.i64.wrap ((tn : Int) - 1) = (m : Int) := by rw [IntKind.wrap_i64]; omega
  generalize m - k = m3 at cut3 cut4 HV
  have hmm : ((m : Int) == (m : Int)) = true := by simp
  have hha := (HD2.out R bc bn V W9.drew (hT9.far (Below.refl _ _).drew) HOKD.out).2.2.1
  have H9 := Veil.mk (And.intro hT9 (And.intro hB9 hO9))
  clear b1 b2 b3 b4 hy9 hz9 hd9 q1 q2 q3 q4 hT9 hB9 hO9 hkt hyt hyd hyl hml ht6 H8 HT8 hb9 W8
  refine wp_region_gateT (fun w' : World => w'.rangeAt b11 0 [.int .u8 da, .int .u32 db] ∧ (convert 35 9 (.slice a1 k ic)).run Try.prog w' = .ok (.string S1) w' ∧ (convert 35 9 (.slice a2 k tc)).run Try.prog w' = .ok (.string S1) w' ∧ (convert 35 9 (.slice a3 m3 d3)).run Try.prog w' = .ok (.string S2) w' ∧ (convert 35 9 (.slice a4 m3 d4)).run Try.prog w' = .ok (.string S2) w') (fun _ => True) 99 (by kernel_rfl) ?_
  have hT : (fun w' : World => w'.rangeAt b11 0 [.int .u8 da, .int .u32 db] ∧ (convert 35 9 (.slice a1 k ic)).run Try.prog w' = .ok (.string S1) w' ∧ (convert 35 9 (.slice a2 k tc)).run Try.prog w' = .ok (.string S1) w' ∧ (convert 35 9 (.slice a3 m3 d3)).run Try.prog w' = .ok (.string S2) w' ∧ (convert 35 9 (.slice a4 m3 d4)).run Try.prog w' = .ok (.string S2) w') W9.drew := HV.out _ (Below.refl _ _).drew
  have hS : (fun _ : World => True) W9.drew := trivial
  refine wpAnyT_held (i := 0) (v := ?_) rfl (by kernel_rfl) (by kernel_rfl) (by kernel_rfl) (fun _ _ _ h => h) (by kernel_rfl) hT (fun _ => hS) (by kernel_rfl) ?_ ?_
  rotate_left
  · intro wx hSw; go_split_ands; go_simp; try with_reducible rfl
  simp only [Act.put, List.getElem_toArray, List.getElem_cons_succ, List.getElem_cons_zero, List.setIfInBounds_toArray, List.set_cons_zero, List.set_cons_succ]
  refine wpAnyT_held (i := 1) (v := .bool true) rfl (by kernel_rfl) (by kernel_rfl) (by kernel_rfl) (fun _ _ _ h => h) (by kernel_rfl) hT (fun _ => hS) (by kernel_rfl) ?_ ?_
  · intro wx hSw; go_split_ands; go_simp
  simp only [Act.put, List.getElem_toArray, List.getElem_cons_succ, List.getElem_cons_zero, List.setIfInBounds_toArray, List.set_cons_zero, List.set_cons_succ]
  refine wpAnyT_held (i := 2) (v := ?_) rfl (by kernel_rfl) (by kernel_rfl) (by kernel_rfl) (fun _ _ _ h => h) (by kernel_rfl) hT (fun _ => hS) (by kernel_rfl) ?_ ?_
  rotate_left
  · intro wx hSw; go_split_ands; go_simp; try with_reducible rfl
  simp only [Act.put, List.getElem_toArray, List.getElem_cons_succ, List.getElem_cons_zero, List.setIfInBounds_toArray, List.set_cons_zero, List.set_cons_succ]
  refine wpAnyT_held (i := 3) (v := ?_) rfl (by kernel_rfl) (by kernel_rfl) (by kernel_rfl) (fun _ _ _ h => h) (by kernel_rfl) hT (fun _ => hS) (by kernel_rfl) ?_ ?_
  rotate_left
  · intro wx hSw; go_split_ands; go_simp; try with_reducible rfl
  simp only [Act.put, List.getElem_toArray, List.getElem_cons_succ, List.getElem_cons_zero, List.setIfInBounds_toArray, List.set_cons_zero, List.set_cons_succ]
  refine wpAnyT_held (i := 4) (v := .bool true) rfl (by kernel_rfl) (by kernel_rfl) (by kernel_rfl) (fun _ _ _ h => h) (by kernel_rfl) hT (fun _ => hS) (by kernel_rfl) ?_ ?_
  · intro wx hSw; go_split_ands; go_simp
  simp only [Act.put, List.getElem_toArray, List.getElem_cons_succ, List.getElem_cons_zero, List.setIfInBounds_toArray, List.set_cons_zero, List.set_cons_succ]
  refine wpAnyT_held (i := 5) (v := ?_) rfl (by kernel_rfl) (by kernel_rfl) (by kernel_rfl) (fun _ _ _ h => h) (by kernel_rfl) hT (fun _ => hS) (by kernel_rfl) ?_ ?_
  rotate_left
  · intro wx hSw; go_split_ands; go_simp; try with_reducible rfl
  simp only [Act.put, List.getElem_toArray, List.getElem_cons_succ, List.getElem_cons_zero, List.setIfInBounds_toArray, List.set_cons_zero, List.set_cons_succ]
  refine wpAnyT_held (i := 6) (v := ?_) rfl (by kernel_rfl) (by kernel_rfl) (by kernel_rfl) (fun _ _ _ h => h) (by kernel_rfl) hT (fun _ => hS) (by kernel_rfl) ?_ ?_
  rotate_left
  · intro wx hSw; go_split_ands; go_simp; try with_reducible rfl
  simp only [Act.put, List.getElem_toArray, List.getElem_cons_succ, List.getElem_cons_zero, List.setIfInBounds_toArray, List.set_cons_zero, List.set_cons_succ]
  refine wpAnyT_held (i := 7) (v := ?_) rfl (by kernel_rfl) (by kernel_rfl) (by kernel_rfl) (fun _ _ _ h => h) (by kernel_rfl) hT (fun _ => hS) (by kernel_rfl) ?_ ?_
  rotate_left
  · intro wx hSw; go_split_ands; go_simp; try with_reducible rfl
  simp only [Act.put, List.getElem_toArray, List.getElem_cons_succ, List.getElem_cons_zero, List.setIfInBounds_toArray, List.set_cons_zero, List.set_cons_succ]
  refine wpAnyT_held (i := 8) (v := .bool true) rfl (by kernel_rfl) (by kernel_rfl) (by kernel_rfl) (fun _ _ _ h => h) (by kernel_rfl) hT (fun _ => hS) (by kernel_rfl) ?_ ?_
  · intro wx hSw; go_split_ands; go_simp
  simp only [Act.put, List.getElem_toArray, List.getElem_cons_succ, List.getElem_cons_zero, List.setIfInBounds_toArray, List.set_cons_zero, List.set_cons_succ]
  refine wpAnyT_held (i := 9) (v := ?_) rfl (by kernel_rfl) (by kernel_rfl) (by kernel_rfl) (fun _ _ _ h => h) (by kernel_rfl) hT (fun _ => hS) (by kernel_rfl) ?_ ?_
  rotate_left
  · intro wx hSw; go_split_ands; go_simp; try with_reducible rfl
  simp only [Act.put, List.getElem_toArray, List.getElem_cons_succ, List.getElem_cons_zero, List.setIfInBounds_toArray, List.set_cons_zero, List.set_cons_succ]
  refine wpAnyT_held (i := 10) (v := ?_) rfl (by kernel_rfl) (by kernel_rfl) (by kernel_rfl) (fun _ _ _ h => h) (by kernel_rfl) hT (fun _ => hS) (by kernel_rfl) ?_ ?_
  rotate_left
  · intro wx hSw; go_split_ands; go_simp; try with_reducible rfl
  simp only [Act.put, List.getElem_toArray, List.getElem_cons_succ, List.getElem_cons_zero, List.setIfInBounds_toArray, List.set_cons_zero, List.set_cons_succ]
  refine wpAnyT_held (i := 11) (v := ?_) rfl (by kernel_rfl) (by kernel_rfl) (by kernel_rfl) (fun _ _ _ h => h) (by kernel_rfl) hT (fun _ => hS) (by kernel_rfl) ?_ ?_
  rotate_left
  · intro wx hSw; go_split_ands; go_simp; try with_reducible rfl
  simp only [Act.put, List.getElem_toArray, List.getElem_cons_succ, List.getElem_cons_zero, List.setIfInBounds_toArray, List.set_cons_zero, List.set_cons_succ]
  refine wpAnyT_load (i := 12) (dst := some 66) (ty := 32) (x := .tmp 11) (b := b11) (o := (0)) (cs := [.int .u8 da, .int .u32 db]) (by kernel_rfl) (by kernel_rfl) (by kernel_rfl) (by kernel_rfl) (by kernel_rfl) (fun _ _ _ h => h) (by kernel_rfl) hT (fun _ => hS) (by kernel_rfl) (fun _ h => h.1) uD rfl iD ?_
  simp only [Act.put, List.getElem_toArray, List.getElem_cons_succ, List.getElem_cons_zero, List.setIfInBounds_toArray, List.set_cons_zero, List.set_cons_succ]
  refine wpAnyT_one (i := 13) rfl (by kernel_rfl) (by kernel_rfl) (fun K hK => ?_)
  refine wpx_call _ _ (by kernel_rfl) (hha.mono ?_)
  rintro yy V1 ⟨rfl, hc1⟩
  refine ⟨_, rfl, ?_⟩
  replace hc1 : Below W9.heap.size W9 V1 := (Below.refl _ _).drew.trans (hc1.mono (Nat.le_refl _))
  replace hT := HV.out V1 hc1
  replace hS : (fun _ : World => True) V1 := trivial
  have hor := (HD2.out R bc bn V V1 (H9.out.1.far hc1) HOKD.out).2.2.2
  refine hK.out _ _ hT (fun _ => hS) ?_
  clear hK K
  try simp only [Act.put, List.getElem_toArray, List.getElem_cons_succ, List.getElem_cons_zero, List.setIfInBounds_toArray, List.set_cons_zero, List.set_cons_succ]
  refine wpAnyT_held (i := 14) (v := ?_) rfl (by kernel_rfl) (by kernel_rfl) (by kernel_rfl) (fun _ _ _ h => h) (by kernel_rfl) hT (fun _ => hS) (by kernel_rfl) ?_ ?_
  rotate_left
  · intro wx hSw; go_split_ands; go_simp; try with_reducible rfl
  simp only [Act.put, List.getElem_toArray, List.getElem_cons_succ, List.getElem_cons_zero, List.setIfInBounds_toArray, List.set_cons_zero, List.set_cons_succ]
  refine wpAnyT_held (i := 15) (v := ?_) rfl (by kernel_rfl) (by kernel_rfl) (by kernel_rfl) (fun _ _ _ h => h) (by kernel_rfl) hT (fun _ => hS) (by kernel_rfl) ?_ ?_
  rotate_left
  · intro wx hSw; go_split_ands; go_simp; try with_reducible rfl
  simp only [Act.put, List.getElem_toArray, List.getElem_cons_succ, List.getElem_cons_zero, List.setIfInBounds_toArray, List.set_cons_zero, List.set_cons_succ]
  refine wpAnyT_held (i := 16) (v := ?_) rfl (by kernel_rfl) (by kernel_rfl) (by kernel_rfl) (fun _ _ _ h => h) (by kernel_rfl) hT (fun _ => hS) (by kernel_rfl) ?_ ?_
  rotate_left
  · intro wx hSw; go_split_ands; go_simp; try with_reducible rfl
  simp only [Act.put, List.getElem_toArray, List.getElem_cons_succ, List.getElem_cons_zero, List.setIfInBounds_toArray, List.set_cons_zero, List.set_cons_succ]
  refine wpAnyT_held (i := 17) (v := ?_) rfl (by kernel_rfl) (by kernel_rfl) (by kernel_rfl) (fun _ _ _ h => h) (by kernel_rfl) hT (fun _ => hS) (by kernel_rfl) ?_ ?_
  rotate_left
  · intro wx hSw; go_split_ands; go_simp; try with_reducible rfl
  simp only [Act.put, List.getElem_toArray, List.getElem_cons_succ, List.getElem_cons_zero, List.setIfInBounds_toArray, List.set_cons_zero, List.set_cons_succ]
  refine wpAnyT_one (i := 18) rfl (by kernel_rfl) (by kernel_rfl) (fun K hK => ?_)
  refine wpx_call _ _ (by kernel_rfl) (hor.mono ?_)
  rintro yy V2 ⟨ox2, oc2, rfl, hO2, hc2⟩
  refine ⟨_, rfl, ?_⟩
  replace hc2 : Below W9.heap.size W9 V2 := hc1.trans (hc2.mono hc1.size)
  replace hT := HV.out V2 hc2
  replace hS : (fun _ : World => True) V2 := trivial
  have hsd := HSD.out ob V1.heap.size ox ox2 oc oc2 V2 (H9.out.2.2.far hc2) hO2
  clear hO2
  refine hK.out _ _ hT (fun _ => hS) ?_
  clear hK K
  try simp only [Act.put, List.getElem_toArray, List.getElem_cons_succ, List.getElem_cons_zero, List.setIfInBounds_toArray, List.set_cons_zero, List.set_cons_succ]
  refine wpAnyT_one (i := 19) rfl (by kernel_rfl) (by kernel_rfl) (fun K hK => ?_)
  refine wpx_call _ _ (by kernel_rfl) (hsd.mono ?_)
  rintro yy V3 ⟨rfl, hc3⟩
  refine ⟨_, rfl, ?_⟩
  replace hc3 : Below W9.heap.size W9 V3 := hc2.trans (hc3.mono hc2.size)
  replace hT := HV.out V3 hc3
  replace hS : (fun _ : World => True) V3 := trivial
  refine hK.out _ _ hT (fun _ => hS) ?_
  clear hK K
  try simp only [Act.put, List.getElem_toArray, List.getElem_cons_succ, List.getElem_cons_zero, List.setIfInBounds_toArray, List.set_cons_zero, List.set_cons_succ]
  refine wpAnyT_held (i := 20) (v := ?_) rfl (by kernel_rfl) (by kernel_rfl) (by kernel_rfl) (fun _ _ _ h => h) (by kernel_rfl) hT (fun _ => hS) (by kernel_rfl) ?_ ?_
  rotate_left
  · intro wx hSw; go_split_ands; go_simp; try with_reducible rfl
  simp only [Act.put, List.getElem_toArray, List.getElem_cons_succ, List.getElem_cons_zero, List.setIfInBounds_toArray, List.set_cons_zero, List.set_cons_succ]
  refine wpAnyT_held (i := 21) (v := ?_) rfl (by kernel_rfl) (by kernel_rfl) (by kernel_rfl) (fun _ _ _ h => h) (by kernel_rfl) hT (fun _ => hS) (by kernel_rfl) ?_ ?_
  rotate_left
  · intro wx hSw; go_split_ands; go_simp; try with_reducible rfl
  simp only [Act.put, List.getElem_toArray, List.getElem_cons_succ, List.getElem_cons_zero, List.setIfInBounds_toArray, List.set_cons_zero, List.set_cons_succ]
  refine wpAnyT_held (i := 22) (v := ?_) rfl (by kernel_rfl) (by kernel_rfl) (by kernel_rfl) (fun _ _ _ h => h) (by kernel_rfl) hT (fun _ => hS) (by kernel_rfl) ?_ ?_
  rotate_left
  · intro wx hSw; go_split_ands; go_simp; try with_reducible rfl
  simp only [Act.put, List.getElem_toArray, List.getElem_cons_succ, List.getElem_cons_zero, List.setIfInBounds_toArray, List.set_cons_zero, List.set_cons_succ]
  refine wpAnyT_held (i := 23) (v := ?_) rfl (by kernel_rfl) (by kernel_rfl) (by kernel_rfl) (fun _ _ _ h => h) (by kernel_rfl) hT (fun _ => hS) (by kernel_rfl) ?_ ?_
  rotate_left
  · intro wx hSw; go_split_ands; go_simp; try with_reducible rfl
  simp only [Act.put, List.getElem_toArray, List.getElem_cons_succ, List.getElem_cons_zero, List.setIfInBounds_toArray, List.set_cons_zero, List.set_cons_succ]
  refine wpAnyT_held (i := 24) (v := ?_) rfl (by kernel_rfl) (by kernel_rfl) (by kernel_rfl) (fun _ _ _ h => h) (by kernel_rfl) hT (fun _ => hS) (by kernel_rfl) ?_ ?_
  rotate_left
  · intro wx hSw; go_split_ands; go_simp; try with_reducible rfl
  simp only [Act.put, List.getElem_toArray, List.getElem_cons_succ, List.getElem_cons_zero, List.setIfInBounds_toArray, List.set_cons_zero, List.set_cons_succ]
  refine wpAnyT_held (i := 25) (v := ?_) rfl (by kernel_rfl) (by kernel_rfl) (by kernel_rfl) (fun _ _ _ h => h) (by kernel_rfl) hT (fun _ => hS) (by kernel_rfl) ?_ ?_
  rotate_left
  · intro wx hSw; go_split_ands; go_simp; try with_reducible rfl
  simp only [Act.put, List.getElem_toArray, List.getElem_cons_succ, List.getElem_cons_zero, List.setIfInBounds_toArray, List.set_cons_zero, List.set_cons_succ]
  refine wpAnyT_held (i := 26) (v := ?_) rfl (by kernel_rfl) (by kernel_rfl) (by kernel_rfl) (fun _ _ _ h => h) (by kernel_rfl) hT (fun _ => hS) (by kernel_rfl) ?_ ?_
  rotate_left
  · intro wx hSw; go_split_ands; go_simp; try with_reducible rfl
  simp only [Act.put, List.getElem_toArray, List.getElem_cons_succ, List.getElem_cons_zero, List.setIfInBounds_toArray, List.set_cons_zero, List.set_cons_succ]
  refine wpAnyT_held (i := 27) (v := .bool true) rfl (by kernel_rfl) (by kernel_rfl) (by kernel_rfl) (fun _ _ _ h => h) (by kernel_rfl) hT (fun _ => hS) (by kernel_rfl) ?_ ?_
  · intro wx hSw; go_split_ands; go_simp
  simp only [Act.put, List.getElem_toArray, List.getElem_cons_succ, List.getElem_cons_zero, List.setIfInBounds_toArray, List.set_cons_zero, List.set_cons_succ]
  refine wpAnyT_held (i := 28) (v := ?_) rfl (by kernel_rfl) (by kernel_rfl) (by kernel_rfl) (fun _ _ _ h => h) (by kernel_rfl) hT (fun _ => hS) (by kernel_rfl) ?_ ?_
  rotate_left
  · intro wx hSw; go_split_ands; go_simp; try with_reducible rfl
  simp only [Act.put, List.getElem_toArray, List.getElem_cons_succ, List.getElem_cons_zero, List.setIfInBounds_toArray, List.set_cons_zero, List.set_cons_succ]
  refine wpAnyT_held (i := 29) (v := ?_) rfl (by kernel_rfl) (by kernel_rfl) (by kernel_rfl) (fun _ _ _ h => h) (by kernel_rfl) hT (fun _ => hS) (by kernel_rfl) ?_ ?_
  rotate_left
  · intro wx hSw; go_split_ands; go_simp; try with_reducible rfl
  simp only [Act.put, List.getElem_toArray, List.getElem_cons_succ, List.getElem_cons_zero, List.setIfInBounds_toArray, List.set_cons_zero, List.set_cons_succ]
  refine wpAnyT_held (i := 30) (v := ?_) rfl (by kernel_rfl) (by kernel_rfl) (by kernel_rfl) (fun _ _ _ h => h) (by kernel_rfl) hT (fun _ => hS) (by kernel_rfl) ?_ ?_
  rotate_left
  · intro wx hSw; go_split_ands; go_simp; try with_reducible rfl
  simp only [Act.put, List.getElem_toArray, List.getElem_cons_succ, List.getElem_cons_zero, List.setIfInBounds_toArray, List.set_cons_zero, List.set_cons_succ]
  refine wpAnyT_held (i := 31) (v := ?_) rfl (by kernel_rfl) (by kernel_rfl) (by kernel_rfl) (fun _ _ _ h => h) (by kernel_rfl) hT (fun _ => hS) (by kernel_rfl) ?_ ?_
  rotate_left
  · intro wx hSw; go_split_ands; go_simp; try with_reducible rfl
  simp only [Act.put, List.getElem_toArray, List.getElem_cons_succ, List.getElem_cons_zero, List.setIfInBounds_toArray, List.set_cons_zero, List.set_cons_succ]
  refine wpAnyT_held (i := 32) (v := ?_) rfl (by kernel_rfl) (by kernel_rfl) (by kernel_rfl) (fun _ _ _ h => h) (by kernel_rfl) hT (fun _ => hS) (by kernel_rfl) ?_ ?_
  rotate_left
  · intro wx hSw; go_split_ands; go_simp; try with_reducible rfl
  simp only [Act.put, List.getElem_toArray, List.getElem_cons_succ, List.getElem_cons_zero, List.setIfInBounds_toArray, List.set_cons_zero, List.set_cons_succ]
  refine wpAnyT_held (i := 33) (v := ?_) rfl (by kernel_rfl) (by kernel_rfl) (by kernel_rfl) (fun _ _ _ h => h) (by kernel_rfl) hT (fun _ => hS) (by kernel_rfl) ?_ ?_
  rotate_left
  · intro wx hSw; go_split_ands; go_simp; try with_reducible rfl
  simp only [Act.put, List.getElem_toArray, List.getElem_cons_succ, List.getElem_cons_zero, List.setIfInBounds_toArray, List.set_cons_zero, List.set_cons_succ]
  refine wpAnyT_held (i := 34) (v := ?_) rfl (by kernel_rfl) (by kernel_rfl) (by kernel_rfl) (fun _ _ _ h => h) (by kernel_rfl) hT (fun _ => hS) (by kernel_rfl) ?_ ?_
  rotate_left
  · intro wx hSw; go_split_ands; go_simp; try with_reducible rfl
  simp only [Act.put, List.getElem_toArray, List.getElem_cons_succ, List.getElem_cons_zero, List.setIfInBounds_toArray, List.set_cons_zero, List.set_cons_succ]
  refine wpAnyT_held (i := 35) (v := ?_) rfl (by kernel_rfl) (by kernel_rfl) (by kernel_rfl) (fun _ _ _ h => h) (by kernel_rfl) hT (fun _ => hS) (by kernel_rfl) ?_ ?_
  rotate_left
  · intro wx hSw; go_split_ands; go_simp; try with_reducible rfl
  simp only [Act.put, List.getElem_toArray, List.getElem_cons_succ, List.getElem_cons_zero, List.setIfInBounds_toArray, List.set_cons_zero, List.set_cons_succ]
  refine wpAnyT_held (i := 36) (v := ?_) rfl (by kernel_rfl) (by kernel_rfl) (by kernel_rfl) (fun _ _ _ h => h) (by kernel_rfl) hT (fun _ => hS) (by kernel_rfl) ?_ ?_
  rotate_left
  · intro wx hSw; go_split_ands; go_simp; try with_reducible rfl
  simp only [Act.put, List.getElem_toArray, List.getElem_cons_succ, List.getElem_cons_zero, List.setIfInBounds_toArray, List.set_cons_zero, List.set_cons_succ]
  refine wpAnyT_held (i := 37) (v := ?_) rfl (by kernel_rfl) (by kernel_rfl) (by kernel_rfl) (fun _ _ _ h => h) (by kernel_rfl) hT (fun _ => hS) (by kernel_rfl) ?_ ?_
  rotate_left
  · intro wx hSw; go_split_ands; go_simp; try with_reducible rfl
  simp only [Act.put, List.getElem_toArray, List.getElem_cons_succ, List.getElem_cons_zero, List.setIfInBounds_toArray, List.set_cons_zero, List.set_cons_succ]
  refine wpAnyT_held (i := 38) (v := .bool true) rfl (by kernel_rfl) (by kernel_rfl) (by kernel_rfl) (fun _ _ _ h => h) (by kernel_rfl) hT (fun _ => hS) (by kernel_rfl) ?_ ?_
  · intro wx hSw; go_split_ands; go_simp
  simp only [Act.put, List.getElem_toArray, List.getElem_cons_succ, List.getElem_cons_zero, List.setIfInBounds_toArray, List.set_cons_zero, List.set_cons_succ]
  refine wpAnyT_held (i := 39) (v := ?_) rfl (by kernel_rfl) (by kernel_rfl) (by kernel_rfl) (fun _ _ _ h => h) (by kernel_rfl) hT (fun _ => hS) (by kernel_rfl) ?_ ?_
  rotate_left
  · intro wx hSw; go_split_ands; go_simp; try with_reducible rfl
  simp only [Act.put, List.getElem_toArray, List.getElem_cons_succ, List.getElem_cons_zero, List.setIfInBounds_toArray, List.set_cons_zero, List.set_cons_succ]
  refine wpAnyT_held (i := 40) (v := ?_) rfl (by kernel_rfl) (by kernel_rfl) (by kernel_rfl) (fun _ _ _ h => h) (by kernel_rfl) hT (fun _ => hS) (by kernel_rfl) ?_ ?_
  rotate_left
  · intro wx hSw; go_split_ands; go_simp; try with_reducible rfl
  simp only [Act.put, List.getElem_toArray, List.getElem_cons_succ, List.getElem_cons_zero, List.setIfInBounds_toArray, List.set_cons_zero, List.set_cons_succ]
  refine wpAnyT_held (i := 41) (v := ?_) rfl (by kernel_rfl) (by kernel_rfl) (by kernel_rfl) (fun _ _ _ h => h) (by kernel_rfl) hT (fun _ => hS) (by kernel_rfl) ?_ ?_
  rotate_left
  · intro wx hSw; go_split_ands; go_simp; try with_reducible rfl
  simp only [Act.put, List.getElem_toArray, List.getElem_cons_succ, List.getElem_cons_zero, List.setIfInBounds_toArray, List.set_cons_zero, List.set_cons_succ]
  refine wpAnyT_held (i := 42) (v := ?_) rfl (by kernel_rfl) (by kernel_rfl) (by kernel_rfl) (fun _ _ _ h => h) (by kernel_rfl) hT (fun _ => hS) (by kernel_rfl) ?_ ?_
  rotate_left
  · intro wx hSw; go_split_ands; go_simp; try with_reducible rfl
  simp only [Act.put, List.getElem_toArray, List.getElem_cons_succ, List.getElem_cons_zero, List.setIfInBounds_toArray, List.set_cons_zero, List.set_cons_succ]
  refine wpAnyT_held (i := 43) (v := ?_) rfl (by kernel_rfl) (by kernel_rfl) (by kernel_rfl) (fun _ _ _ h => h) (by kernel_rfl) hT (fun _ => hS) (by kernel_rfl) ?_ ?_
  rotate_left
  · intro wx hSw; go_split_ands; go_simp; try with_reducible rfl
  simp only [Act.put, List.getElem_toArray, List.getElem_cons_succ, List.getElem_cons_zero, List.setIfInBounds_toArray, List.set_cons_zero, List.set_cons_succ]
  refine wpAnyT_held (i := 44) (v := ?_) rfl (by kernel_rfl) (by kernel_rfl) (by kernel_rfl) (fun _ _ _ h => h) (by kernel_rfl) hT (fun _ => hS) (by kernel_rfl) ?_ ?_
  rotate_left
  · intro wx hSw; go_split_ands; go_simp; try with_reducible rfl
  simp only [Act.put, List.getElem_toArray, List.getElem_cons_succ, List.getElem_cons_zero, List.setIfInBounds_toArray, List.set_cons_zero, List.set_cons_succ]
  refine wpAnyT_held (i := 45) (v := ?_) rfl (by kernel_rfl) (by kernel_rfl) (by kernel_rfl) (fun _ _ _ h => h) (by kernel_rfl) hT (fun _ => hS) (by kernel_rfl) ?_ ?_
  rotate_left
  · intro wx hSw; go_split_ands; go_simp; try with_reducible rfl
  simp only [Act.put, List.getElem_toArray, List.getElem_cons_succ, List.getElem_cons_zero, List.setIfInBounds_toArray, List.set_cons_zero, List.set_cons_succ]
  refine wpAnyT_held (i := 46) (v := ?_) rfl (by kernel_rfl) (by kernel_rfl) (by kernel_rfl) (fun _ _ _ h => h) (by kernel_rfl) hT (fun _ => hS) (by kernel_rfl) ?_ ?_
  rotate_left
  · intro wx hSw; go_split_ands; go_simp; try with_reducible rfl
  simp only [Act.put, List.getElem_toArray, List.getElem_cons_succ, List.getElem_cons_zero, List.setIfInBounds_toArray, List.set_cons_zero, List.set_cons_succ]
  refine wpAnyT_held (i := 47) (v := ?_) rfl (by kernel_rfl) (by kernel_rfl) (by kernel_rfl) (fun _ _ _ h => h) (by kernel_rfl) hT (fun _ => hS) (by kernel_rfl) ?_ ?_
  rotate_left
  · intro wx hSw; go_split_ands; go_simp; try with_reducible rfl
  simp only [Act.put, List.getElem_toArray, List.getElem_cons_succ, List.getElem_cons_zero, List.setIfInBounds_toArray, List.set_cons_zero, List.set_cons_succ]
  refine wpAnyT_held (i := 48) (v := ?_) rfl (by kernel_rfl) (by kernel_rfl) (by kernel_rfl) (fun _ _ _ h => h) (by kernel_rfl) hT (fun _ => hS) (by kernel_rfl) ?_ ?_
  rotate_left
  · intro wx hSw; go_split_ands; go_simp; try with_reducible rfl
  simp only [Act.put, List.getElem_toArray, List.getElem_cons_succ, List.getElem_cons_zero, List.setIfInBounds_toArray, List.set_cons_zero, List.set_cons_succ]
  refine wpAnyT_held (i := 49) (v := ?_) rfl (by kernel_rfl) (by kernel_rfl) (by kernel_rfl) (fun _ _ _ h => h) (by kernel_rfl) hT (fun _ => hS) (by kernel_rfl) ?_ ?_
  rotate_left
  · intro wx hSw; go_split_ands; go_simp; try with_reducible rfl
  simp only [Act.put, List.getElem_toArray, List.getElem_cons_succ, List.getElem_cons_zero, List.setIfInBounds_toArray, List.set_cons_zero, List.set_cons_succ]
  refine wpAnyT_held (i := 50) (v := .bool true) rfl (by kernel_rfl) (by kernel_rfl) (by kernel_rfl) (fun _ _ _ h => h) (by kernel_rfl) hT (fun _ => hS) (by kernel_rfl) ?_ ?_
  · intro wx hSw; go_split_ands; go_simp
  simp only [Act.put, List.getElem_toArray, List.getElem_cons_succ, List.getElem_cons_zero, List.setIfInBounds_toArray, List.set_cons_zero, List.set_cons_succ]
  refine wpAnyT_held (i := 51) (v := ?_) rfl (by kernel_rfl) (by kernel_rfl) (by kernel_rfl) (fun _ _ _ h => h) (by kernel_rfl) hT (fun _ => hS) (by kernel_rfl) ?_ ?_
  rotate_left
  · intro wx hSw; go_split_ands; go_simp; try with_reducible rfl
  simp only [Act.put, List.getElem_toArray, List.getElem_cons_succ, List.getElem_cons_zero, List.setIfInBounds_toArray, List.set_cons_zero, List.set_cons_succ]
  refine wpAnyT_held (i := 52) (v := ?_) rfl (by kernel_rfl) (by kernel_rfl) (by kernel_rfl) (fun _ _ _ h => h) (by kernel_rfl) hT (fun _ => hS) (by kernel_rfl) ?_ ?_
  rotate_left
  · intro wx hSw; go_split_ands; go_simp; try with_reducible rfl
  simp only [Act.put, List.getElem_toArray, List.getElem_cons_succ, List.getElem_cons_zero, List.setIfInBounds_toArray, List.set_cons_zero, List.set_cons_succ]
  refine wpAnyT_done (by kernel_rfl) ?_ _
  have HQ := Veil.mk (H9.out.2.1.trans (hc3.mono H9.out.2.1.size))
  clear hT hS cut1 cut2 cut3 cut4 hsd hor hha hc1 hc2 hc3
  go_wp2
  go_ret
  exact ⟨rfl, HQ.out⟩
end Go.Proofs.Ytdkkenlehdblpaa

