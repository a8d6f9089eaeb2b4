/- FrameBackW -/
import Derived.Test.YtfainlfiphdaeaaGreatDoorR49
import Derived.Test.YtfainlfiphdaeaaGreatDoorR50
namespace Go.Proofs.YtfainlfiphdaeaaGreatDoor
open Go.RowKit
set_option maxRecDepth 20000
set_option linter.unusedSimpArgs false
set_option maxHeartbeats 16000000 in
theorem frameBack_walk (q0 : Aq) (xw : Option Addr) (lw0 cw : Nat) (ws0 : List Wp) (u : Nat) (hu : u ≤ 255) (w : World) (hq0 : AqIn w q0 xw lw0 cw ws0) (hKT : S.KTab w) (hBT : BTab w) :
    Calls Tryz.prog 5 #[.agg q0.cells.toArray, .int .u8 (u : Int)] w fun e w' => e = .returned (.bool true) ∧ Below w.heap.size w w' := by
  have hA := CellsAt.new w 35 q0.cells
  have hb0 : Below w.heap.size w (w.alloc (.cells q0.cells.toArray 35)) := (Below.refl _ _).alloc (Nat.le_refl _) _
  have HFW : Veil (∀ W, Below w.heap.size w W → Calls Tryz.prog 15 #[.agg q0.cells.toArray] W fun e w' => ∃ (q : Aq) (lw : Nat) (ws : List Wp), e = .returned (.agg q.cells.toArray) ∧ AqIn w q xw lw cw ws ∧ q.cells.length = 86 ∧ (∀ v ∈ q.cells, v.oneCell' = true) ∧ Below W.heap.size W w') := ⟨fun W hb => by
    refine (few7_any q0 xw lw0 cw ws0 W (hq0.below hb)).mono ?_
    rintro e w' ⟨q, lw, ws, he, hq, -, hb'⟩
    have hq := hq w hq0
    exact ⟨q, lw, ws, he, hq, (aq_parts q hq.seed hq.prev hq.E.plen).1, aq_one q hq.wraps, hb'⟩⟩
  have h86 := (aq_parts q0 hq0.seed hq0.prev hq0.E.plen).1
  have iA0 : (Tryz.prog.info? 35).map (·.size) = some q0.cells.length := by rw [h86]; exact sizeAq
  have HKT : Veil (∀ W, Below w.heap.size w W → S.KTab W ∧ BTab W) := ⟨fun W hb => ⟨hKT.below hb, hBT.below hb⟩⟩
  have HLV : Veil (∀ W, Below w.heap.size w W → Calls Tryz.prog 19 #[] W fun e w' => e = .returned (.bool true) ∧ Below W.heap.size W w') := ⟨fun W hb => flive_any W (hKT.below hb) (hBT.below hb)⟩
  have uA := Tryz.underlying35
  have uF := Tryz.underlying43
  have uE := Tryz.underlying33
  have uK := Tryz.underlying23
  have uD := Tryz.underlying26
  clear hq0 hKT hBT
  generalize q0.cells = QC at hA hb0 HFW h86 iA0 ⊢
  go_enter Tryz.func5, Tryz.ntmps5
  go_upto_region 1 with fail
  refine forget (p := fun y => Code.wp _ _ _ _ y) (fun W => Below w.heap.size w W ∧ CellsAt W w.heap.size 35 QC) ⟨hb0, hA⟩ ?_
  clear hb0 hA
  rintro W ⟨hb, hA⟩
  have rA := hA.wholeM
  have hfw := HFW.out W hb
  go_upto_region 2 with (first
    | (refine wpList_ldv rfl 35 _ rfl _ _ rfl QC rA uA rfl iA0 ?_)
    | (go_at_call 15; refine hfw.mono ?_; rintro e w1 ⟨q, lw, ws, rfl, hq, q86, q1, hb1⟩; have hA1 := hA.farM hb1; have iA : (Tryz.prog.info? 35).map (·.size) = some q.cells.length := (by rw [q86]; exact sizeAq); clear hfw)
    | (refine wpList_stv rfl 35 _ _ rfl _ rfl rfl hA1 iA (by rw [h86, q86]) q1 ?_))
  have hB1 := hb.trans (hb1.mono hb.size)
  refine forget (p := fun y => Code.wp _ _ _ _ y) (fun V => Below w.heap.size w V ∧ CellsAt V w.heap.size 35 q.cells) ⟨below_setRow hB1 (Nat.le_refl _) _, hA1.setRow _⟩ ?_
  clear hB1 hA1 hb1 iA q1 q86 rA hA hb iA0 h86 HFW
  clear w1 W
  -- what the asking says
  obtain ⟨-, q0', q1, q33, q34, q66, q68, q69⟩ := aq_parts q hq.seed hq.prev hq.E.plen
  rw [hq.wraps] at q68
  obtain ⟨m, hm, hm5⟩ : ∃ m : Nat, q.own = (m : Int) ∧ m ≤ 255 := ⟨q.own.toNat, by have := hq.own.1; omega, by have := hq.own.1; have := hq.own.2; omega⟩
  rw [hm] at q0'
  have HQ : Veil (∀ W, CellsAt W w.heap.size 35 q.cells → W.cell? ⟨w.heap.size, 0, none⟩ = some (.int .u8 (m : Int)) ∧ W.rangeAt w.heap.size 1 (q.seed.map (Value.int .u8)) ∧ W.cell? ⟨w.heap.size, 33, none⟩ = some (.int .u32 q.num) ∧ W.rangeAt w.heap.size 34 (q.prev.map (Value.int .u8)) ∧ W.rangeAt w.heap.size 66 (dotC q.ea q.es) ∧ W.cell? ⟨w.heap.size, 68, none⟩ = some (.slice xw lw cw) ∧ W.rangeAt w.heap.size 69 q.E.cells) := ⟨fun W h => by
    refine ⟨(h.cell 0).trans q0', ?_, (h.cell 33).trans q33, ?_, ?_, (h.cell 68).trans q68, ?_⟩
    · have := h.range 1 32; rw [q1] at this; exact this
    · have := h.range 34 32; rw [q34] at this; exact this
    · have := h.range 66 2; rw [q66] at this; exact this
    · have := h.range 69 17; rw [q69] at this; exact this⟩
  have HRG : Veil (∀ W, Below w.heap.size w W → Calls Tryz.prog 16 #[.int .u8 (m : Int), .agg (q.seed.map (Value.int .u8)).toArray, .agg (dotC q.ea q.es).toArray] W fun e w' => ∃ H O b v L vo, e = .returned (.tuple #[.pointer (some ⟨H, 0, none⟩), .pointer (some ⟨O, 0, none⟩)]) ∧ Rings W w' H O ((m % 8 : Nat) : Int) q.seed q.ea q.es b v L vo) := ⟨fun W hb => rings_any m hm5 q.seed hq.seed q.ea q.es ⟨hq.ea, hq.es⟩ W (HKT.out W hb).1⟩
  have HSL : Veil (∀ W base H b v L, Below w.heap.size w W → RingAt W base H ((m % 8 : Nat) : Int) q.seed b (ringM ((m % 8 : Nat) : Int) q.seed q.ea q.es) v L → Calls Tryz.prog 17 #[.pointer (some ⟨H, 0, none⟩), .int .u32 q.num, .agg (q.prev.map (Value.int .u8)).toArray, .agg (dotC q.ea q.es).toArray, .slice xw lw cw, .agg q.E.cells.toArray] W fun e w' => ∃ (F : Fr) (n : Int), e = .returned (.tuple #[.agg F.cells.toArray, .int .i64 n]) ∧ F.prev.length = 32 ∧ F.mac.length = 32 ∧ (∀ v ∈ F.cells, v.oneCell' = true) ∧ (n ≠ 0 → F = frZ1) ∧ (n = 0 → ∃ k, ringM ((m % 8 : Nat) : Int) q.seed q.ea q.es q.ea q.es = some k ∧ SealedF w' q.seed ((m % 8 : Nat) : Int) k q.num lw ws q.E q.ea q.es F) ∧ Below W.heap.size W w') := ⟨fun W base H b v L hb hR => sealS_any base H _ _ b _ v L W q xw lw cw ws (hq.below hb) hR (HKT.out W hb).1 (HKT.out W hb).2 (by omega)⟩
  have HOK : Veil (okD q.ea q.es ∧ q.seed.length = 32) := ⟨⟨hq.ea, hq.es⟩, hq.seed⟩
  have heqQ : ∀ wx, (binOp BinOp.eql 33 (.agg q.E.cells.toArray) (.agg q.E.cells.toArray)).run Tryz.prog wx = .ok (.bool true) wx := fun wx => event_same5 q.E hq.E.plen wx
  have HEQ := Veil.mk heqQ
  have h1Q := ev_one q.E
  have hEl := ev_len q.E hq.E.plen
  have iS : (Tryz.prog.info? 23).map (·.size) = some (q.seed.map (Value.int .u8)).length := by rw [List.length_map, hq.seed]; exact sizeKeyD
  have iP : (Tryz.prog.info? 23).map (·.size) = some (q.prev.map (Value.int .u8)).length := by rw [List.length_map, hq.prev]; exact sizeKeyD
  have iD : (Tryz.prog.info? 26).map (·.size) = some (dotC q.ea q.es).length := sizeDot
  have iE := sizeEvZ q.E hq.E.plen
  obtain ⟨M, hM⟩ : ∃ M, ringM ((m % 8 : Nat) : Int) q.seed q.ea q.es = M := ⟨_, rfl⟩
  have HRG2 : Veil (∀ W w' H O b v L vo, Rings W w' H O ((m % 8 : Nat) : Int) q.seed q.ea q.es b v L vo → RingAt w' W.heap.size H ((m % 8 : Nat) : Int) q.seed b M v L ∧ Below W.heap.size W w') := ⟨fun W w' H O b v L vo h => ⟨by rw [← hM]; exact h.ring, h.below⟩⟩
  rw [hM] at HSL
  have h1Z := ev_one evZ
  have iZ : (Tryz.prog.info? 33).map (·.size) = some evZ.cells.length := sizeEvZ evZ rfl
  have HBE := Veil.mk evZ_built7
  have HNE := Veil.mk event_neq5
  clear heqQ hM hq hm q0' q1 q33 q34 q66 q68 q69
  generalize hQN : q.num = QN at HQ HSL
  generalize q.prev.map (Value.int .u8) = PV at HQ HSL iP
  generalize hSD : q.seed = SD at HQ HSL HRG HRG2 iS HOK
  obtain ⟨SV, hSV⟩ : ∃ x, SD.map (Value.int .u8) = x := ⟨_, rfl⟩
  rw [hSV] at HQ HRG iS
  have HSV := Veil.mk hSV
  generalize hea : q.ea = EA at HQ HSL HRG HRG2 iD HOK
  generalize hes : q.es = ES at HQ HSL HRG HRG2 iD HOK
  generalize hQE : q.E = QE at HQ HSL iE HEQ h1Q hEl
  obtain ⟨EV, hEV⟩ : ∃ x, QE.cells = x := ⟨_, rfl⟩
  rw [hEV] at HQ HSL iE HEQ h1Q hEl
  have HEV := Veil.mk hEV
  generalize q.cells = QC2 at HQ ⊢
  clear hSD hea hes hQE hEV hSV hQN
  rintro W ⟨hb, hA⟩
  obtain ⟨c0, r1, -, -, r66, -, -⟩ := HQ.out W hA
  have hrg := HRG.out W hb
  go_upto_region 3 with (first
    | (refine wpList_ldv rfl 23 _ rfl _ _ rfl SV r1 uK rfl iS ?_)
    | (refine wpList_ldv rfl 26 _ rfl _ _ rfl (dotC EA ES) r66 uD rfl iD ?_)
    | (go_at_call 16; refine hrg.mono ?_; rintro e w1 ⟨H, O, b, v, L, vo, rfl, hR1⟩; clear hrg))
  obtain ⟨hRr, hb1⟩ := HRG2.out _ _ _ _ _ _ _ _ hR1
  refine forget (p := fun y => Code.wp _ _ _ _ y) (fun V => Below w.heap.size w V ∧ CellsAt V w.heap.size 35 QC2 ∧ RingAt V W.heap.size H ((m % 8 : Nat) : Int) SD b M v L) ⟨hb.trans (hb1.mono hb.size), hA.farM hb1, hRr⟩ ?_
  clear hRr hb1 hR1 HRG HRG2 c0 r1 r66 hA hb
  obtain ⟨BS, hBS⟩ : ∃ q, W.heap.size = q := ⟨_, rfl⟩
  rw [hBS]
  clear hBS
  clear w1 W
  rintro W ⟨hb, hA, hR⟩
  obtain ⟨-, -, c33, r34, r66, c68, r69⟩ := HQ.out W hA
  have hsl := HSL.out W BS H b v L hb hR
  obtain ⟨Z, hzv, hz1, hZ⟩ : ∃ Z : List Value, (∀ wx, (zeroValue 43).run Tryz.prog wx = .ok (.agg Z.toArray) wx) ∧ ¬ Z.toArray = #[] ∧ Z.length = 70 := ⟨frZ1.cells, fun wx => by kernel_rfl, by decide, rfl⟩
  have HR := Veil.mk hR
  clear hR HSL
  obtain ⟨DV, hDV⟩ : ∃ x, dotC EA ES = x := ⟨_, rfl⟩
  rw [hDV] at r66 hsl iD HQ
  have HDV := Veil.mk hDV
  clear hDV
  go_upto_region 4 with (first
    | (refine wpList_ldv rfl 23 _ rfl _ _ rfl PV r34 uK rfl iP ?_)
    | (refine wpList_ldv rfl 26 _ rfl _ _ rfl DV r66 uD rfl iD ?_)
    | (refine wpList_ldv rfl 33 _ rfl _ _ rfl EV r69 uE rfl iE ?_)
    | (go_at_call 17; refine hsl.mono ?_; rintro e w1 ⟨F, n, rfl, hFp, hFm, h1F, hnz, hop, hb1⟩; have HNZ := Veil.mk hnz; clear hnz; have hG1 := CellsAt.new w1 43 Z; have hF70 := (fr_parts F hFp hFm).1; have iF : (Tryz.prog.info? 43).map (·.size) = some F.cells.length := (by rw [hF70]; exact sizeFrame); have HOP := Veil.mk hop; clear hop hsl)
    | (refine wpList_stv rfl 43 _ _ rfl _ rfl rfl hG1 iF (by rw [hZ, hF70]) h1F ?_))
  have hb2 : Below w1.heap.size w1 ((w1.alloc (.cells Z.toArray 43)).setRow w1.heap.size F.cells.toArray) := below_setRow ((Below.refl _ _).alloc (Nat.le_refl _) _) (Nat.le_refl _) _
  have hb12 := hb1.trans (hb2.mono hb1.size)
  have hs1 := hb1.size
  have HRV : Veil (∀ V, Below W.heap.size W V → RingAt V BS H ((m % 8 : Nat) : Int) SD b M v L) := ⟨fun V h => HR.out.far h⟩
  refine forget (p := fun y => Code.wp _ _ _ _ y) (fun V => Below w1.heap.size w1 V ∧ Below w.heap.size w V ∧ CellsAt V w.heap.size 35 QC2 ∧ CellsAt V w1.heap.size 43 F.cells) ⟨hb2, hb.trans (hb12.mono hb.size), hA.farM hb12, hG1.setRow _⟩ ?_
  have HB1 := Veil.mk hb1
  clear hb12 hb2 hG1 hb hA c33 r34 r66 c68 r69 hzv hz1 HR hb1 hs1
  obtain ⟨G, hG⟩ : ∃ q, w1.heap.size = q := ⟨_, rfl⟩
  rw [hG]
  have HG := Veil.mk hG
  clear hG
  rintro V ⟨hbG, hb, hA, hG⟩
  by_cases hn : n = 0
  rotate_left
  · have hn0 : (n == 0) = false := by simpa using hn
    have hlv := HLV.out V hb
    have hFz := HNZ.out hn
    obtain ⟨FC, hFC⟩ : ∃ q, F.cells = q := ⟨_, rfl⟩
    rw [hFC] at hG iF
    have HSM : Veil (∀ V', Calls Tryz.prog 20 #[.agg FC.toArray, .agg FC.toArray] V' fun e w' => e = .returned (.bool true) ∧ Below V'.heap.size V' w') := ⟨fun V' => by
      rw [← hFC, hFz]
      have := refSame_any frZ1 none 0 0 [] none 0 0 [] frZ1 none 0 0 [] none 0 0 [] V' rfl rfl rfl (wraps_nilL V') rfl (bytes_nil V') rfl rfl rfl (wraps_nilL V') rfl (bytes_nil V')
      rw [sameB_refl frZ1 [] []] at this
      exact this⟩
    have HBF : Veil (∀ wx, (Instr.build 43 #[]).run Tryz.prog wx = .ok (.agg FC.toArray) wx) := ⟨fun wx => by rw [← hFC, hFz]; exact run_build wx _ _ _ (by kernel_rfl)⟩
    have HFAR : Veil (∀ V', Below V.heap.size V V' → Below w.heap.size w V' ∧ V'.rangeAt G 0 FC) := ⟨fun V' h => ⟨hb.trans (h.mono hb.size), (hG.farM h).wholeM⟩⟩
    clear hFz hFC hn
    go_wp2_with (first
      | (go_at_call 19; refine hlv.mono ?_; rintro e w2 ⟨rfl, hb3⟩; have rG2 := (HFAR.out w2 hb3).2; have hsm := HSM.out w2; clear hlv)
      | (refine wpList_ldgv (by kernel_rfl) 43 (.tmp 7) rfl G 0 rfl FC rG2 uF rfl iF ?_)
      | (refine wpList_bldgT (by kernel_rfl) 43 #[] rfl #[] (by first | rfl | kernel_rfl) _ (HBF.out _) ?_)
      | (go_at_call 20; refine hsm.mono ?_; rintro e w4 ⟨rfl, hb4⟩; have hb34 := hb3.trans (hb4.mono hb3.size); clear hsm))
    go_ret
    exact ⟨rfl, (HFAR.out _ hb34).1⟩
  subst hn
  obtain ⟨k, hMk, hSe⟩ := HOP.out rfl
  have hbV1 : Below w1.heap.size w1 V := by rw [HG.out]; exact hbG
  have hbWV : Below W.heap.size W V := HB1.out.trans (hbV1.mono HB1.out.size)
  obtain ⟨o, hoe⟩ : ∃ q : Nat, u % 8 = q := ⟨_, rfl⟩
  have ho8 : (o : Int) < 8 := by omega
  have hrem : (u : Int).tmod 8 = (o : Int) := by rw [Int.tmod_eq_emod_of_nonneg (by omega), ← hoe]; rfl
  have hu0 : (0 : Int) ≤ (u : Int) := by omega
  have hu5 : (u : Int) ≤ 255 := by omega
  obtain ⟨p, hp⟩ : ∃ p, newM (o : Int) SD EA ES = p := ⟨_, rfl⟩
  obtain ⟨KV, hKV⟩ : ∃ x, k.map (Value.int .u8) = x := ⟨_, rfl⟩
  have HKV := Veil.mk hKV
  have hk32 := hSe.k_
  have hKl : KV.length = 32 := by rw [← hKV, List.length_map, hk32]
  have iK : (Tryz.prog.info? 23).map (·.size) = some KV.length := by rw [hKl]; exact sizeKeyD
  have h1K : ∀ v ∈ KV, v.oneCell' = true := fun v hv => by rw [← hKV] at hv; obtain ⟨x, _, rfl⟩ := List.mem_map.1 hv; rfl
  obtain ⟨FC, hFC⟩ : ∃ q, F.cells = q := ⟨_, rfl⟩
  rw [hFC] at hG iF
  have HFAR : Veil (∀ V', Below V.heap.size V V' → Below w.heap.size w V' ∧ CellsAt V' w.heap.size 35 QC2 ∧ V'.rangeAt G 0 FC) := ⟨fun V' h => ⟨hb.trans (h.mono hb.size), hA.farM h, (hG.farM h).wholeM⟩⟩
  have HK1 : Veil (∀ V', Below V.heap.size V V' → Calls Tryz.prog 28 #[.pointer (some ⟨H, 0, none⟩), .agg DV.toArray] V' fun e w' => e = .returned (.tuple #[.agg KV.toArray, .bool true]) ∧ Below V'.heap.size V' w') := ⟨fun V' h => by
    have := sring_key (p := some k) (c := L.length) ⟨M, v, L, HRV.out V' (hbWV.trans (h.mono hbWV.size)), hMk, Nat.le_refl _⟩ HOK.out.1
    rw [HDV.out] at this
    simp only [Option.getD_some, Option.isSome_some] at this
    rw [hKV] at this
    exact this⟩
  have hnew : Calls Tryz.prog 27 #[.int .u8 (o : Int), .agg SV.toArray] V fun e w' => ∃ HS bS, e = .returned (.pointer (some ⟨HS, 0, none⟩)) ∧ SRing w' V.heap.size HS (o : Int) SD bS EA ES p 1 ∧ (∀ k2, p = some k2 → k2.length = 32) ∧ Below V.heap.size V w' := by
    have := new_any (o : Int) SD V ho8 HOK.out.2 (HKT.out V hb).1
    unfold row at this
    rw [HSV.out] at this
    refine this.mono ?_
    rintro e w' ⟨HS, bS, vS, he, hR, hb'⟩
    exact ⟨HS, bS, he, ⟨_, _, _, hR, hp, newD_len _⟩, fun k2 h => hR.is32 EA ES k2 (by rw [hp, h]), hb'⟩
  have HK2 : Veil (∀ V' HS bS c, SRing V' V.heap.size HS (o : Int) SD bS EA ES p c → Calls Tryz.prog 28 #[.pointer (some ⟨HS, 0, none⟩), .agg DV.toArray] V' fun e w' => e = .returned (.tuple #[.agg ((p.getD (List.replicate 32 0)).map (Value.int .u8)).toArray, .bool p.isSome]) ∧ Below V'.heap.size V' w') := ⟨fun V' HS bS c h => by
    have := sring_key h HOK.out.1
    rw [HDV.out] at this
    exact this⟩
  have HHS : Veil (∀ V' HS bS c, SRing V' V.heap.size HS (o : Int) SD bS EA ES p c → Calls Tryz.prog 29 #[.pointer (some ⟨HS, 0, none⟩), .agg DV.toArray] V' fun e w' => e = .returned (.bool p.isSome) ∧ Below V'.heap.size V' w') := ⟨fun V' HS bS c h => by
    have := sring_has h HOK.out.1
    rw [HDV.out] at this
    exact this⟩
  have HO1 : Veil (∀ V' HS bS c, Below V.heap.size V V' → SRing V' V.heap.size HS (o : Int) SD bS EA ES none c → Calls Tryz.prog 21 #[.pointer (some ⟨HS, 0, none⟩), .agg FC.toArray] V' fun e w' => e = .returned (.tuple #[.agg evZ.cells.toArray, .int .i64 9]) ∧ Below V'.heap.size V' w') := ⟨fun V' HS bS c h hs => by
    have hbw := (HFAR.out V' h).1
    have := sealed_open ((hSe.below hbV1).below h) hs (.inl rfl) (HKT.out V' hbw).1 (HKT.out V' hbw).2
    rw [if_pos rfl, if_pos rfl, hFC] at this
    exact this⟩
  have HO2 : Veil (∀ V' HS bS c, Below V.heap.size V V' → SRing V' V.heap.size HS (o : Int) SD bS EA ES (some k) c → (Calls Tryz.prog 21 #[.pointer (some ⟨HS, 0, none⟩), .agg FC.toArray] V' fun e w' => e = .returned (.tuple #[.agg EV.toArray, .int .i64 0]) ∧ Below V'.heap.size V' w') ∧ (Calls Tryz.prog 23 #[.pointer (some ⟨HS, 0, none⟩), .agg FC.toArray] V' fun e w' => e = .returned (.int .i64 0) ∧ Below V'.heap.size V' w')) := ⟨fun V' HS bS c h hs => by
    have hbw := (HFAR.out V' h).1
    have t1 := sealed_open ((hSe.below hbV1).below h) hs (.inr rfl) (HKT.out V' hbw).1 (HKT.out V' hbw).2
    have t2 := sealed_check ((hSe.below hbV1).below h) hs (HKT.out V' hbw).1
    rw [if_neg (by simp), if_neg (by simp), hFC, HEV.out] at t1
    rw [hFC] at t2
    exact ⟨t1, t2⟩⟩
  have HAD : Veil (∀ V' HS bS, Below V.heap.size V V' → SRing V' V.heap.size HS (o : Int) SD bS EA ES none 1 → Calls Tryz.prog 30 #[.pointer (some ⟨HS, 0, none⟩), .agg DV.toArray, .agg KV.toArray] V' fun e w' => e = .returned (.int .i64 0) ∧ SRing w' V.heap.size HS (o : Int) SD bS EA ES (some k) 2 ∧ Below V.heap.size V w') := ⟨fun V' HS bS h hs => by
    have := sring_add h hs (by omega) HOK.out.1 k hk32
    rw [HDV.out, hKV] at this
    exact this⟩
  have HNK : Veil (∀ k2 : List Int, k2.length = 32 → ∀ wx, (binOp BinOp.neq 23 (.agg (k2.map (Value.int .u8)).toArray) (.agg KV.toArray)).run Tryz.prog wx = .ok (.bool (!(k2 == k))) wx) := ⟨fun k2 h2 wx => by rw [← hKV]; exact key_neq k2 k h2 hk32 wx⟩
  obtain ⟨ZK, hzk, hzk1, hZKl⟩ : ∃ Z : List Value, (∀ wx, (zeroValue 23).run Tryz.prog wx = .ok (.agg Z.toArray) wx) ∧ ¬ Z.toArray = #[] ∧ Z.length = 32 := ⟨(List.replicate 32 (0 : Int)).map (Value.int .u8), fun wx => by kernel_rfl, by decide, rfl⟩
  obtain ⟨-, r1, -, -, -, -, -⟩ := HQ.out V hA
  clear hSe hMk hoe hp hFC hKV HOP HRV HB1 HNZ hbWV hbV1 hbG hA hG hb HOK hk32
  go_upto_region 7 with (first
    | (refine wpList_ldv rfl 23 _ rfl _ _ rfl SV r1 uK rfl iS ?_)
    | (go_at_call 27; refine hnew.mono ?_; rintro e w2 ⟨HS, bS, rfl, hS2, hp32, hb2⟩; clear hnew))
  have HP32 := Veil.mk hp32
  clear hp32
  have hk1 := HK1.out w2 hb2
  obtain ⟨-, -, -, -, r66, -, -⟩ := HQ.out w2 (HFAR.out w2 hb2).2.1
  go_upto_region 8 with (first
    | (refine wpList_ldv rfl 26 _ rfl _ _ rfl DV r66 uD rfl iD ?_)
    | (go_at_call 28; refine hk1.mono ?_; rintro e w3 ⟨rfl, hb3⟩; have hX3 := CellsAt.new w3 23 ZK; clear hk1)
    | (refine wpList_stv rfl 23 _ _ rfl _ rfl rfl hX3 iK (by rw [hZKl, hKl]) h1K ?_))
  have hb4 : Below w3.heap.size w3 ((w3.alloc (.cells ZK.toArray 23)).setRow w3.heap.size KV.toArray) := below_setRow ((Below.refl _ _).alloc (Nat.le_refl _) _) (Nat.le_refl _) _
  have hb34 := hb3.trans (hb4.mono hb3.size)
  refine forget (p := fun y => Code.wp _ _ _ _ y) (fun V' => Below V.heap.size V V' ∧ SRing V' V.heap.size HS (o : Int) SD bS EA ES p 1 ∧ CellsAt V' w3.heap.size 23 KV) ⟨hb2.trans (hb34.mono hb2.size), hS2.far hb34, hX3.setRow _⟩ ?_
  clear hb34 hb4 hX3 hb3 hb2 hS2 r66 r1 HK1
  obtain ⟨X1, hX1⟩ : ∃ q, w3.heap.size = q := ⟨_, rfl⟩
  rw [hX1]
  clear hX1
  clear w3 w2
  rintro V2 ⟨hb2, hS2, hX1⟩
  have hk2 := HK2.out V2 HS bS 1 hS2
  obtain ⟨PK, hPK⟩ : ∃ x, (p.getD (List.replicate 32 0)).map (Value.int .u8) = x := ⟨_, rfl⟩
  obtain ⟨OKB, hOKB⟩ : ∃ x, p.isSome = x := ⟨_, rfl⟩
  rw [hPK, hOKB] at hk2
  have hPl : PK.length = 32 := by
    rw [← hPK, List.length_map]
    cases hq : p with
    | none => rfl
    | some k2 => exact HP32.out k2 hq
  have iPK : (Tryz.prog.info? 23).map (·.size) = some PK.length := by rw [hPl]; exact sizeKeyD
  have h1P : ∀ v ∈ PK, v.oneCell' = true := fun v hv => by rw [← hPK] at hv; obtain ⟨x, _, rfl⟩ := List.mem_map.1 hv; rfl
  have HPK := Veil.mk hPK
  have HOB := Veil.mk hOKB
  obtain ⟨-, -, -, -, r66, -, -⟩ := HQ.out V2 (HFAR.out V2 hb2).2.1
  clear hPK hOKB HK2
  go_upto_region 9 with (first
    | (refine wpList_ldv rfl 26 _ rfl _ _ rfl DV r66 uD rfl iD ?_)
    | (go_at_call 28; refine hk2.mono ?_; rintro e w3 ⟨rfl, hb3⟩; have hX3 := CellsAt.new w3 23 ZK; clear hk2)
    | (refine wpList_stv rfl 23 _ _ rfl _ rfl rfl hX3 iPK (by rw [hZKl, hPl]) h1P ?_))
  have hb4 : Below w3.heap.size w3 ((w3.alloc (.cells ZK.toArray 23)).setRow w3.heap.size PK.toArray) := below_setRow ((Below.refl _ _).alloc (Nat.le_refl _) _) (Nat.le_refl _) _
  have hb34 := hb3.trans (hb4.mono hb3.size)
  refine forget (p := fun y => Code.wp _ _ _ _ y) (fun V' => Below V.heap.size V V' ∧ SRing V' V.heap.size HS (o : Int) SD bS EA ES p 1 ∧ CellsAt V' X1 23 KV ∧ CellsAt V' w3.heap.size 23 PK) ⟨hb2.trans (hb34.mono hb2.size), hS2.far hb34, hX1.farM hb34, hX3.setRow _⟩ ?_
  clear hb34 hb4 hX3 hb3 hb2 hS2 r66 hX1 hzk hzk1
  obtain ⟨X2, hX2⟩ : ∃ q, w3.heap.size = q := ⟨_, rfl⟩
  rw [hX2]
  clear hX2
  clear w3 V2
  rintro V2 ⟨hb2, hS2, hX1, hX2⟩
  have rX1 := hX1.wholeM
  have rX2 := hX2.wholeM
  have hhs := HHS.out V2 HS bS 1 hS2
  rw [HOB.out] at hhs
  obtain ⟨hbw2, hA2, -⟩ := HFAR.out V2 hb2
  obtain ⟨-, -, -, -, r66, -, -⟩ := HQ.out V2 hA2
  clear hA2
  cases OKB
  focus
    have hpn : p = none := by have := HOB.out; cases p <;> simp_all
    rw [hpn] at hS2
    clear hpn hPl iPK h1P rX2 hX2 rX1
    go_upto_region 12 with (first
      | (refine wpList_ldv rfl 26 _ rfl _ _ rfl DV r66 uD rfl iD ?_)
      | (go_at_call 29; refine hhs.mono ?_; rintro e w3 ⟨rfl, hb3⟩; clear hhs))
    refine forget (p := fun y => Code.wp _ _ _ _ y) (fun V' => Below V.heap.size V V' ∧ SRing V' V.heap.size HS (o : Int) SD bS EA ES none 1 ∧ CellsAt V' X1 23 KV) ⟨hb2.trans (hb3.mono hb2.size), hS2.far hb3, hX1.farM hb3⟩ ?_
    clear hb3 hb2 hS2 hX1 hbw2 r66
    clear w3 V2
    rintro V2 ⟨hb2, hS2, hX1⟩
    have hop := HO1.out V2 HS bS 1 hb2 hS2
    have rG := (HFAR.out V2 hb2).2.2
    go_upto_region 13 with (first
      | (refine wpList_ldv rfl 43 _ rfl _ _ rfl FC rG uF rfl iF ?_)
      | (go_at_call 21; refine hop.mono ?_; rintro e w4 ⟨rfl, hb4⟩; have hE1 := CellsAt.new w4 33 evZ.cells; clear hop)
      | (refine wpList_stv rfl 33 _ _ rfl _ rfl rfl hE1 iZ rfl h1Z ?_))
    have hb5 : Below w4.heap.size w4 ((w4.alloc (.cells evZ.cells.toArray 33)).setRow w4.heap.size evZ.cells.toArray) := below_setRow ((Below.refl _ _).alloc (Nat.le_refl _) _) (Nat.le_refl _) _
    have hb45 := hb4.trans (hb5.mono hb4.size)
    refine forget (p := fun y => Code.wp _ _ _ _ y) (fun V' => Below V.heap.size V V' ∧ SRing V' V.heap.size HS (o : Int) SD bS EA ES none 1 ∧ CellsAt V' X1 23 KV ∧ CellsAt V' w4.heap.size 33 evZ.cells) ⟨hb2.trans (hb45.mono hb2.size), hS2.far hb45, hX1.farM hb45, hE1.setRow _⟩ ?_
    clear hb45 hb5 hb4 hE1 hb2 hS2 hX1 rG
    obtain ⟨X3, hX3⟩ : ∃ q, w4.heap.size = q := ⟨_, rfl⟩
    rw [hX3]
    clear hX3
    clear w4 V2
    rintro V2 ⟨hb2, hS2, hX1, hX3⟩
    have rX1 := hX1.wholeM
    have rX3 := hX3.wholeM
    obtain ⟨-, -, -, -, r66, -, -⟩ := HQ.out V2 (HFAR.out V2 hb2).2.1
    have had := HAD.out V2 HS bS hb2 hS2
    have hne := HNE.out
    obtain ⟨EZ, hEZ⟩ : ∃ q, evZ.cells = q := ⟨_, rfl⟩
    rw [hEZ] at rX3 hne iZ HBE
    clear hX3 hX1 hS2 hb2
    go_upto_region 16 with (first
      | (refine wpList_ldgv (by kernel_rfl) 33 (.tmp 14) rfl X3 0 rfl EZ rX3 uE rfl iZ ?_; clear rX3)
      | (refine wpList_bldgT (by kernel_rfl) 33 #[] rfl #[] (by first | rfl | kernel_rfl) _ (HBE.out _) ?_)
      | (refine wpList_ldv rfl 26 _ rfl _ _ rfl DV r66 uD rfl iD ?_; clear r66)
      | (refine wpList_ldv rfl 23 _ rfl _ _ rfl KV rX1 uK rfl iK ?_; clear rX1)
      | (go_at_call 30; refine had.mono ?_; rintro e w5 ⟨rfl, hS5, hb5⟩; clear had))
    rw [← hEZ] at iZ HBE
    refine forget (p := fun y => Code.wp _ _ _ _ y) (fun V' => Below V.heap.size V V' ∧ ∃ c, SRing V' V.heap.size HS (o : Int) SD bS EA ES (some k) c) ⟨hb5, _, hS5⟩ ?_
    clear hne hEZ hS5 hb5
    clear w5 V2
  rotate_left
  focus
    obtain ⟨k2, hk2⟩ : ∃ k2, p = some k2 := Option.isSome_iff_exists.1 HOB.out
    have hPKk : PK = k2.map (Value.int .u8) := by rw [← HPK.out, hk2]; rfl
    have hnk := HNK.out k2 (HP32.out k2 hk2)
    rw [← hPKk] at hnk
    have hlv := HLV.out V2 hbw2
    by_cases hkk : k2 = k
    rotate_left
    · have hnk' : ∀ wx, (binOp BinOp.neq 23 (.agg PK.toArray) (.agg KV.toArray)).run Tryz.prog wx = .ok (.bool true) wx := fun wx => by rw [hnk wx]; simp [hkk]
      clear hnk hPKk hk2 hkk hhs hX1 hX2 r66
      go_wp2_with (first
        | (refine wpList_ldgv (by kernel_rfl) 23 (.tmp 12) rfl X2 0 rfl PK rX2 uK rfl iPK ?_; clear rX2)
        | (refine wpList_ldgv (by kernel_rfl) 23 (.tmp 10) rfl X1 0 rfl KV rX1 uK rfl iK ?_; clear rX1)
        | (go_at_call 19; refine hlv.mono ?_; rintro e w3 ⟨rfl, hb3⟩; clear hlv))
      go_ret
      exact ⟨rfl, hbw2.trans (hb3.mono hbw2.size)⟩
    have hnk' : ∀ wx, (binOp BinOp.neq 23 (.agg PK.toArray) (.agg KV.toArray)).run Tryz.prog wx = .ok (.bool false) wx := fun wx => by rw [hnk wx]; simp [hkk]
    rw [hk2, hkk] at hS2
    clear hnk hPKk hk2 hkk hX1 hX2 hlv
    go_upto_region 16 with (first
      | (refine wpList_ldgv (by kernel_rfl) 23 (.tmp 12) rfl X2 0 rfl PK rX2 uK rfl iPK ?_; clear rX2)
      | (refine wpList_ldgv (by kernel_rfl) 23 (.tmp 10) rfl X1 0 rfl KV rX1 uK rfl iK ?_; clear rX1)
      | (refine wpList_ldv rfl 26 _ rfl _ _ rfl DV r66 uD rfl iD ?_; clear r66)
      | (go_at_call 29; refine hhs.mono ?_; rintro e w3 ⟨rfl, hb3⟩; clear hhs))
    refine forget (p := fun y => Code.wp _ _ _ _ y) (fun V' => Below V.heap.size V V' ∧ ∃ c, SRing V' V.heap.size HS (o : Int) SD bS EA ES (some k) c) ⟨hb2.trans (hb3.mono hb2.size), _, hS2.far hb3⟩ ?_
    clear hnk' hb3 hS2 hb2 hbw2 hPl iPK h1P
    clear w3 V2
  all_goals (
    rintro V2 ⟨hb2, c, hS2⟩
    have hop := (HO2.out V2 HS bS c hb2 hS2).1
    have rG := (HFAR.out V2 hb2).2.2
    go_upto_region 17 with (first
      | (refine wpList_ldv rfl 43 _ rfl _ _ rfl FC rG uF rfl iF ?_)
      | (go_at_call 21; refine hop.mono ?_; rintro e w4 ⟨rfl, hb4⟩; have hE1 := CellsAt.new w4 33 evZ.cells; clear hop)
      | (refine wpList_stv rfl 33 _ _ rfl _ rfl rfl hE1 iE (by rw [hEl]; rfl) h1Q ?_))
    have hb5 : Below w4.heap.size w4 ((w4.alloc (.cells evZ.cells.toArray 33)).setRow w4.heap.size EV.toArray) := below_setRow ((Below.refl _ _).alloc (Nat.le_refl _) _) (Nat.le_refl _) _
    have hb45 := hb4.trans (hb5.mono hb4.size)
    refine forget (p := fun y => Code.wp _ _ _ _ y) (fun V' => Below V.heap.size V V' ∧ SRing V' V.heap.size HS (o : Int) SD bS EA ES (some k) c ∧ CellsAt V' w4.heap.size 33 EV) ⟨hb2.trans (hb45.mono hb2.size), hS2.far hb45, hE1.setRow _⟩ ?_
    clear hb45 hb5 hb4 hE1 hb2 hS2 rG
    obtain ⟨X3, hX3⟩ : ∃ q, w4.heap.size = q := ⟨_, rfl⟩
    rw [hX3]
    clear hX3
    clear w4 V2
    rintro V2 ⟨hb2, hS2, hX3⟩
    have hlv := HLV.out V2 (HFAR.out V2 hb2).1
    have HFR : Veil (∀ V', Below V2.heap.size V2 V' → Below w.heap.size w V' ∧ V'.rangeAt G 0 FC ∧ V'.rangeAt X3 0 EV ∧ V'.rangeAt w.heap.size 69 EV ∧ (Calls Tryz.prog 23 #[.pointer (some ⟨HS, 0, none⟩), .agg FC.toArray] V' fun e w' => e = .returned (.int .i64 0) ∧ Below V'.heap.size V' w')) := ⟨fun V' h => by
      have h2 := hb2.trans (h.mono hb2.size)
      obtain ⟨q1, q2, q3⟩ := HFAR.out V' h2
      exact ⟨q1, q3, (hX3.farM h).wholeM, (HQ.out V' q2).2.2.2.2.2.2, (HO2.out V' HS bS c h2 (hS2.far h)).2⟩⟩
    have heqE := HEQ.out
    clear hb2 hS2 hX3
    go_wp2_with (first
      | (go_at_call 19; refine hlv.mono ?_; rintro e w5 ⟨rfl, hb5⟩; obtain ⟨-, rG5, -, -, hck⟩ := HFR.out w5 hb5; clear hlv)
      | (refine wpList_ldgv (by kernel_rfl) 43 (.tmp 7) rfl G 0 rfl FC rG5 uF rfl iF ?_)
      | (go_at_call 23; refine hck.mono ?_; rintro e w6 ⟨rfl, hb6⟩; obtain ⟨hB6, -, rX6, rE6, -⟩ := HFR.out w6 (hb5.trans (hb6.mono hb5.size)); clear hck)
      | (refine wpList_ldgv (by kernel_rfl) 33 (.tmp 16) rfl X3 0 rfl EV rX6 uE rfl iE ?_; clear rX6)
      | (refine wpList_ldgv (by kernel_rfl) 33 (.tmp 121) rfl w.heap.size 69 rfl EV rE6 uE rfl iE ?_; clear rE6))
    go_ret
    exact ⟨rfl, hB6⟩)
theorem frameBack_walkI (q0 : Aq) (xw : Option Addr) (lw0 cw : Nat) (ws0 : List Wp) (u : Int) (hu : 0 ≤ u ∧ u ≤ 255) (w : World) (hq0 : AqIn w q0 xw lw0 cw ws0) (hKT : S.KTab w) (hBT : BTab w) :
    Calls Tryz.prog 5 #[.agg q0.cells.toArray, .int .u8 u] w fun e w' => e = .returned (.bool true) ∧ Below w.heap.size w w' := by
  obtain ⟨n, rfl⟩ := Int.eq_ofNat_of_zero_le hu.1
  exact frameBack_walk q0 xw lw0 cw ws0 n (by omega) w hq0 hKT hBT
end Go.Proofs.YtfainlfiphdaeaaGreatDoor
