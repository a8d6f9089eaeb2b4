/- TopTalesW -/
import Derived.Test.YtlhajphjppjlgaaGreatDoorT49
namespace Go.Proofs.YtlhajphjppjlgaaGreatDoor
open Go.RowKit
set_option maxRecDepth 20000
set_option linter.unusedSimpArgs false
set_option maxHeartbeats 32000000 in
theorem topTales_walk (seed : List Int) (hs : seed.length = 32) (a b : Nat) (ha : a ≤ 255) (hb255 : b ≤ 255) (w : World) (hKT : S.KTab w) (hBT : BTab w) :
    Calls Tryz.prog 3 #[.agg (row .u8 seed), .int .u8 (a : Int), .int .u8 (b : Int)] w fun e w' => e = .returned (.bool true) ∧ Below w.heap.size w w' := by
  have hA := CellsAt.new w 23 (seed.map (Value.int .u8))
  have hb0 : Below w.heap.size w (w.alloc (.cells (seed.map (Value.int .u8)).toArray 23)) := (Below.refl _ _).alloc (Nat.le_refl _) _
  obtain ⟨k, hk⟩ : ∃ k, newM 0 seed 0 0 = some k := ⟨epochL seed, by unfold newM; rw [if_pos rfl]; unfold putK; simp⟩
  have HNW : Veil (∀ W, Below w.heap.size w W → Calls Tryz.prog 5 #[.int .u8 0, .agg (seed.map (Value.int .u8)).toArray] W fun e w' => ∃ H b v, e = .returned (.pointer (some ⟨H, 0, none⟩)) ∧ RingAt w' W.heap.size H 0 seed b (newM 0 seed) v (newD 0) ∧ Below W.heap.size W w') := ⟨fun W hb => new_any 0 seed W (by decide) hs (hKT.below hb)⟩
  have HTL : Veil (∀ (m : Nat) W base H b v, m ≤ 255 → Below w.heap.size w W → RingAt W base H 0 seed b (newM 0 seed) v (newD 0) → Calls Tryz.prog 6 #[.pointer (some ⟨H, 0, none⟩), .int .u32 1, .agg (row .u8 zk), .int .u8 (m : Int)] W fun e w' => ∃ F : Fr, e = .returned (.tuple #[.agg F.cells.toArray, .bool true]) ∧ TFr w' seed k 0 1 zk (evT 1 (m % 8)) F ∧ F.cells.length = 70 ∧ (∀ v ∈ F.cells, v.oneCell' = true) ∧ Below W.heap.size W w') := ⟨fun m W base H b v hm hb hR => (told_any base H b v seed k hk 1 (by omega) (by omega) zk rfl (fun x hx => by rw [(List.mem_replicate.1 hx).2]; exact ⟨by decide, by decide⟩) m hm W hR (hKT.below hb) (hBT.below hb)).mono fun e w' ⟨F, he, hT, hb'⟩ => ⟨F, he, hT.toT, hT.toT.cells.1, hT.toT.cells.2.1, hb'⟩⟩
  have HKT : Veil (∀ W, Below w.heap.size w W → S.KTab W) := ⟨fun W hb => hKT.below hb⟩
  obtain ⟨E1, hE1⟩ : ∃ E, evT 1 (a % 8) = E := ⟨_, rfl⟩
  obtain ⟨E2, hE2⟩ : ∃ E, evT 1 (b % 8) = E := ⟨_, rfl⟩
  have HT1 := HTL.out a
  have HT2 := HTL.out b
  rw [hE1] at HT1
  rw [hE2] at HT2
  have HTA := Veil.mk HT1
  have HTB := Veil.mk HT2
  clear HT1 HT2 HTL hE1 hE2
  have HB3 : Veil (∀ wx, (Instr.build 23 #[]).run Tryz.prog wx = .ok (.agg (row .u8 zk)) wx) := ⟨fun wx => run_build wx _ _ _ (by kernel_rfl)⟩
  have iS : (Tryz.prog.info? 23).map (·.size) = some (seed.map (Value.int .u8)).length := by rw [List.length_map, hs]; exact sizeKeyH
  have uK := Tryz.underlying23
  have uF := Tryz.underlying32
  have hr1 : (row .u8 seed) = (seed.map (Value.int .u8)).toArray := rfl
  rw [hr1]
  clear hr1 hKT hBT hs hk
  generalize hPZ : row .u8 zk = PZ at HB3 HTA HTB
  clear hPZ
  generalize hSV : seed.map (Value.int .u8) = SD at hA hb0 HNW iS ⊢
  clear hSV
  obtain ⟨Z, hzv, hzv1, hZ⟩ : ∃ Z : List Value, (∀ wx, (zeroValue 32).run Tryz.prog wx = .ok (.agg Z.toArray) wx) ∧ ¬ Z.toArray = #[] ∧ Z.length = 70 := ⟨frZ1.cells, fun wx => by kernel_rfl, by decide, rfl⟩
  go_enter Tryz.func3, Tryz.ntmps3
  go_upto_region 1 with fail
  refine forget (p := fun y => Code.wp _ _ _ _ y) (fun W => Below w.heap.size w W ∧ CellsAt W w.heap.size 23 SD) ⟨hb0, hA⟩ ?_
  clear hb0 hA
  rintro W ⟨hb, hA⟩
  have rA := hA.wholeM
  have hnw := HNW.out W hb
  go_upto_region 2 with (first
    | (refine wpList_ldv rfl 23 _ rfl _ _ rfl SD rA uK rfl iS ?_)
    | (go_at_call 5; refine hnw.mono ?_; rintro e w1 ⟨H, bR, v, rfl, hR1, hb1⟩; clear hnw))
  refine forget (p := fun y => Code.wp _ _ _ _ y) (fun V => Below w.heap.size w V ∧ RingAt V W.heap.size H 0 seed bR (newM 0 seed) v (newD 0)) ⟨hb.trans (hb1.mono hb.size), hR1⟩ ?_
  clear hb1 hR1 HNW hA hb rA
  obtain ⟨BS, hBS⟩ : ∃ q, W.heap.size = q := ⟨_, rfl⟩
  rw [hBS]
  clear hBS
  clear w1 W
  rintro W ⟨hb, hR⟩
  -- the one tale
  have htl := HTA.out W BS H bR v ha hb hR
  have HR := Veil.mk hR
  clear hR
  go_upto_region 3 with (first
    | (refine wpList_bldx rfl 23 #[] rfl #[] (by first | rfl | kernel_rfl) _ (HB3.out _) ?_)
    | (go_at_call 6; refine htl.mono ?_; rintro e w2 ⟨F, rfl, hT, hFl, h1F, hb2⟩; have hG2 := CellsAt.new w2 32 Z; have iF : (Tryz.prog.info? 32).map (·.size) = some F.cells.length := (by rw [hFl]; exact sizeFrame); have HT := Veil.mk hT; clear htl hT)
    | (refine wpList_stv rfl 32 _ _ rfl _ rfl rfl hG2 iF (by rw [hZ, hFl]) h1F ?_))
  have hb3 : Below w2.heap.size w2 ((w2.alloc (.cells Z.toArray 32)).setRow w2.heap.size F.cells.toArray) := below_setRow ((Below.refl _ _).alloc (Nat.le_refl _) _) (Nat.le_refl _) _
  have hb23 := hb2.trans (hb3.mono hb2.size)
  refine forget (p := fun y => Code.wp _ _ _ _ y) (fun U => Below w.heap.size w U ∧ RingAt U BS H 0 seed bR (newM 0 seed) v (newD 0) ∧ CellsAt U w2.heap.size 32 F.cells ∧ TFr U seed k 0 1 zk E1 F) ⟨hb.trans (hb23.mono hb.size), HR.out.far hb23, hG2.setRow _, HT.out.below hb3⟩ ?_
  obtain ⟨G1, hG1⟩ : ∃ q, w2.heap.size = q := ⟨_, rfl⟩
  rw [hG1]
  clear hG1 hb3 hb23 hG2 hb2 hb HT h1F hFl HR
  clear w2 W
  rintro W ⟨hb, hR, hG1, hTF⟩
  -- the other one
  have htl := HTB.out W BS H bR v hb255 hb hR
  have HTF := Veil.mk hTF
  clear hR hTF
  go_upto_region 4 with (first
    | (refine wpList_bldx rfl 23 #[] rfl #[] (by first | rfl | kernel_rfl) _ (HB3.out _) ?_)
    | (go_at_call 6; refine htl.mono ?_; rintro e w2 ⟨G, rfl, hT, hGl, h1G, hb2⟩; have hG2 := CellsAt.new w2 32 Z; have iG : (Tryz.prog.info? 32).map (·.size) = some G.cells.length := (by rw [hGl]; exact sizeFrame); have HT := Veil.mk hT; clear htl hT)
    | (refine wpList_stv rfl 32 _ _ rfl _ rfl rfl hG2 iG (by rw [hZ, hGl]) h1G ?_))
  have hb3 : Below w2.heap.size w2 ((w2.alloc (.cells Z.toArray 32)).setRow w2.heap.size G.cells.toArray) := below_setRow ((Below.refl _ _).alloc (Nat.le_refl _) _) (Nat.le_refl _) _
  have hb23 := hb2.trans (hb3.mono hb2.size)
  refine forget (p := fun y => Code.wp _ _ _ _ y) (fun U => Below w.heap.size w U ∧ CellsAt U G1 32 F.cells ∧ CellsAt U w2.heap.size 32 G.cells ∧ TFr U seed k 0 1 zk E1 F ∧ TFr U seed k 0 1 zk E2 G) ⟨hb.trans (hb23.mono hb.size), hG1.farM hb23, hG2.setRow _, HTF.out.below hb23, HT.out.below hb3⟩ ?_
  obtain ⟨G2, hG2e⟩ : ∃ q, w2.heap.size = q := ⟨_, rfl⟩
  rw [hG2e]
  clear hG2e hb3 hb23 hG2 hb2 hb HT h1G hGl HTF hG1 HTA HTB HB3 hzv hzv1
  clear w2 W
  rintro W ⟨hb, hG1, hG2, hTF, hTG⟩
  have HFR : Veil (∀ V, Below W.heap.size W V → Below w.heap.size w V ∧ V.rangeAt G1 0 F.cells ∧ V.rangeAt G2 0 G.cells ∧ TFr V seed k 0 1 zk E1 F ∧ TFr V seed k 0 1 zk E2 G) := ⟨fun V h => ⟨hb.trans (h.mono hb.size), (hG1.farM h).wholeM, (hG2.farM h).wholeM, hTF.below h, hTG.below h⟩⟩
  clear hb hG1 hG2 hTF hTG
  obtain ⟨SS, hSS⟩ : ∃ q, tSum seed k 0 1 zk E1 = q := ⟨_, rfl⟩
  obtain ⟨TT, hTT⟩ : ∃ q, tSum seed k 0 1 zk E2 = q := ⟨_, rfl⟩
  have hSok : okK SS := by rw [← hSS]; exact tSum_ok seed k 0 1 zk E1
  have hTok : okK TT := by rw [← hTT]; exact tSum_ok seed k 0 1 zk E2
  have HOK := Veil.mk (And.intro hSok hTok)
  have HAC : Veil (∀ V B H1 b1 H2 b2 v1 v2 T2 P2, Below W.heap.size W V → B ≤ V.heap.size → TwoC V B H1 b1 H2 b2 v1 v2 noS T2 [] P2 → Calls Tryz.prog 8 #[.pointer (some ⟨H1, 0, none⟩), .agg F.cells.toArray] V fun e w' => e = .returned (.int .i64 0) ∧ (∃ v1', TwoC w' B H1 b1 H2 b2 v1' v2 (addS noS 0 SS) T2 [] P2) ∧ Below B V w') := ⟨fun V B H1 b1 H2 b2 v1 v2 T2 P2 hV hB h => by
    obtain ⟨hbw, _, _, hTF, _⟩ := HFR.out V hV
    have := addT_any h hTF (HKT.out V hbw) hB
    rw [hSS] at this
    exact this⟩
  have HAD : Veil (∀ V B H1 b1 H2 b2 v1 v2 T2 P2, Below W.heap.size W V → B ≤ V.heap.size → TwoC V B H1 b1 H2 b2 v1 v2 noS T2 [] P2 → Calls Tryz.prog 8 #[.pointer (some ⟨H1, 0, none⟩), .agg G.cells.toArray] V fun e w' => e = .returned (.int .i64 0) ∧ (∃ v1', TwoC w' B H1 b1 H2 b2 v1' v2 (addS noS 0 TT) T2 [] P2) ∧ Below B V w') := ⟨fun V B H1 b1 H2 b2 v1 v2 T2 P2 hV hB h => by
    obtain ⟨hbw, _, _, _, hTG⟩ := HFR.out V hV
    have := addT_any h hTG (HKT.out V hbw) hB
    rw [hTT] at this
    exact this⟩
  have HSM : Veil (∀ V, Below W.heap.size W V → (Calls Tryz.prog 11 #[.agg F.cells.toArray] V fun e w'' => e = .returned (.agg (SS.map (Value.int .u8)).toArray) ∧ Below V.heap.size V w'') ∧ (Calls Tryz.prog 11 #[.agg G.cells.toArray] V fun e w'' => e = .returned (.agg (TT.map (Value.int .u8)).toArray) ∧ Below V.heap.size V w'')) := ⟨fun V hV => by
    obtain ⟨hbw, _, _, hTF, hTG⟩ := HFR.out V hV
    have h1 := hTF.Sum (HKT.out V hbw)
    have h2 := hTG.Sum (HKT.out V hbw)
    rw [hSS] at h1
    rw [hTT] at h2
    exact ⟨h1, h2⟩⟩
  have HHD : Veil (∀ V B H1 b1 v1 T P, ChainAt V B H1 b1 v1 T P → Calls Tryz.prog 9 #[.pointer (some ⟨H1, 0, none⟩)] V fun e w' => e = .returned (.agg (headsC (headsOf T)).toArray) ∧ Below V.heap.size V w') := ⟨fun V B H1 b1 v1 T P h => chHeads_any B H1 b1 v1 T P V h⟩
  have HFL : Veil (∀ V, Below W.heap.size W V → Below w.heap.size w V) := ⟨fun V h => (HFR.out V h).1⟩
  have HFX : Veil (∀ V, Below W.heap.size W V → V.rangeAt G1 0 F.cells ∧ V.rangeAt G2 0 G.cells) := ⟨fun V h => ⟨(HFR.out V h).2.1, (HFR.out V h).2.2.1⟩⟩
  clear HFR hSS hTT HKT
  generalize F.cells = FC at HAC HSM HFX iF
  generalize G.cells = GC at HAD HSM HFX iG
  -- two chains
  have hn1 := chNew_any W
  go_upto_region 5 with (first
    | (go_at_call 7; refine hn2.mono ?_; rintro e w5 ⟨rfl, hC2, -, hb5⟩; clear hn2)
    | (go_at_call 7; refine hn1.mono ?_; rintro e w4 ⟨rfl, hC1, hs1, hb4⟩; have Hs1 := Veil.mk hs1; clear hs1; have hn2 := chNew_any w4; clear hn1))
  have hb45 := hb4.trans (hb5.mono hb4.size)
  have hTw : TwoC w5 W.heap.size (W.heap.size + 1) W.heap.size (w4.heap.size + 1) w4.heap.size (.slice none 0 0) (.slice none 0 0) noS noS [] [] := ⟨hC1.far hb5, hC2.lessB (by have := Hs1.out; omega), fun g h1 h2 => by
    have q1 := (hC1.inside g h1).1
    have q2 := (hC2.inside g h2).2
    omega⟩
  obtain ⟨s0, hs0⟩ : ∃ q, W.heap.size = q := ⟨_, rfl⟩
  obtain ⟨H1, hH1⟩ : ∃ q, W.heap.size + 1 = q := ⟨_, rfl⟩
  obtain ⟨H2, hH2⟩ : ∃ q, w4.heap.size + 1 = q := ⟨_, rfl⟩
  obtain ⟨c2, hc2⟩ : ∃ q, w4.heap.size = q := ⟨_, rfl⟩
  refine forget (p := fun y => Code.wp _ _ _ _ y) (fun V => Below W.heap.size W V ∧ TwoC V W.heap.size (W.heap.size + 1) W.heap.size (w4.heap.size + 1) w4.heap.size (.slice none 0 0) (.slice none 0 0) noS noS [] []) ⟨hb45, hTw⟩ ?_
  clear hb45 hTw hC1 hC2 Hs1 hb4 hb5
  rw [hH1, hH2, hc2]
  have HS0 := Veil.mk hs0
  clear hH1 hH2 hc2 hs0
  clear w5 w4
  obtain ⟨c1, hc1⟩ : ∃ q, W.heap.size = q := ⟨_, rfl⟩
  have HC1 := Veil.mk hc1
  rintro V ⟨hV, hTw⟩
  rw [HS0.out] at hTw
  clear hc1
  have hVs := hV.size
  have hB0 : s0 ≤ V.heap.size := by have := HS0.out; omega
  have hac := HAC.out V _ _ _ _ _ _ _ _ _ hV hB0 hTw
  have rF := (HFX.out V hV).1
  have HBB : Veil (∀ V' V'', Below W.heap.size W V' → Below s0 V' V'' → Below W.heap.size W V'' ∧ s0 ≤ V''.heap.size) := ⟨fun V' V'' h1 h2 => by
    have h3 : Below W.heap.size V' V'' := by rw [HS0.out]; exact h2
    have := (h1.trans h3)
    exact ⟨this, by have := this.size; have := HS0.out; omega⟩⟩
  have HIX : Veil (∀ wx, (Instr.index 41 (.agg (headsC (headsOf (addS noS 0 SS))).toArray) (.int .i64 0)).run Tryz.prog wx = .ok (.agg (headC (1, SS)).toArray) wx) := ⟨fun wx => headT_ix SS hSok wx⟩
  have HFD : Veil (∀ wx, (Instr.field 40 (.agg (headC (1, SS)).toArray) 0).run Tryz.prog wx = .ok (.int .u32 1) wx) := ⟨fun wx => headT_fd SS wx⟩
  have hix := HIX.out
  have hfd := HFD.out
  clear hTw hB0
  obtain ⟨HC, hHC⟩ : ∃ q, headsC (headsOf (addS noS 0 SS)) = q := ⟨_, rfl⟩
  obtain ⟨HC2, hHC2⟩ : ∃ q, headsC (headsOf (addS noS 0 TT)) = q := ⟨_, rfl⟩
  have HHC := Veil.mk (And.intro hHC hHC2)
  obtain ⟨HE, hHE⟩ : ∃ q, headC (1, SS) = q := ⟨_, rfl⟩
  rw [hHC, hHE] at hix
  rw [hHE] at hfd
  clear hHC hHC2 hHE HIX HFD hSok hTok
  have HNX6 : Veil (∀ w6 v1', Below s0 V w6 → TwoC w6 s0 H1 s0 H2 c2 v1' (.slice none 0 0) (addS noS 0 SS) noS [] [] → w6.rangeAt G2 0 GC ∧ Below W.heap.size W w6 ∧ (Calls Tryz.prog 8 #[.pointer (some ⟨H2, 0, none⟩), .agg GC.toArray] w6 fun e w' => e = .returned (.int .i64 0) ∧ (∃ v2', TwoC w' s0 H1 s0 H2 c2 v1' v2' (addS noS 0 SS) (addS noS 0 TT) [] []) ∧ Below s0 w6 w')) := ⟨fun w6 v1' hb6 h6 => by
    obtain ⟨q1, q2⟩ := HBB.out V w6 hV hb6
    refine ⟨(HFX.out w6 q1).2, q1, (HAD.out w6 _ _ _ _ _ _ _ _ _ q1 q2 h6.swap).mono fun e w' ⟨he, ⟨v', h7⟩, hb7⟩ => ⟨he, ⟨v', h7.swap⟩, hb7⟩⟩⟩
  have HNX7 : Veil (∀ w7 v1' v2', TwoC w7 s0 H1 s0 H2 c2 v1' v2' (addS noS 0 SS) (addS noS 0 TT) [] [] → (Calls Tryz.prog 9 #[.pointer (some ⟨H1, 0, none⟩)] w7 fun e w' => e = .returned (.agg HC.toArray) ∧ Below w7.heap.size w7 w')) := ⟨fun w7 v1' v2' h7 => by
    have := HHD.out w7 _ _ _ _ _ _ h7.c
    rw [HHC.out.1] at this
    exact this⟩
  have hnotS : ¬ (1 : Int) = 0 := by decide
  clear HAC HAD hnotS
  go_upto_region 7 with (first
    | (refine wpList_ldgv (by kernel_rfl) 32 (.tmp 10) rfl G2 0 rfl GC rG uF rfl iG ?_; clear rG)
    | (refine wpList_ldgv (by kernel_rfl) 32 (.tmp 8) rfl G1 0 rfl FC rF uF rfl iF ?_; clear rF)
    | (go_at_call 9; refine hhe.mono ?_; rintro e w8 ⟨rfl, hb8⟩; clear hhe)
    | (go_at_call 8; refine had.mono ?_; rintro e w7 ⟨rfl, ⟨v2', hTw7⟩, hb7⟩; have hhe := HNX7.out w7 v1' v2' hTw7; clear had)
    | (go_at_call 8; refine hac.mono ?_; rintro e w6 ⟨rfl, ⟨v1', hTw6⟩, hb6⟩; obtain ⟨rG, hq6, had⟩ := HNX6.out w6 v1' hb6 hTw6; clear hac))
  obtain ⟨hq7, hs7⟩ := HBB.out w6 w7 hq6 hb7
  refine forget (p := fun y => Code.wp _ _ _ _ y) (fun X => Below W.heap.size W X ∧ s0 ≤ X.heap.size ∧ TwoC X s0 H1 s0 H2 c2 v1' v2' (addS noS 0 SS) (addS noS 0 TT) [] []) ⟨hq7.trans (hb8.mono hq7.size), Nat.le_trans hs7 hb8.size, hTw7.far hb8⟩ ?_
  clear hq7 hs7 hTw7 hb8 hb7 hTw6 hb6 hq6 hV hVs HNX6 HNX7 hix hfd
  clear w8 w7 w6 V
  rintro V ⟨hV, hsV, hTw⟩
  -- they compare
  obtain ⟨L1, hL1⟩ : ∃ q, foundT SS TT = q := ⟨_, rfl⟩
  obtain ⟨L2, hL2⟩ : ∃ q, foundT TT SS = q := ⟨_, rfl⟩
  have HL := Veil.mk (And.intro hL1 hL2)
  have hhd : Calls Tryz.prog 9 #[.pointer (some ⟨H2, 0, none⟩)] V fun e w' => e = .returned (.agg HC2.toArray) ∧ Below V.heap.size V w' := by
    have := HHD.out V _ _ _ _ _ _ hTw.d
    rw [HHC.out.2] at this
    exact this
  have HTW := Veil.mk hTw
  clear hTw hL1 hL2
  have HNC : Veil (∀ w9, Below V.heap.size V w9 → Calls Tryz.prog 10 #[.pointer (some ⟨H1, 0, none⟩), .agg HC2.toArray] w9 fun e w' => ∃ x c, e = .returned (.slice x L1.length c) ∧ OwnI w' w9.heap.size 47 66 (.slice x L1.length c) (L1.map proofC) ∧ (∃ v1'', TwoC w' s0 H1 s0 H2 c2 v1'' v2' (addS noS 0 SS) (addS noS 0 TT) L1 []) ∧ Below s0 w9 w') := ⟨fun w9 hb9 => by
    have h9 := HTW.out.far hb9
    have := cmpT_any h9 (by have := hb9.size; omega)
    rw [HHC.out.2, HL.out.1] at this
    refine this.mono ?_
    rintro e w' ⟨x, c, he, ho, hT, ht⟩
    exact ⟨x, c, he, ho, hT, ht.below (by have := hb9.size; omega) (fun g hg => (h9.c.inside g hg).2)⟩⟩
  have HND : Veil (∀ wA v1'', TwoC wA s0 H1 s0 H2 c2 v1'' v2' (addS noS 0 SS) (addS noS 0 TT) L1 [] → Calls Tryz.prog 9 #[.pointer (some ⟨H1, 0, none⟩)] wA fun e w' => e = .returned (.agg HC.toArray) ∧ Below wA.heap.size wA w') := ⟨fun wA v1'' h => by
    have := HHD.out wA _ _ _ _ _ _ h.c
    rw [HHC.out.1] at this
    exact this⟩
  have HNE : Veil (∀ wB v1'' x c g9, s0 ≤ wB.heap.size → TwoC wB s0 H1 s0 H2 c2 v1'' v2' (addS noS 0 SS) (addS noS 0 TT) L1 [] → (∀ g, chainP H2 c2 v2' g → g < g9) → OwnI wB g9 47 66 (.slice x L1.length c) (L1.map proofC) → Calls Tryz.prog 10 #[.pointer (some ⟨H2, 0, none⟩), .agg HC.toArray] wB fun e w' => ∃ y d, e = .returned (.slice y L2.length d) ∧ OwnI w' wB.heap.size 47 66 (.slice y L2.length d) (L2.map proofC) ∧ OwnI w' g9 47 66 (.slice x L1.length c) (L1.map proofC) ∧ (∃ v2'', TwoC w' s0 H1 s0 H2 c2 v1'' v2'' (addS noS 0 SS) (addS noS 0 TT) L1 L2) ∧ Below s0 wB w') := ⟨fun wB v1'' x c g9 hsz h hlt hO => by
    have := cmpT_any h.swap hsz
    rw [HHC.out.1, HL.out.2] at this
    refine this.mono ?_
    rintro e w' ⟨y, d, he, ho, ⟨v2'', hT⟩, ht⟩
    refine ⟨y, d, he, ho, hO.congr (fun g hg => ht.block g (hO.blockLt g hg).1 (fun hp => by have := hlt g hp; have := (hO.blockLt g hg).2.1; omega)), ⟨v2'', hT.swap⟩, ht.below hsz (fun g hg => (h.d.inside g hg).2)⟩⟩
  have HLT : Veil (∀ w9, Below V.heap.size V w9 → ∀ g, chainP H2 c2 v2' g → g < w9.heap.size) := ⟨fun w9 hb9 g hg => by have := (HTW.out.d.inside g hg).1; have := hb9.size; omega⟩
  go_upto_region 8 with (first
    | (go_at_call 10; refine hcp2.mono ?_; rintro e wC ⟨xq, cq, rfl, hOq, hOp2, ⟨v2'', hTwC⟩, hbC⟩; clear hcp2)
    | (go_at_call 9; refine hhc.mono ?_; rintro e wB ⟨rfl, hbB⟩; have hcp2 := HNE.out wB v1'' xp cp w9.heap.size (Nat.le_trans hsA hbB.size) (hTwA.far hbB) (HLT.out w9 hb9) (hOp.far hbB); clear hhc)
    | (go_at_call 10; refine hcp.mono ?_; rintro e wA ⟨xp, cp, rfl, hOp, ⟨v1'', hTwA⟩, hbA⟩; have hhc := HND.out wA v1'' hTwA; have hsA : s0 ≤ wA.heap.size := Nat.le_trans (Nat.le_trans hsV hb9.size) hbA.size; clear hcp)
    | (go_at_call 9; refine hhd.mono ?_; rintro e w9 ⟨rfl, hb9⟩; have hcp := HNC.out w9 hb9; clear hhd))
  have hW9 := hV.trans (hb9.mono hV.size)
  obtain ⟨hWA, -⟩ := HBB.out w9 wA hW9 hbA
  have hWB := hWA.trans (hbB.mono hWA.size)
  obtain ⟨hWC, -⟩ := HBB.out wB wC hWB hbC
  refine forget (p := fun y => Code.wp _ _ _ _ y) (fun X => Below W.heap.size W X ∧ OwnI X 0 47 66 (.slice xp L1.length cp) (L1.map proofC) ∧ OwnI X 0 47 66 (.slice xq L2.length cq) (L2.map proofC) ∧ ChainAt X s0 H1 s0 v1'' (addS noS 0 SS) L1) ⟨hWC, hOp2.less (Nat.zero_le _), hOq.less (Nat.zero_le _), hTwC.c⟩ ?_
  clear hW9 hWA hWB hWC hOp2 hOq hTwC hbC hbB hbA hb9 hTwA hOp hsA HNC HND HNE HLT HTW hV hsV
  obtain ⟨np, hnp⟩ : ∃ q, L1.length = q := ⟨_, rfl⟩
  obtain ⟨nq, hnq⟩ : ∃ q, L2.length = q := ⟨_, rfl⟩
  have HNN := Veil.mk (And.intro hnp hnq)
  rw [hnp, hnq]
  clear hnp hnq
  clear w9 wA wB wC V
  rintro V0 ⟨hV0, hOp, hOq, hCc⟩
  have HVV : Veil (∀ X, Below V0.heap.size V0 X → Below w.heap.size w X ∧ OwnI X 0 47 66 (.slice xp np cp) (L1.map proofC) ∧ OwnI X 0 47 66 (.slice xq nq cq) (L2.map proofC) ∧ ChainAt X s0 H1 s0 v1'' (addS noS 0 SS) L1) := ⟨fun X h => ⟨HFL.out X (hV0.trans (h.mono hV0.size)), hOp.far h, hOq.far h, hCc.far h⟩⟩
  have HTT : Veil (∀ X, Below V0.heap.size V0 X → X.rangeAt G1 0 FC ∧ X.rangeAt G2 0 GC) := ⟨fun X h => HFX.out X (hV0.trans (h.mono hV0.size))⟩
  obtain ⟨SV, hSV⟩ : ∃ q, SS.map (Value.int .u8) = q := ⟨_, rfl⟩
  obtain ⟨TV, hTV⟩ : ∃ q, TT.map (Value.int .u8) = q := ⟨_, rfl⟩
  have HS1 : Veil (∀ X, Below V0.heap.size V0 X → Calls Tryz.prog 11 #[.agg FC.toArray] X fun e w'' => e = .returned (.agg SV.toArray) ∧ Below X.heap.size X w'') := ⟨fun X h => by have := (HSM.out X (hV0.trans (h.mono hV0.size))).1; rw [hSV] at this; exact this⟩
  have HS2 : Veil (∀ X, Below V0.heap.size V0 X → Calls Tryz.prog 11 #[.agg GC.toArray] X fun e w'' => e = .returned (.agg TV.toArray) ∧ Below X.heap.size X w'') := ⟨fun X h => by have := (HSM.out X (hV0.trans (h.mono hV0.size))).2; rw [hTV] at this; exact this⟩
  have hSl : SV.length = 32 := by rw [← hSV, List.length_map, HOK.out.1.1]
  have hTl : TV.length = 32 := by rw [← hTV, List.length_map, HOK.out.2.1]
  have h1s : ∀ v ∈ SV, v.oneCell' = true := fun v hv => by rw [← hSV] at hv; obtain ⟨x, _, rfl⟩ := List.mem_map.1 hv; rfl
  have h1t : ∀ v ∈ TV, v.oneCell' = true := fun v hv => by rw [← hTV] at hv; obtain ⟨x, _, rfl⟩ := List.mem_map.1 hv; rfl
  have iSV : (Tryz.prog.info? 23).map (·.size) = some SV.length := by rw [hSl]; exact sizeKeyH
  have iTV : (Tryz.prog.info? 23).map (·.size) = some TV.length := by rw [hTl]; exact sizeKeyH
  have HVS := Veil.mk (And.intro hSV hTV)
  obtain ⟨ZK, hzvK, hz1K, hZKl⟩ : ∃ q : List Value, (∀ wx, (zeroValue 23).run Tryz.prog wx = .ok (.agg q.toArray) wx) ∧ ¬ q.toArray = #[] ∧ q.length = 32 := ⟨List.replicate 32 (.int .u8 0), fun wx => zero_ofH (by kernel_rfl) wx, by decide, rfl⟩
  clear hSV hTV hOp hOq hCc HSM HFX HHD HBB HS0 HC1
  refine wp_meetE (fun AC X => ∃ (g4 g5 : Nat) (u : Nat → Value), AC = ⟨#[u 0, u 1, u 2, u 3, u 4, u 5, .bool false, u 7, u 8, u 9, u 10, u 11, .pointer (some ⟨H1, 0, none⟩), .pointer (some ⟨H2, 0, none⟩), .slice xp np cp, .slice xq nq cq, .pointer (some ⟨g4, 0, none⟩), .pointer (some ⟨g5, 0, none⟩), u 18, u 19, u 20, u 21, u 22, u 23, u 24, u 25, u 26, u 27, u 28, u 29, u 30, u 31, u 32, u 33, u 34, u 35, u 36, u 37, u 38, u 39, u 40, u 41, u 42, u 43, u 44, u 45, u 46, u 47, u 48, u 49, u 50, u 51, u 52, u 53, u 54, u 55, u 56, u 57, u 58, u 59, u 60, u 61, u 62, u 63, u 64, u 65, u 66, u 67, u 68, u 69, u 70, u 71, u 72, u 73, u 74, u 75, u 76, u 77, u 78, u 79, u 80, u 81, u 82, u 83, u 84, u 85, u 86, u 87, u 88, u 89, u 90, u 91, u 92, u 93, u 94, u 95, u 96, u 97, u 98, u 99, u 100, u 101, u 102, u 103, u 104, u 105, u 106, u 107, u 108, u 109, u 110, u 111, u 112, u 113, u 114, u 115], []⟩ ∧ (Below V0.heap.size V0 X ∧ CellsAt X g4 23 SV ∧ CellsAt X g5 23 TV)) ?_ ?_
  · refine wp_region_gateT (fun w' => w'.rangeAt G1 0 FC ∧ w'.rangeAt G2 0 GC) (fun _ => True) 99 (by kernel_rfl) ?_
    have hS := trivial
    have hBd : Below V0.heap.size V0 V0.drew := (Below.refl _ V0).drew
    refine forget (p := fun y => wpAnyT _ _ _ _ _ _ _ _ _ _ y) (fun X => Below V0.heap.size V0 X) hBd ?_
    clear hBd
    rintro V0d hBV0d
    have hT : (fun w' : World => w'.rangeAt G1 0 FC ∧ w'.rangeAt G2 0 GC) V0d := HTT.out V0d hBV0d
    refine wpAnyT_load (i := 0) (dst := some 69) (ty := 32) (x := .tmp 8) (b := G1) (o := (0)) (cs := FC) (by kernel_rfl) (by kernel_rfl) (by kernel_rfl) (by kernel_rfl) (by kernel_rfl) (fun _ _ _ h => h) (by kernel_rfl) hT (fun _ => hS) (by kernel_rfl) (fun _ h => h.1) uF rfl iF ?_
    simp only [Act.put, gA, gS, gZ, sI, sZ, sS]
    refine wpAnyT_load (i := 2) (dst := some 71) (ty := 32) (x := .tmp 10) (b := G2) (o := (0)) (cs := GC) (by kernel_rfl) (by kernel_rfl) (by kernel_rfl) (by kernel_rfl) (by kernel_rfl) (fun _ _ _ h => h) (by kernel_rfl) hT (fun _ => hS) (by kernel_rfl) (fun _ h => h.2) uF rfl iG ?_
    simp only [Act.put, gA, gS, gZ, sI, sZ, sS]
    refine wpAnyT_three (i := 1) (j := 4) (l := 5) rfl rfl rfl (by kernel_rfl) (by kernel_rfl) (by kernel_rfl) (by kernel_rfl) (fun K hK => ?_) (fun K hK => ?_) (fun K hK => ?_)
    · refine wpx_call _ _ (by kernel_rfl) ((HS1.out V0d hBV0d).mono ?_)
      rintro e V11 ⟨rfl, hbV11⟩
      refine ⟨_, rfl, ?_⟩
      have hBV11 := hBV0d.trans (hbV11.mono hBV0d.size)
      replace hT := HTT.out V11 hBV11
      refine hK.out _ _ hT (fun _ => hS) ?_
      clear hK K
      try simp only [Act.put, gA, gS, gZ, sI, sZ, sS]
      refine wpAnyT_three (i := 3) (j := 4) (l := 5) rfl rfl rfl (by kernel_rfl) (by kernel_rfl) (by kernel_rfl) (by kernel_rfl) (fun K hK => ?_) (fun K hK => ?_) (fun K hK => ?_)
      · refine wpx_call _ _ (by kernel_rfl) ((HS2.out V11 hBV11).mono ?_)
        rintro e V23 ⟨rfl, hbV23⟩
        refine ⟨_, rfl, ?_⟩
        have hBV23 := hBV11.trans (hbV23.mono hBV11.size)
        replace hT := HTT.out V23 hBV23
        refine hK.out _ _ hT (fun _ => hS) ?_
        clear hK K
        try simp only [Act.put, gA, gS, gZ, sI, sZ, sS]
        refine wpAnyT_two (i := 4) (j := 5) rfl rfl (by kernel_rfl) (by kernel_rfl) (by kernel_rfl) (fun K hK => ?_) (fun K hK => ?_)
        · go_simp
          have l3w := hBV23.size
          refine forget (p := fun y => K _ y) (fun X => Below V0.heap.size V0 X ∧ CellsAt X V23.heap.size 23 ZK) ⟨hBV23.alloc hBV23.size _, CellsAt.new V23 23 ZK⟩ ?_
          rintro V34 ⟨hBV34, h4V34⟩
          replace hT := HTT.out V34 hBV34
          refine hK.out _ _ hT (fun _ => hS) ?_
          clear hK K
          try simp only [Act.put, gA, gS, gZ, sI, sZ, sS]
          refine wpAnyT_one (i := 5) rfl (by kernel_rfl) (by kernel_rfl) (fun K hK => ?_)
          go_simp
          have l4w := hBV34.size
          have l4g4 := h4V34.lt
          refine forget (p := fun y => K _ y) (fun X => Below V0.heap.size V0 X ∧ CellsAt X V34.heap.size 23 ZK ∧ CellsAt X V23.heap.size 23 ZK) ⟨hBV34.alloc hBV34.size _, CellsAt.new V34 23 ZK, h4V34.alloc _⟩ ?_
          rintro V45 ⟨hBV45, h5V45, h4V45⟩
          replace hT := HTT.out V45 hBV45
          refine hK.out _ _ hT (fun _ => hS) ?_
          clear hK K
          try simp only [Act.put, gA, gS, gZ, sI, sZ, sS]
          refine wpAnyT_one (i := 6) rfl (by kernel_rfl) (by kernel_rfl) (fun K hK => ?_)
          refine wp_stvE 23 _ _ rfl _ rfl rfl h4V45 iSV (by rw [hSl, hZKl]) h1s ?_
          have h5x := h5V45.setRowM SV.toArray (g' := V23.heap.size) (by omega)
          have h4x := h4V45.setRow SV
          have hBx := below_setRow hBV45 (show V0.heap.size ≤ V23.heap.size by omega) SV.toArray
          replace hT := HTT.out _ hBx
          refine hK.out _ _ hT (fun _ => hS) ?_
          clear hK K
          try simp only [Act.put, gA, gS, gZ, sI, sZ, sS]
          refine wpAnyT_one (i := 7) rfl (by kernel_rfl) (by kernel_rfl) (fun K hK => ?_)
          refine wp_stvE 23 _ _ rfl _ rfl rfl h5x iTV (by rw [hTl, hZKl]) h1t ?_
          have h4y := h4x.setRowM TV.toArray (g' := V34.heap.size) (by omega)
          have h5y := h5x.setRow TV
          have hBy := below_setRow hBx (show V0.heap.size ≤ V34.heap.size by omega) TV.toArray
          replace hT := HTT.out _ hBy
          refine hK.out _ _ hT (fun _ => hS) ?_
          clear hK K
          try simp only [Act.put, gA, gS, gZ, sI, sZ, sS]
          refine wpAnyT_done (by kernel_rfl) ?_ _
          exact ⟨_, _, meetT (by kernel_rfl) ⟨hBy, h4y, h5y⟩⟩
        · go_simp
          have l3w := hBV23.size
          refine forget (p := fun y => K _ y) (fun X => Below V0.heap.size V0 X ∧ CellsAt X V23.heap.size 23 ZK) ⟨hBV23.alloc hBV23.size _, CellsAt.new V23 23 ZK⟩ ?_
          rintro V35 ⟨hBV35, h5V35⟩
          replace hT := HTT.out V35 hBV35
          refine hK.out _ _ hT (fun _ => hS) ?_
          clear hK K
          try simp only [Act.put, gA, gS, gZ, sI, sZ, sS]
          refine wpAnyT_one (i := 4) rfl (by kernel_rfl) (by kernel_rfl) (fun K hK => ?_)
          go_simp
          have l4w := hBV35.size
          have l4g5 := h5V35.lt
          refine forget (p := fun y => K _ y) (fun X => Below V0.heap.size V0 X ∧ CellsAt X V35.heap.size 23 ZK ∧ CellsAt X V23.heap.size 23 ZK) ⟨hBV35.alloc hBV35.size _, CellsAt.new V35 23 ZK, h5V35.alloc _⟩ ?_
          rintro V44 ⟨hBV44, h4V44, h5V44⟩
          replace hT := HTT.out V44 hBV44
          refine hK.out _ _ hT (fun _ => hS) ?_
          clear hK K
          try simp only [Act.put, gA, gS, gZ, sI, sZ, sS]
          refine wpAnyT_one (i := 6) rfl (by kernel_rfl) (by kernel_rfl) (fun K hK => ?_)
          refine wp_stvE 23 _ _ rfl _ rfl rfl h4V44 iSV (by rw [hSl, hZKl]) h1s ?_
          have h5x := h5V44.setRowM SV.toArray (g' := V35.heap.size) (by omega)
          have h4x := h4V44.setRow SV
          have hBx := below_setRow hBV44 (show V0.heap.size ≤ V35.heap.size by omega) SV.toArray
          replace hT := HTT.out _ hBx
          refine hK.out _ _ hT (fun _ => hS) ?_
          clear hK K
          try simp only [Act.put, gA, gS, gZ, sI, sZ, sS]
          refine wpAnyT_one (i := 7) rfl (by kernel_rfl) (by kernel_rfl) (fun K hK => ?_)
          refine wp_stvE 23 _ _ rfl _ rfl rfl h5x iTV (by rw [hTl, hZKl]) h1t ?_
          have h4y := h4x.setRowM TV.toArray (g' := V23.heap.size) (by omega)
          have h5y := h5x.setRow TV
          have hBy := below_setRow hBx (show V0.heap.size ≤ V23.heap.size by omega) TV.toArray
          replace hT := HTT.out _ hBy
          refine hK.out _ _ hT (fun _ => hS) ?_
          clear hK K
          try simp only [Act.put, gA, gS, gZ, sI, sZ, sS]
          refine wpAnyT_done (by kernel_rfl) ?_ _
          exact ⟨_, _, meetT (by kernel_rfl) ⟨hBy, h4y, h5y⟩⟩
      · go_simp
        have l2w := hBV11.size
        refine forget (p := fun y => K _ y) (fun X => Below V0.heap.size V0 X ∧ CellsAt X V11.heap.size 23 ZK) ⟨hBV11.alloc hBV11.size _, CellsAt.new V11 23 ZK⟩ ?_
        rintro V24 ⟨hBV24, h4V24⟩
        replace hT := HTT.out V24 hBV24
        refine hK.out _ _ hT (fun _ => hS) ?_
        clear hK K
        try simp only [Act.put, gA, gS, gZ, sI, sZ, sS]
        refine wpAnyT_two (i := 3) (j := 5) rfl rfl (by kernel_rfl) (by kernel_rfl) (by kernel_rfl) (fun K hK => ?_) (fun K hK => ?_)
        · refine wpx_call _ _ (by kernel_rfl) ((HS2.out V24 hBV24).mono ?_)
          rintro e V33 ⟨rfl, hbV33⟩
          refine ⟨_, rfl, ?_⟩
          have hBV33 := hBV24.trans (hbV33.mono hBV24.size)
          have h4V33 := h4V24.farM hbV33
          replace hT := HTT.out V33 hBV33
          refine hK.out _ _ hT (fun _ => hS) ?_
          clear hK K
          try simp only [Act.put, gA, gS, gZ, sI, sZ, sS]
          refine wpAnyT_one (i := 5) rfl (by kernel_rfl) (by kernel_rfl) (fun K hK => ?_)
          go_simp
          have l4w := hBV33.size
          have l4g4 := h4V33.lt
          refine forget (p := fun y => K _ y) (fun X => Below V0.heap.size V0 X ∧ CellsAt X V33.heap.size 23 ZK ∧ CellsAt X V11.heap.size 23 ZK) ⟨hBV33.alloc hBV33.size _, CellsAt.new V33 23 ZK, h4V33.alloc _⟩ ?_
          rintro V45 ⟨hBV45, h5V45, h4V45⟩
          replace hT := HTT.out V45 hBV45
          refine hK.out _ _ hT (fun _ => hS) ?_
          clear hK K
          try simp only [Act.put, gA, gS, gZ, sI, sZ, sS]
          refine wpAnyT_one (i := 6) rfl (by kernel_rfl) (by kernel_rfl) (fun K hK => ?_)
          refine wp_stvE 23 _ _ rfl _ rfl rfl h4V45 iSV (by rw [hSl, hZKl]) h1s ?_
          have h5x := h5V45.setRowM SV.toArray (g' := V11.heap.size) (by omega)
          have h4x := h4V45.setRow SV
          have hBx := below_setRow hBV45 (show V0.heap.size ≤ V11.heap.size by omega) SV.toArray
          replace hT := HTT.out _ hBx
          refine hK.out _ _ hT (fun _ => hS) ?_
          clear hK K
          try simp only [Act.put, gA, gS, gZ, sI, sZ, sS]
          refine wpAnyT_one (i := 7) rfl (by kernel_rfl) (by kernel_rfl) (fun K hK => ?_)
          refine wp_stvE 23 _ _ rfl _ rfl rfl h5x iTV (by rw [hTl, hZKl]) h1t ?_
          have h4y := h4x.setRowM TV.toArray (g' := V33.heap.size) (by omega)
          have h5y := h5x.setRow TV
          have hBy := below_setRow hBx (show V0.heap.size ≤ V33.heap.size by omega) TV.toArray
          replace hT := HTT.out _ hBy
          refine hK.out _ _ hT (fun _ => hS) ?_
          clear hK K
          try simp only [Act.put, gA, gS, gZ, sI, sZ, sS]
          refine wpAnyT_done (by kernel_rfl) ?_ _
          exact ⟨_, _, meetT (by kernel_rfl) ⟨hBy, h4y, h5y⟩⟩
        · go_simp
          have l3w := hBV24.size
          have l3g4 := h4V24.lt
          refine forget (p := fun y => K _ y) (fun X => Below V0.heap.size V0 X ∧ CellsAt X V24.heap.size 23 ZK ∧ CellsAt X V11.heap.size 23 ZK) ⟨hBV24.alloc hBV24.size _, CellsAt.new V24 23 ZK, h4V24.alloc _⟩ ?_
          rintro V35 ⟨hBV35, h5V35, h4V35⟩
          replace hT := HTT.out V35 hBV35
          refine hK.out _ _ hT (fun _ => hS) ?_
          clear hK K
          try simp only [Act.put, gA, gS, gZ, sI, sZ, sS]
          refine wpAnyT_one (i := 3) rfl (by kernel_rfl) (by kernel_rfl) (fun K hK => ?_)
          refine wpx_call _ _ (by kernel_rfl) ((HS2.out V35 hBV35).mono ?_)
          rintro e V43 ⟨rfl, hbV43⟩
          refine ⟨_, rfl, ?_⟩
          have hBV43 := hBV35.trans (hbV43.mono hBV35.size)
          have h4V43 := h4V35.farM hbV43
          have h5V43 := h5V35.farM hbV43
          replace hT := HTT.out V43 hBV43
          refine hK.out _ _ hT (fun _ => hS) ?_
          clear hK K
          try simp only [Act.put, gA, gS, gZ, sI, sZ, sS]
          refine wpAnyT_one (i := 6) rfl (by kernel_rfl) (by kernel_rfl) (fun K hK => ?_)
          refine wp_stvE 23 _ _ rfl _ rfl rfl h4V43 iSV (by rw [hSl, hZKl]) h1s ?_
          have h5x := h5V43.setRowM SV.toArray (g' := V11.heap.size) (by omega)
          have h4x := h4V43.setRow SV
          have hBx := below_setRow hBV43 (show V0.heap.size ≤ V11.heap.size by omega) SV.toArray
          replace hT := HTT.out _ hBx
          refine hK.out _ _ hT (fun _ => hS) ?_
          clear hK K
          try simp only [Act.put, gA, gS, gZ, sI, sZ, sS]
          refine wpAnyT_one (i := 7) rfl (by kernel_rfl) (by kernel_rfl) (fun K hK => ?_)
          refine wp_stvE 23 _ _ rfl _ rfl rfl h5x iTV (by rw [hTl, hZKl]) h1t ?_
          have h4y := h4x.setRowM TV.toArray (g' := V24.heap.size) (by omega)
          have h5y := h5x.setRow TV
          have hBy := below_setRow hBx (show V0.heap.size ≤ V24.heap.size by omega) TV.toArray
          replace hT := HTT.out _ hBy
          refine hK.out _ _ hT (fun _ => hS) ?_
          clear hK K
          try simp only [Act.put, gA, gS, gZ, sI, sZ, sS]
          refine wpAnyT_done (by kernel_rfl) ?_ _
          exact ⟨_, _, meetT (by kernel_rfl) ⟨hBy, h4y, h5y⟩⟩
      · go_simp
        have l2w := hBV11.size
        refine forget (p := fun y => K _ y) (fun X => Below V0.heap.size V0 X ∧ CellsAt X V11.heap.size 23 ZK) ⟨hBV11.alloc hBV11.size _, CellsAt.new V11 23 ZK⟩ ?_
        rintro V25 ⟨hBV25, h5V25⟩
        replace hT := HTT.out V25 hBV25
        refine hK.out _ _ hT (fun _ => hS) ?_
        clear hK K
        try simp only [Act.put, gA, gS, gZ, sI, sZ, sS]
        refine wpAnyT_two (i := 3) (j := 4) rfl rfl (by kernel_rfl) (by kernel_rfl) (by kernel_rfl) (fun K hK => ?_) (fun K hK => ?_)
        · refine wpx_call _ _ (by kernel_rfl) ((HS2.out V25 hBV25).mono ?_)
          rintro e V33 ⟨rfl, hbV33⟩
          refine ⟨_, rfl, ?_⟩
          have hBV33 := hBV25.trans (hbV33.mono hBV25.size)
          have h5V33 := h5V25.farM hbV33
          replace hT := HTT.out V33 hBV33
          refine hK.out _ _ hT (fun _ => hS) ?_
          clear hK K
          try simp only [Act.put, gA, gS, gZ, sI, sZ, sS]
          refine wpAnyT_one (i := 4) rfl (by kernel_rfl) (by kernel_rfl) (fun K hK => ?_)
          go_simp
          have l4w := hBV33.size
          have l4g5 := h5V33.lt
          refine forget (p := fun y => K _ y) (fun X => Below V0.heap.size V0 X ∧ CellsAt X V33.heap.size 23 ZK ∧ CellsAt X V11.heap.size 23 ZK) ⟨hBV33.alloc hBV33.size _, CellsAt.new V33 23 ZK, h5V33.alloc _⟩ ?_
          rintro V44 ⟨hBV44, h4V44, h5V44⟩
          replace hT := HTT.out V44 hBV44
          refine hK.out _ _ hT (fun _ => hS) ?_
          clear hK K
          try simp only [Act.put, gA, gS, gZ, sI, sZ, sS]
          refine wpAnyT_one (i := 6) rfl (by kernel_rfl) (by kernel_rfl) (fun K hK => ?_)
          refine wp_stvE 23 _ _ rfl _ rfl rfl h4V44 iSV (by rw [hSl, hZKl]) h1s ?_
          have h5x := h5V44.setRowM SV.toArray (g' := V33.heap.size) (by omega)
          have h4x := h4V44.setRow SV
          have hBx := below_setRow hBV44 (show V0.heap.size ≤ V33.heap.size by omega) SV.toArray
          replace hT := HTT.out _ hBx
          refine hK.out _ _ hT (fun _ => hS) ?_
          clear hK K
          try simp only [Act.put, gA, gS, gZ, sI, sZ, sS]
          refine wpAnyT_one (i := 7) rfl (by kernel_rfl) (by kernel_rfl) (fun K hK => ?_)
          refine wp_stvE 23 _ _ rfl _ rfl rfl h5x iTV (by rw [hTl, hZKl]) h1t ?_
          have h4y := h4x.setRowM TV.toArray (g' := V11.heap.size) (by omega)
          have h5y := h5x.setRow TV
          have hBy := below_setRow hBx (show V0.heap.size ≤ V11.heap.size by omega) TV.toArray
          replace hT := HTT.out _ hBy
          refine hK.out _ _ hT (fun _ => hS) ?_
          clear hK K
          try simp only [Act.put, gA, gS, gZ, sI, sZ, sS]
          refine wpAnyT_done (by kernel_rfl) ?_ _
          exact ⟨_, _, meetT (by kernel_rfl) ⟨hBy, h4y, h5y⟩⟩
        · go_simp
          have l3w := hBV25.size
          have l3g5 := h5V25.lt
          refine forget (p := fun y => K _ y) (fun X => Below V0.heap.size V0 X ∧ CellsAt X V25.heap.size 23 ZK ∧ CellsAt X V11.heap.size 23 ZK) ⟨hBV25.alloc hBV25.size _, CellsAt.new V25 23 ZK, h5V25.alloc _⟩ ?_
          rintro V34 ⟨hBV34, h4V34, h5V34⟩
          replace hT := HTT.out V34 hBV34
          refine hK.out _ _ hT (fun _ => hS) ?_
          clear hK K
          try simp only [Act.put, gA, gS, gZ, sI, sZ, sS]
          refine wpAnyT_one (i := 3) rfl (by kernel_rfl) (by kernel_rfl) (fun K hK => ?_)
          refine wpx_call _ _ (by kernel_rfl) ((HS2.out V34 hBV34).mono ?_)
          rintro e V43 ⟨rfl, hbV43⟩
          refine ⟨_, rfl, ?_⟩
          have hBV43 := hBV34.trans (hbV43.mono hBV34.size)
          have h5V43 := h5V34.farM hbV43
          have h4V43 := h4V34.farM hbV43
          replace hT := HTT.out V43 hBV43
          refine hK.out _ _ hT (fun _ => hS) ?_
          clear hK K
          try simp only [Act.put, gA, gS, gZ, sI, sZ, sS]
          refine wpAnyT_one (i := 6) rfl (by kernel_rfl) (by kernel_rfl) (fun K hK => ?_)
          refine wp_stvE 23 _ _ rfl _ rfl rfl h4V43 iSV (by rw [hSl, hZKl]) h1s ?_
          have h5x := h5V43.setRowM SV.toArray (g' := V25.heap.size) (by omega)
          have h4x := h4V43.setRow SV
          have hBx := below_setRow hBV43 (show V0.heap.size ≤ V25.heap.size by omega) SV.toArray
          replace hT := HTT.out _ hBx
          refine hK.out _ _ hT (fun _ => hS) ?_
          clear hK K
          try simp only [Act.put, gA, gS, gZ, sI, sZ, sS]
          refine wpAnyT_one (i := 7) rfl (by kernel_rfl) (by kernel_rfl) (fun K hK => ?_)
          refine wp_stvE 23 _ _ rfl _ rfl rfl h5x iTV (by rw [hTl, hZKl]) h1t ?_
          have h4y := h4x.setRowM TV.toArray (g' := V11.heap.size) (by omega)
          have h5y := h5x.setRow TV
          have hBy := below_setRow hBx (show V0.heap.size ≤ V11.heap.size by omega) TV.toArray
          replace hT := HTT.out _ hBy
          refine hK.out _ _ hT (fun _ => hS) ?_
          clear hK K
          try simp only [Act.put, gA, gS, gZ, sI, sZ, sS]
          refine wpAnyT_done (by kernel_rfl) ?_ _
          exact ⟨_, _, meetT (by kernel_rfl) ⟨hBy, h4y, h5y⟩⟩
    · go_simp
      have l1w := hBV0d.size
      refine forget (p := fun y => K _ y) (fun X => Below V0.heap.size V0 X ∧ CellsAt X V0d.heap.size 23 ZK) ⟨hBV0d.alloc hBV0d.size _, CellsAt.new V0d 23 ZK⟩ ?_
      rintro V14 ⟨hBV14, h4V14⟩
      replace hT := HTT.out V14 hBV14
      refine hK.out _ _ hT (fun _ => hS) ?_
      clear hK K
      try simp only [Act.put, gA, gS, gZ, sI, sZ, sS]
      refine wpAnyT_two (i := 1) (j := 5) rfl rfl (by kernel_rfl) (by kernel_rfl) (by kernel_rfl) (fun K hK => ?_) (fun K hK => ?_)
      · refine wpx_call _ _ (by kernel_rfl) ((HS1.out V14 hBV14).mono ?_)
        rintro e V21 ⟨rfl, hbV21⟩
        refine ⟨_, rfl, ?_⟩
        have hBV21 := hBV14.trans (hbV21.mono hBV14.size)
        have h4V21 := h4V14.farM hbV21
        replace hT := HTT.out V21 hBV21
        refine hK.out _ _ hT (fun _ => hS) ?_
        clear hK K
        try simp only [Act.put, gA, gS, gZ, sI, sZ, sS]
        refine wpAnyT_two (i := 3) (j := 5) rfl rfl (by kernel_rfl) (by kernel_rfl) (by kernel_rfl) (fun K hK => ?_) (fun K hK => ?_)
        · refine wpx_call _ _ (by kernel_rfl) ((HS2.out V21 hBV21).mono ?_)
          rintro e V33 ⟨rfl, hbV33⟩
          refine ⟨_, rfl, ?_⟩
          have hBV33 := hBV21.trans (hbV33.mono hBV21.size)
          have h4V33 := h4V21.farM hbV33
          replace hT := HTT.out V33 hBV33
          refine hK.out _ _ hT (fun _ => hS) ?_
          clear hK K
          try simp only [Act.put, gA, gS, gZ, sI, sZ, sS]
          refine wpAnyT_one (i := 5) rfl (by kernel_rfl) (by kernel_rfl) (fun K hK => ?_)
          go_simp
          have l4w := hBV33.size
          have l4g4 := h4V33.lt
          refine forget (p := fun y => K _ y) (fun X => Below V0.heap.size V0 X ∧ CellsAt X V33.heap.size 23 ZK ∧ CellsAt X V0d.heap.size 23 ZK) ⟨hBV33.alloc hBV33.size _, CellsAt.new V33 23 ZK, h4V33.alloc _⟩ ?_
          rintro V45 ⟨hBV45, h5V45, h4V45⟩
          replace hT := HTT.out V45 hBV45
          refine hK.out _ _ hT (fun _ => hS) ?_
          clear hK K
          try simp only [Act.put, gA, gS, gZ, sI, sZ, sS]
          refine wpAnyT_one (i := 6) rfl (by kernel_rfl) (by kernel_rfl) (fun K hK => ?_)
          refine wp_stvE 23 _ _ rfl _ rfl rfl h4V45 iSV (by rw [hSl, hZKl]) h1s ?_
          have h5x := h5V45.setRowM SV.toArray (g' := V0d.heap.size) (by omega)
          have h4x := h4V45.setRow SV
          have hBx := below_setRow hBV45 (show V0.heap.size ≤ V0d.heap.size by omega) SV.toArray
          replace hT := HTT.out _ hBx
          refine hK.out _ _ hT (fun _ => hS) ?_
          clear hK K
          try simp only [Act.put, gA, gS, gZ, sI, sZ, sS]
          refine wpAnyT_one (i := 7) rfl (by kernel_rfl) (by kernel_rfl) (fun K hK => ?_)
          refine wp_stvE 23 _ _ rfl _ rfl rfl h5x iTV (by rw [hTl, hZKl]) h1t ?_
          have h4y := h4x.setRowM TV.toArray (g' := V33.heap.size) (by omega)
          have h5y := h5x.setRow TV
          have hBy := below_setRow hBx (show V0.heap.size ≤ V33.heap.size by omega) TV.toArray
          replace hT := HTT.out _ hBy
          refine hK.out _ _ hT (fun _ => hS) ?_
          clear hK K
          try simp only [Act.put, gA, gS, gZ, sI, sZ, sS]
          refine wpAnyT_done (by kernel_rfl) ?_ _
          exact ⟨_, _, meetT (by kernel_rfl) ⟨hBy, h4y, h5y⟩⟩
        · go_simp
          have l3w := hBV21.size
          have l3g4 := h4V21.lt
          refine forget (p := fun y => K _ y) (fun X => Below V0.heap.size V0 X ∧ CellsAt X V21.heap.size 23 ZK ∧ CellsAt X V0d.heap.size 23 ZK) ⟨hBV21.alloc hBV21.size _, CellsAt.new V21 23 ZK, h4V21.alloc _⟩ ?_
          rintro V35 ⟨hBV35, h5V35, h4V35⟩
          replace hT := HTT.out V35 hBV35
          refine hK.out _ _ hT (fun _ => hS) ?_
          clear hK K
          try simp only [Act.put, gA, gS, gZ, sI, sZ, sS]
          refine wpAnyT_one (i := 3) rfl (by kernel_rfl) (by kernel_rfl) (fun K hK => ?_)
          refine wpx_call _ _ (by kernel_rfl) ((HS2.out V35 hBV35).mono ?_)
          rintro e V43 ⟨rfl, hbV43⟩
          refine ⟨_, rfl, ?_⟩
          have hBV43 := hBV35.trans (hbV43.mono hBV35.size)
          have h4V43 := h4V35.farM hbV43
          have h5V43 := h5V35.farM hbV43
          replace hT := HTT.out V43 hBV43
          refine hK.out _ _ hT (fun _ => hS) ?_
          clear hK K
          try simp only [Act.put, gA, gS, gZ, sI, sZ, sS]
          refine wpAnyT_one (i := 6) rfl (by kernel_rfl) (by kernel_rfl) (fun K hK => ?_)
          refine wp_stvE 23 _ _ rfl _ rfl rfl h4V43 iSV (by rw [hSl, hZKl]) h1s ?_
          have h5x := h5V43.setRowM SV.toArray (g' := V0d.heap.size) (by omega)
          have h4x := h4V43.setRow SV
          have hBx := below_setRow hBV43 (show V0.heap.size ≤ V0d.heap.size by omega) SV.toArray
          replace hT := HTT.out _ hBx
          refine hK.out _ _ hT (fun _ => hS) ?_
          clear hK K
          try simp only [Act.put, gA, gS, gZ, sI, sZ, sS]
          refine wpAnyT_one (i := 7) rfl (by kernel_rfl) (by kernel_rfl) (fun K hK => ?_)
          refine wp_stvE 23 _ _ rfl _ rfl rfl h5x iTV (by rw [hTl, hZKl]) h1t ?_
          have h4y := h4x.setRowM TV.toArray (g' := V21.heap.size) (by omega)
          have h5y := h5x.setRow TV
          have hBy := below_setRow hBx (show V0.heap.size ≤ V21.heap.size by omega) TV.toArray
          replace hT := HTT.out _ hBy
          refine hK.out _ _ hT (fun _ => hS) ?_
          clear hK K
          try simp only [Act.put, gA, gS, gZ, sI, sZ, sS]
          refine wpAnyT_done (by kernel_rfl) ?_ _
          exact ⟨_, _, meetT (by kernel_rfl) ⟨hBy, h4y, h5y⟩⟩
      · go_simp
        have l2w := hBV14.size
        have l2g4 := h4V14.lt
        refine forget (p := fun y => K _ y) (fun X => Below V0.heap.size V0 X ∧ CellsAt X V14.heap.size 23 ZK ∧ CellsAt X V0d.heap.size 23 ZK) ⟨hBV14.alloc hBV14.size _, CellsAt.new V14 23 ZK, h4V14.alloc _⟩ ?_
        rintro V25 ⟨hBV25, h5V25, h4V25⟩
        replace hT := HTT.out V25 hBV25
        refine hK.out _ _ hT (fun _ => hS) ?_
        clear hK K
        try simp only [Act.put, gA, gS, gZ, sI, sZ, sS]
        refine wpAnyT_one (i := 1) rfl (by kernel_rfl) (by kernel_rfl) (fun K hK => ?_)
        refine wpx_call _ _ (by kernel_rfl) ((HS1.out V25 hBV25).mono ?_)
        rintro e V31 ⟨rfl, hbV31⟩
        refine ⟨_, rfl, ?_⟩
        have hBV31 := hBV25.trans (hbV31.mono hBV25.size)
        have h4V31 := h4V25.farM hbV31
        have h5V31 := h5V25.farM hbV31
        replace hT := HTT.out V31 hBV31
        refine hK.out _ _ hT (fun _ => hS) ?_
        clear hK K
        try simp only [Act.put, gA, gS, gZ, sI, sZ, sS]
        refine wpAnyT_one (i := 3) rfl (by kernel_rfl) (by kernel_rfl) (fun K hK => ?_)
        refine wpx_call _ _ (by kernel_rfl) ((HS2.out V31 hBV31).mono ?_)
        rintro e V43 ⟨rfl, hbV43⟩
        refine ⟨_, rfl, ?_⟩
        have hBV43 := hBV31.trans (hbV43.mono hBV31.size)
        have h4V43 := h4V31.farM hbV43
        have h5V43 := h5V31.farM hbV43
        replace hT := HTT.out V43 hBV43
        refine hK.out _ _ hT (fun _ => hS) ?_
        clear hK K
        try simp only [Act.put, gA, gS, gZ, sI, sZ, sS]
        refine wpAnyT_one (i := 6) rfl (by kernel_rfl) (by kernel_rfl) (fun K hK => ?_)
        refine wp_stvE 23 _ _ rfl _ rfl rfl h4V43 iSV (by rw [hSl, hZKl]) h1s ?_
        have h5x := h5V43.setRowM SV.toArray (g' := V0d.heap.size) (by omega)
        have h4x := h4V43.setRow SV
        have hBx := below_setRow hBV43 (show V0.heap.size ≤ V0d.heap.size by omega) SV.toArray
        replace hT := HTT.out _ hBx
        refine hK.out _ _ hT (fun _ => hS) ?_
        clear hK K
        try simp only [Act.put, gA, gS, gZ, sI, sZ, sS]
        refine wpAnyT_one (i := 7) rfl (by kernel_rfl) (by kernel_rfl) (fun K hK => ?_)
        refine wp_stvE 23 _ _ rfl _ rfl rfl h5x iTV (by rw [hTl, hZKl]) h1t ?_
        have h4y := h4x.setRowM TV.toArray (g' := V14.heap.size) (by omega)
        have h5y := h5x.setRow TV
        have hBy := below_setRow hBx (show V0.heap.size ≤ V14.heap.size by omega) TV.toArray
        replace hT := HTT.out _ hBy
        refine hK.out _ _ hT (fun _ => hS) ?_
        clear hK K
        try simp only [Act.put, gA, gS, gZ, sI, sZ, sS]
        refine wpAnyT_done (by kernel_rfl) ?_ _
        exact ⟨_, _, meetT (by kernel_rfl) ⟨hBy, h4y, h5y⟩⟩
    · go_simp
      have l1w := hBV0d.size
      refine forget (p := fun y => K _ y) (fun X => Below V0.heap.size V0 X ∧ CellsAt X V0d.heap.size 23 ZK) ⟨hBV0d.alloc hBV0d.size _, CellsAt.new V0d 23 ZK⟩ ?_
      rintro V15 ⟨hBV15, h5V15⟩
      replace hT := HTT.out V15 hBV15
      refine hK.out _ _ hT (fun _ => hS) ?_
      clear hK K
      try simp only [Act.put, gA, gS, gZ, sI, sZ, sS]
      refine wpAnyT_two (i := 1) (j := 4) rfl rfl (by kernel_rfl) (by kernel_rfl) (by kernel_rfl) (fun K hK => ?_) (fun K hK => ?_)
      · refine wpx_call _ _ (by kernel_rfl) ((HS1.out V15 hBV15).mono ?_)
        rintro e V21 ⟨rfl, hbV21⟩
        refine ⟨_, rfl, ?_⟩
        have hBV21 := hBV15.trans (hbV21.mono hBV15.size)
        have h5V21 := h5V15.farM hbV21
        replace hT := HTT.out V21 hBV21
        refine hK.out _ _ hT (fun _ => hS) ?_
        clear hK K
        try simp only [Act.put, gA, gS, gZ, sI, sZ, sS]
        refine wpAnyT_two (i := 3) (j := 4) rfl rfl (by kernel_rfl) (by kernel_rfl) (by kernel_rfl) (fun K hK => ?_) (fun K hK => ?_)
        · refine wpx_call _ _ (by kernel_rfl) ((HS2.out V21 hBV21).mono ?_)
          rintro e V33 ⟨rfl, hbV33⟩
          refine ⟨_, rfl, ?_⟩
          have hBV33 := hBV21.trans (hbV33.mono hBV21.size)
          have h5V33 := h5V21.farM hbV33
          replace hT := HTT.out V33 hBV33
          refine hK.out _ _ hT (fun _ => hS) ?_
          clear hK K
          try simp only [Act.put, gA, gS, gZ, sI, sZ, sS]
          refine wpAnyT_one (i := 4) rfl (by kernel_rfl) (by kernel_rfl) (fun K hK => ?_)
          go_simp
          have l4w := hBV33.size
          have l4g5 := h5V33.lt
          refine forget (p := fun y => K _ y) (fun X => Below V0.heap.size V0 X ∧ CellsAt X V33.heap.size 23 ZK ∧ CellsAt X V0d.heap.size 23 ZK) ⟨hBV33.alloc hBV33.size _, CellsAt.new V33 23 ZK, h5V33.alloc _⟩ ?_
          rintro V44 ⟨hBV44, h4V44, h5V44⟩
          replace hT := HTT.out V44 hBV44
          refine hK.out _ _ hT (fun _ => hS) ?_
          clear hK K
          try simp only [Act.put, gA, gS, gZ, sI, sZ, sS]
          refine wpAnyT_one (i := 6) rfl (by kernel_rfl) (by kernel_rfl) (fun K hK => ?_)
          refine wp_stvE 23 _ _ rfl _ rfl rfl h4V44 iSV (by rw [hSl, hZKl]) h1s ?_
          have h5x := h5V44.setRowM SV.toArray (g' := V33.heap.size) (by omega)
          have h4x := h4V44.setRow SV
          have hBx := below_setRow hBV44 (show V0.heap.size ≤ V33.heap.size by omega) SV.toArray
          replace hT := HTT.out _ hBx
          refine hK.out _ _ hT (fun _ => hS) ?_
          clear hK K
          try simp only [Act.put, gA, gS, gZ, sI, sZ, sS]
          refine wpAnyT_one (i := 7) rfl (by kernel_rfl) (by kernel_rfl) (fun K hK => ?_)
          refine wp_stvE 23 _ _ rfl _ rfl rfl h5x iTV (by rw [hTl, hZKl]) h1t ?_
          have h4y := h4x.setRowM TV.toArray (g' := V0d.heap.size) (by omega)
          have h5y := h5x.setRow TV
          have hBy := below_setRow hBx (show V0.heap.size ≤ V0d.heap.size by omega) TV.toArray
          replace hT := HTT.out _ hBy
          refine hK.out _ _ hT (fun _ => hS) ?_
          clear hK K
          try simp only [Act.put, gA, gS, gZ, sI, sZ, sS]
          refine wpAnyT_done (by kernel_rfl) ?_ _
          exact ⟨_, _, meetT (by kernel_rfl) ⟨hBy, h4y, h5y⟩⟩
        · go_simp
          have l3w := hBV21.size
          have l3g5 := h5V21.lt
          refine forget (p := fun y => K _ y) (fun X => Below V0.heap.size V0 X ∧ CellsAt X V21.heap.size 23 ZK ∧ CellsAt X V0d.heap.size 23 ZK) ⟨hBV21.alloc hBV21.size _, CellsAt.new V21 23 ZK, h5V21.alloc _⟩ ?_
          rintro V34 ⟨hBV34, h4V34, h5V34⟩
          replace hT := HTT.out V34 hBV34
          refine hK.out _ _ hT (fun _ => hS) ?_
          clear hK K
          try simp only [Act.put, gA, gS, gZ, sI, sZ, sS]
          refine wpAnyT_one (i := 3) rfl (by kernel_rfl) (by kernel_rfl) (fun K hK => ?_)
          refine wpx_call _ _ (by kernel_rfl) ((HS2.out V34 hBV34).mono ?_)
          rintro e V43 ⟨rfl, hbV43⟩
          refine ⟨_, rfl, ?_⟩
          have hBV43 := hBV34.trans (hbV43.mono hBV34.size)
          have h5V43 := h5V34.farM hbV43
          have h4V43 := h4V34.farM hbV43
          replace hT := HTT.out V43 hBV43
          refine hK.out _ _ hT (fun _ => hS) ?_
          clear hK K
          try simp only [Act.put, gA, gS, gZ, sI, sZ, sS]
          refine wpAnyT_one (i := 6) rfl (by kernel_rfl) (by kernel_rfl) (fun K hK => ?_)
          refine wp_stvE 23 _ _ rfl _ rfl rfl h4V43 iSV (by rw [hSl, hZKl]) h1s ?_
          have h5x := h5V43.setRowM SV.toArray (g' := V21.heap.size) (by omega)
          have h4x := h4V43.setRow SV
          have hBx := below_setRow hBV43 (show V0.heap.size ≤ V21.heap.size by omega) SV.toArray
          replace hT := HTT.out _ hBx
          refine hK.out _ _ hT (fun _ => hS) ?_
          clear hK K
          try simp only [Act.put, gA, gS, gZ, sI, sZ, sS]
          refine wpAnyT_one (i := 7) rfl (by kernel_rfl) (by kernel_rfl) (fun K hK => ?_)
          refine wp_stvE 23 _ _ rfl _ rfl rfl h5x iTV (by rw [hTl, hZKl]) h1t ?_
          have h4y := h4x.setRowM TV.toArray (g' := V0d.heap.size) (by omega)
          have h5y := h5x.setRow TV
          have hBy := below_setRow hBx (show V0.heap.size ≤ V0d.heap.size by omega) TV.toArray
          replace hT := HTT.out _ hBy
          refine hK.out _ _ hT (fun _ => hS) ?_
          clear hK K
          try simp only [Act.put, gA, gS, gZ, sI, sZ, sS]
          refine wpAnyT_done (by kernel_rfl) ?_ _
          exact ⟨_, _, meetT (by kernel_rfl) ⟨hBy, h4y, h5y⟩⟩
      · go_simp
        have l2w := hBV15.size
        have l2g5 := h5V15.lt
        refine forget (p := fun y => K _ y) (fun X => Below V0.heap.size V0 X ∧ CellsAt X V15.heap.size 23 ZK ∧ CellsAt X V0d.heap.size 23 ZK) ⟨hBV15.alloc hBV15.size _, CellsAt.new V15 23 ZK, h5V15.alloc _⟩ ?_
        rintro V24 ⟨hBV24, h4V24, h5V24⟩
        replace hT := HTT.out V24 hBV24
        refine hK.out _ _ hT (fun _ => hS) ?_
        clear hK K
        try simp only [Act.put, gA, gS, gZ, sI, sZ, sS]
        refine wpAnyT_one (i := 1) rfl (by kernel_rfl) (by kernel_rfl) (fun K hK => ?_)
        refine wpx_call _ _ (by kernel_rfl) ((HS1.out V24 hBV24).mono ?_)
        rintro e V31 ⟨rfl, hbV31⟩
        refine ⟨_, rfl, ?_⟩
        have hBV31 := hBV24.trans (hbV31.mono hBV24.size)
        have h5V31 := h5V24.farM hbV31
        have h4V31 := h4V24.farM hbV31
        replace hT := HTT.out V31 hBV31
        refine hK.out _ _ hT (fun _ => hS) ?_
        clear hK K
        try simp only [Act.put, gA, gS, gZ, sI, sZ, sS]
        refine wpAnyT_one (i := 3) rfl (by kernel_rfl) (by kernel_rfl) (fun K hK => ?_)
        refine wpx_call _ _ (by kernel_rfl) ((HS2.out V31 hBV31).mono ?_)
        rintro e V43 ⟨rfl, hbV43⟩
        refine ⟨_, rfl, ?_⟩
        have hBV43 := hBV31.trans (hbV43.mono hBV31.size)
        have h5V43 := h5V31.farM hbV43
        have h4V43 := h4V31.farM hbV43
        replace hT := HTT.out V43 hBV43
        refine hK.out _ _ hT (fun _ => hS) ?_
        clear hK K
        try simp only [Act.put, gA, gS, gZ, sI, sZ, sS]
        refine wpAnyT_one (i := 6) rfl (by kernel_rfl) (by kernel_rfl) (fun K hK => ?_)
        refine wp_stvE 23 _ _ rfl _ rfl rfl h4V43 iSV (by rw [hSl, hZKl]) h1s ?_
        have h5x := h5V43.setRowM SV.toArray (g' := V15.heap.size) (by omega)
        have h4x := h4V43.setRow SV
        have hBx := below_setRow hBV43 (show V0.heap.size ≤ V15.heap.size by omega) SV.toArray
        replace hT := HTT.out _ hBx
        refine hK.out _ _ hT (fun _ => hS) ?_
        clear hK K
        try simp only [Act.put, gA, gS, gZ, sI, sZ, sS]
        refine wpAnyT_one (i := 7) rfl (by kernel_rfl) (by kernel_rfl) (fun K hK => ?_)
        refine wp_stvE 23 _ _ rfl _ rfl rfl h5x iTV (by rw [hTl, hZKl]) h1t ?_
        have h4y := h4x.setRowM TV.toArray (g' := V0d.heap.size) (by omega)
        have h5y := h5x.setRow TV
        have hBy := below_setRow hBx (show V0.heap.size ≤ V0d.heap.size by omega) TV.toArray
        replace hT := HTT.out _ hBy
        refine hK.out _ _ hT (fun _ => hS) ?_
        clear hK K
        try simp only [Act.put, gA, gS, gZ, sI, sZ, sS]
        refine wpAnyT_done (by kernel_rfl) ?_ _
        exact ⟨_, _, meetT (by kernel_rfl) ⟨hBy, h4y, h5y⟩⟩
  rintro AC X ⟨g4, g5, u, rfl, hX, h4, h5⟩
  dsimp only
  clear HS1 HS2 hzvK hz1K hZKl HTT
  have r4 := h4.wholeM
  have r5 := h5.wholeM
  obtain ⟨hbX, hOp, hOq, hCc⟩ := HVV.out X hX
  have HEQ : Veil (∀ wx, (binOp .eql 23 (.agg SV.toArray) (.agg TV.toArray)).run Tryz.prog wx = .ok (.bool (decide (SS = TT))) wx) := ⟨fun wx => by
    have := eqlKey SS TT HOK.out.1 HOK.out.2 wx
    unfold row at this
    rw [HVS.out.1, HVS.out.2] at this
    exact this⟩
  have heq := HEQ.out
  by_cases hne : SS = TT
  · have hdd : decide (SS = TT) = true := by simp [hne]
    rw [hdd] at heq
    obtain rfl : np = 0 := by rw [← HNN.out.1, ← HL.out.1]; unfold foundT; rw [if_pos hne]; rfl
    obtain rfl : nq = 0 := by rw [← HNN.out.2, ← HL.out.2]; unfold foundT; rw [if_pos hne.symm]; rfl
    clear hne hdd HEQ hOp hOq hCc h4 h5 hX HNN HL
    go_wp2_with (first
      | (refine wpList_ldv rfl 23 (.tmp 16) rfl g4 0 rfl SV r4 uK rfl iSV ?_)
      | (refine wpList_ldv rfl 23 (.tmp 17) rfl g5 0 rfl TV r5 uK rfl iTV ?_))
    go_ret
    exact ⟨rfl, hbX⟩
  have hdd : decide (SS = TT) = false := by simp [hne]
  rw [hdd] at heq
  have hL1 : L1 = [(0, 1, SS, TT)] := by rw [← HL.out.1]; unfold foundT; rw [if_neg hne]
  have hL2 : L2 = [(0, 1, TT, SS)] := by rw [← HL.out.2]; unfold foundT; rw [if_neg (fun e => hne e.symm)]
  have hnp : np = 1 := by rw [← HNN.out.1, hL1]; rfl
  have hnq : nq = 1 := by rw [← HNN.out.2, hL2]; rfl
  subst hnp hnq
  have hp1 : okP (0, 1, SS, TT) := ⟨show (0 : Int) ≤ 0 ∧ (0 : Int) ≤ 255 from ⟨by decide, by decide⟩, show (0 : Int) ≤ 1 ∧ (1 : Int) ≤ 4294967295 from ⟨by decide, by decide⟩, HOK.out.1, HOK.out.2⟩
  have hp2 : okP (0, 1, TT, SS) := ⟨show (0 : Int) ≤ 0 ∧ (0 : Int) ≤ 255 from ⟨by decide, by decide⟩, show (0 : Int) ≤ 1 ∧ (1 : Int) ≤ 4294967295 from ⟨by decide, by decide⟩, HOK.out.2, HOK.out.1⟩
  rw [hL1] at hOp
  rw [hL2] at hOq
  obtain ⟨gp, rfl, -, rp⟩ := hOp.at_ 0 (by simp)
  obtain ⟨gq, rfl, -, rq⟩ := hOq.at_ 0 (by simp)
  have rp' : X.rangeAt gp 0 (proofC (0, 1, SS, TT)) := by simpa using rp
  have rq' : X.rangeAt gq 0 (proofC (0, 1, TT, SS)) := by simpa using rq
  have HBP1 : Veil (∀ wx, (Instr.build 47 #[(0, .int .u8 0), (1, .int .u32 1), (2, .agg SV.toArray), (3, .agg TV.toArray)]).run Tryz.prog wx = .ok (.agg (proofC (0, 1, SS, TT)).toArray) wx) := ⟨fun wx => by
    have := proofBuilt 0 1 SS TT HOK.out.1.1 HOK.out.2.1 wx
    unfold row at this
    rw [HVS.out.1, HVS.out.2] at this
    exact this⟩
  have HBP2 : Veil (∀ wx, (Instr.build 47 #[(0, .int .u8 0), (1, .int .u32 1), (2, .agg TV.toArray), (3, .agg SV.toArray)]).run Tryz.prog wx = .ok (.agg (proofC (0, 1, TT, SS)).toArray) wx) := ⟨fun wx => by
    have := proofBuilt 0 1 TT SS HOK.out.2.1 HOK.out.1.1 wx
    unfold row at this
    rw [HVS.out.1, HVS.out.2] at this
    exact this⟩
  have heqP1 : ∀ wx, (binOp .eql 47 (.agg (proofC (0, 1, SS, TT)).toArray) (.agg (proofC (0, 1, SS, TT)).toArray)).run Tryz.prog wx = .ok (.bool true) wx := fun wx => by
    have := eqlProof (0, 1, SS, TT) (0, 1, SS, TT) hp1 hp1 wx
    simpa using this
  have heqP2 : ∀ wx, (binOp .eql 47 (.agg (proofC (0, 1, TT, SS)).toArray) (.agg (proofC (0, 1, TT, SS)).toArray)).run Tryz.prog wx = .ok (.bool true) wx := fun wx => by
    have := eqlProof (0, 1, TT, SS) (0, 1, TT, SS) hp2 hp2 wx
    simpa using this
  have iP1 : (Tryz.prog.info? 47).map (·.size) = some (proofC (0, 1, SS, TT)).length := by rw [show (proofC (0, 1, SS, TT)).length = 66 by unfold proofC; simp [HOK.out.1.1, HOK.out.2.1]]; exact sizeProof
  have iP2 : (Tryz.prog.info? 47).map (·.size) = some (proofC (0, 1, TT, SS)).length := by rw [show (proofC (0, 1, TT, SS)).length = 66 by unfold proofC; simp [HOK.out.1.1, HOK.out.2.1]]; exact sizeProof
  have uP := Tryz.underlying47
  have HPR : Veil (∀ Y, Below X.heap.size X Y → Calls Tryz.prog 12 #[.pointer (some ⟨H1, 0, none⟩)] Y fun e w' => (∃ x c, e = .returned (.slice x 1 c)) ∧ Below Y.heap.size Y w') := ⟨fun Y hY => (chProofs_any s0 H1 s0 v1'' _ L1 Y (hCc.far hY)).mono fun e w' ⟨v', he, ho, hb'⟩ => by
    obtain ⟨x, c, rfl⟩ := ho.isSlice
    rw [hL1] at he
    exact ⟨⟨x, c, he⟩, hb'⟩⟩
  have HYY : Veil (∀ Y, Below X.heap.size X Y → Y.rangeAt gp 0 (proofC (0, 1, SS, TT)) ∧ Y.rangeAt gq 0 (proofC (0, 1, TT, SS)) ∧ Y.rangeAt g4 0 SV ∧ Y.rangeAt g5 0 TV ∧ Below w.heap.size w Y) := ⟨fun Y hY => ⟨rangeAt_below rp' hY, rangeAt_below rq' hY, (h4.farM hY).wholeM, (h5.farM hY).wholeM, hbX.trans (hY.mono hbX.size)⟩⟩
  generalize proofC (0, 1, SS, TT) = PC1 at HBP1 heqP1 iP1 HYY
  generalize proofC (0, 1, TT, SS) = PC2 at HBP2 heqP2 iP2 HYY
  clear hOp hOq hCc h4 h5 hX HNN HL hL1 hL2 rp rq rp' rq' hne hdd HEQ hbX HVV hp1 hp2
  have HE1 := Veil.mk heqP1
  have HE2 := Veil.mk heqP2
  have HI12 := Veil.mk (And.intro iP1 iP2)
  have HUP := Veil.mk uP
  clear heqP1 heqP2 iP1 iP2 uP
  go_wp2_with (first
    | (refine wpList_ldv rfl 23 (.tmp 16) rfl g4 0 rfl SV r4 uK rfl iSV ?_)
    | (refine wpList_ldv rfl 23 (.tmp 17) rfl g5 0 rfl TV r5 uK rfl iTV ?_))
  clear heq r4 r5
  have heqP1 := HE1.out
  have heqP2 := HE2.out
  obtain ⟨iP1, iP2⟩ := HI12.out
  have uP := HUP.out
  have hX0 : Below X.heap.size X X.drew := (Below.refl _ X).drew
  refine wp_region_gateT (fun w' => w'.rangeAt gp 0 PC1 ∧ w'.rangeAt gq 0 PC2 ∧ w'.rangeAt g4 0 SV ∧ w'.rangeAt g5 0 TV ∧ Below w.heap.size w w') (fun _ => True) 99 (by kernel_rfl) ?_
  have hT : (fun w' : World => w'.rangeAt gp 0 PC1 ∧ w'.rangeAt gq 0 PC2 ∧ w'.rangeAt g4 0 SV ∧ w'.rangeAt g5 0 TV ∧ Below w.heap.size w w') X.drew := HYY.out X.drew hX0
  have hS := trivial
  refine wpAnyT_held (i := 0) (v := ?_) rfl (by kernel_rfl) (by kernel_rfl) (by kernel_rfl) (fun _ _ _ h => h) (by kernel_rfl) hT (fun _ => hS) (by kernel_rfl) ?_ ?_
  rotate_left
  · intro wx hSw; go_split_ands; go_simp; try with_reducible rfl
  simp only [Act.put, gA, gS, gZ, sI, sZ, sS]
  refine wpAnyT_held (i := 1) (v := ?_) rfl (by kernel_rfl) (by kernel_rfl) (by kernel_rfl) (fun _ _ _ h => h) (by kernel_rfl) hT (fun _ => hS) (by kernel_rfl) ?_ ?_
  rotate_left
  · intro wx hSw; go_split_ands; go_simp; try with_reducible rfl
  simp only [Act.put, gA, gS, gZ, sI, sZ, sS]
  refine wpAnyT_held (i := 2) (v := ?_) rfl (by kernel_rfl) (by kernel_rfl) (by kernel_rfl) (fun _ _ _ h => h) (by kernel_rfl) hT (fun _ => hS) (by kernel_rfl) ?_ ?_
  rotate_left
  · intro wx hSw; go_split_ands; go_simp; try with_reducible rfl
  simp only [Act.put, gA, gS, gZ, sI, sZ, sS]
  refine wpAnyT_held (i := 3) (v := ?_) rfl (by kernel_rfl) (by kernel_rfl) (by kernel_rfl) (fun _ _ _ h => h) (by kernel_rfl) hT (fun _ => hS) (by kernel_rfl) ?_ ?_
  rotate_left
  · intro wx hSw; go_split_ands; go_simp; try with_reducible rfl
  simp only [Act.put, gA, gS, gZ, sI, sZ, sS]
  refine wpAnyT_held (i := 4) (v := ?_) rfl (by kernel_rfl) (by kernel_rfl) (by kernel_rfl) (fun _ _ _ h => h) (by kernel_rfl) hT (fun _ => hS) (by kernel_rfl) ?_ ?_
  rotate_left
  · intro wx hSw; go_split_ands; go_simp; try with_reducible rfl
  simp only [Act.put, gA, gS, gZ, sI, sZ, sS]
  refine wpAnyT_held (i := 5) (v := ?_) rfl (by kernel_rfl) (by kernel_rfl) (by kernel_rfl) (fun _ _ _ h => h) (by kernel_rfl) hT (fun _ => hS) (by kernel_rfl) ?_ ?_
  rotate_left
  · intro wx hSw; go_split_ands; go_simp; try with_reducible rfl
  simp only [Act.put, gA, gS, gZ, sI, sZ, sS]
  refine wpAnyT_held (i := 6) (v := ?_) rfl (by kernel_rfl) (by kernel_rfl) (by kernel_rfl) (fun _ _ _ h => h) (by kernel_rfl) hT (fun _ => hS) (by kernel_rfl) ?_ ?_
  rotate_left
  · intro wx hSw; go_split_ands; go_simp; try with_reducible rfl
  simp only [Act.put, gA, gS, gZ, sI, sZ, sS]
  refine wpAnyT_held (i := 7) (v := ?_) rfl (by kernel_rfl) (by kernel_rfl) (by kernel_rfl) (fun _ _ _ h => h) (by kernel_rfl) hT (fun _ => hS) (by kernel_rfl) ?_ ?_
  rotate_left
  · intro wx hSw; go_split_ands; go_simp; try with_reducible rfl
  simp only [Act.put, gA, gS, gZ, sI, sZ, sS]
  refine wpAnyT_held (i := 8) (v := ?_) rfl (by kernel_rfl) (by kernel_rfl) (by kernel_rfl) (fun _ _ _ h => h) (by kernel_rfl) hT (fun _ => hS) (by kernel_rfl) ?_ ?_
  rotate_left
  · intro wx hSw; go_split_ands; go_simp; try with_reducible rfl
  simp only [Act.put, gA, gS, gZ, sI, sZ, sS]
  refine wpAnyT_held (i := 9) (v := ?_) rfl (by kernel_rfl) (by kernel_rfl) (by kernel_rfl) (fun _ _ _ h => h) (by kernel_rfl) hT (fun _ => hS) (by kernel_rfl) ?_ ?_
  rotate_left
  · intro wx hSw; go_split_ands; go_simp; try with_reducible rfl
  simp only [Act.put, gA, gS, gZ, sI, sZ, sS]
  refine wpAnyT_held (i := 10) (v := ?_) rfl (by kernel_rfl) (by kernel_rfl) (by kernel_rfl) (fun _ _ _ h => h) (by kernel_rfl) hT (fun _ => hS) (by kernel_rfl) ?_ ?_
  rotate_left
  · intro wx hSw; go_split_ands; go_simp; try with_reducible rfl
  simp only [Act.put, gA, gS, gZ, sI, sZ, sS]
  refine wpAnyT_load (i := 11) (dst := some 95) (ty := 47) (x := .tmp 94) (b := gp) (o := (0)) (cs := PC1) (by kernel_rfl) (by kernel_rfl) (by kernel_rfl) (by kernel_rfl) (by kernel_rfl) (fun _ _ _ h => h) (by kernel_rfl) hT (fun _ => hS) (by kernel_rfl) (fun _ h => h.1) uP rfl iP1 ?_
  simp only [Act.put, gA, gS, gZ, sI, sZ, sS]
  refine wpAnyT_load (i := 12) (dst := some 96) (ty := 23) (x := .tmp 16) (b := g4) (o := (0)) (cs := SV) (by kernel_rfl) (by kernel_rfl) (by kernel_rfl) (by kernel_rfl) (by kernel_rfl) (fun _ _ _ h => h) (by kernel_rfl) hT (fun _ => hS) (by kernel_rfl) (fun _ h => h.2.2.1) uK rfl iSV ?_
  simp only [Act.put, gA, gS, gZ, sI, sZ, sS]
  refine wpAnyT_load (i := 13) (dst := some 97) (ty := 23) (x := .tmp 17) (b := g5) (o := (0)) (cs := TV) (by kernel_rfl) (by kernel_rfl) (by kernel_rfl) (by kernel_rfl) (by kernel_rfl) (fun _ _ _ h => h) (by kernel_rfl) hT (fun _ => hS) (by kernel_rfl) (fun _ h => h.2.2.2.1) uK rfl iTV ?_
  simp only [Act.put, gA, gS, gZ, sI, sZ, sS]
  refine wpAnyT_held (i := 14) (v := .agg PC1.toArray) rfl (by kernel_rfl) (by kernel_rfl) (by kernel_rfl) (fun _ _ _ h => h) (by kernel_rfl) hT (fun _ => hS) (by kernel_rfl) (fun wx h => execBuildT 47 _ rfl #[(0, .int .u8 0), (1, .int .u32 1), (2, .agg SV.toArray), (3, .agg TV.toArray)] (by kernel_rfl) (HBP1.out wx)) ?_
  simp only [Act.put, gA, gS, gZ, sI, sZ, sS]
  refine wpAnyT_held (i := 15) (v := .bool true) rfl (by kernel_rfl) (by kernel_rfl) (by kernel_rfl) (fun _ _ _ h => h) (by kernel_rfl) hT (fun _ => hS) (by kernel_rfl) ?_ ?_
  · intro wx hSw; go_split_ands; go_simp
  simp only [Act.put, gA, gS, gZ, sI, sZ, sS]
  refine wpAnyT_held (i := 16) (v := ?_) rfl (by kernel_rfl) (by kernel_rfl) (by kernel_rfl) (fun _ _ _ h => h) (by kernel_rfl) hT (fun _ => hS) (by kernel_rfl) ?_ ?_
  rotate_left
  · intro wx hSw; go_split_ands; go_simp; try with_reducible rfl
  simp only [Act.put, gA, gS, gZ, sI, sZ, sS]
  refine wpAnyT_held (i := 17) (v := ?_) rfl (by kernel_rfl) (by kernel_rfl) (by kernel_rfl) (fun _ _ _ h => h) (by kernel_rfl) hT (fun _ => hS) (by kernel_rfl) ?_ ?_
  rotate_left
  · intro wx hSw; go_split_ands; go_simp; try with_reducible rfl
  simp only [Act.put, gA, gS, gZ, sI, sZ, sS]
  refine wpAnyT_held (i := 18) (v := ?_) rfl (by kernel_rfl) (by kernel_rfl) (by kernel_rfl) (fun _ _ _ h => h) (by kernel_rfl) hT (fun _ => hS) (by kernel_rfl) ?_ ?_
  rotate_left
  · intro wx hSw; go_split_ands; go_simp; try with_reducible rfl
  simp only [Act.put, gA, gS, gZ, sI, sZ, sS]
  refine wpAnyT_held (i := 19) (v := ?_) rfl (by kernel_rfl) (by kernel_rfl) (by kernel_rfl) (fun _ _ _ h => h) (by kernel_rfl) hT (fun _ => hS) (by kernel_rfl) ?_ ?_
  rotate_left
  · intro wx hSw; go_split_ands; go_simp; try with_reducible rfl
  simp only [Act.put, gA, gS, gZ, sI, sZ, sS]
  refine wpAnyT_load (i := 20) (dst := some 104) (ty := 47) (x := .tmp 103) (b := gq) (o := (0)) (cs := PC2) (by kernel_rfl) (by kernel_rfl) (by kernel_rfl) (by kernel_rfl) (by kernel_rfl) (fun _ _ _ h => h) (by kernel_rfl) hT (fun _ => hS) (by kernel_rfl) (fun _ h => h.2.1) uP rfl iP2 ?_
  simp only [Act.put, gA, gS, gZ, sI, sZ, sS]
  refine wpAnyT_load (i := 21) (dst := some 105) (ty := 23) (x := .tmp 17) (b := g5) (o := (0)) (cs := TV) (by kernel_rfl) (by kernel_rfl) (by kernel_rfl) (by kernel_rfl) (by kernel_rfl) (fun _ _ _ h => h) (by kernel_rfl) hT (fun _ => hS) (by kernel_rfl) (fun _ h => h.2.2.2.1) uK rfl iTV ?_
  simp only [Act.put, gA, gS, gZ, sI, sZ, sS]
  refine wpAnyT_load (i := 22) (dst := some 106) (ty := 23) (x := .tmp 16) (b := g4) (o := (0)) (cs := SV) (by kernel_rfl) (by kernel_rfl) (by kernel_rfl) (by kernel_rfl) (by kernel_rfl) (fun _ _ _ h => h) (by kernel_rfl) hT (fun _ => hS) (by kernel_rfl) (fun _ h => h.2.2.1) uK rfl iSV ?_
  simp only [Act.put, gA, gS, gZ, sI, sZ, sS]
  refine wpAnyT_held (i := 23) (v := .agg PC2.toArray) rfl (by kernel_rfl) (by kernel_rfl) (by kernel_rfl) (fun _ _ _ h => h) (by kernel_rfl) hT (fun _ => hS) (by kernel_rfl) (fun wx h => execBuildT 47 _ rfl #[(0, .int .u8 0), (1, .int .u32 1), (2, .agg TV.toArray), (3, .agg SV.toArray)] (by kernel_rfl) (HBP2.out wx)) ?_
  simp only [Act.put, gA, gS, gZ, sI, sZ, sS]
  refine wpAnyT_held (i := 24) (v := .bool true) rfl (by kernel_rfl) (by kernel_rfl) (by kernel_rfl) (fun _ _ _ h => h) (by kernel_rfl) hT (fun _ => hS) (by kernel_rfl) ?_ ?_
  · intro wx hSw; go_split_ands; go_simp
  simp only [Act.put, gA, gS, gZ, sI, sZ, sS]
  refine wpAnyT_held (i := 25) (v := ?_) rfl (by kernel_rfl) (by kernel_rfl) (by kernel_rfl) (fun _ _ _ h => h) (by kernel_rfl) hT (fun _ => hS) (by kernel_rfl) ?_ ?_
  rotate_left
  · intro wx hSw; go_split_ands; go_simp; try with_reducible rfl
  simp only [Act.put, gA, gS, gZ, sI, sZ, sS]
  refine wpAnyT_held (i := 26) (v := ?_) rfl (by kernel_rfl) (by kernel_rfl) (by kernel_rfl) (fun _ _ _ h => h) (by kernel_rfl) hT (fun _ => hS) (by kernel_rfl) ?_ ?_
  rotate_left
  · intro wx hSw; go_split_ands; go_simp; try with_reducible rfl
  simp only [Act.put, gA, gS, gZ, sI, sZ, sS]
  refine wpAnyT_held (i := 27) (v := ?_) rfl (by kernel_rfl) (by kernel_rfl) (by kernel_rfl) (fun _ _ _ h => h) (by kernel_rfl) hT (fun _ => hS) (by kernel_rfl) ?_ ?_
  rotate_left
  · intro wx hSw; go_split_ands; go_simp; try with_reducible rfl
  simp only [Act.put, gA, gS, gZ, sI, sZ, sS]
  refine wpAnyT_one (i := 28) rfl (by kernel_rfl) (by kernel_rfl) (fun K hK => ?_)
  refine wpx_call _ _ (by kernel_rfl) ((HPR.out _ hX0).mono ?_)
  rintro e wP ⟨⟨x3, c3, rfl⟩, hbP⟩
  refine ⟨_, rfl, ?_⟩
  have hXP := hX0.trans (hbP.mono hX0.size)
  replace hT := HYY.out wP hXP
  refine hK.out _ _ hT (fun _ => hS) ?_
  clear hK K
  try simp only [Act.put, gA, gS, gZ, sI, sZ, sS]
  refine wpAnyT_held (i := 29) (v := ?_) rfl (by kernel_rfl) (by kernel_rfl) (by kernel_rfl) (fun _ _ _ h => h) (by kernel_rfl) hT (fun _ => hS) (by kernel_rfl) ?_ ?_
  rotate_left
  · intro wx hSw; go_split_ands; go_simp; try with_reducible rfl
  simp only [Act.put, gA, gS, gZ, sI, sZ, sS]
  refine wpAnyT_held (i := 30) (v := ?_) rfl (by kernel_rfl) (by kernel_rfl) (by kernel_rfl) (fun _ _ _ h => h) (by kernel_rfl) hT (fun _ => hS) (by kernel_rfl) ?_ ?_
  rotate_left
  · intro wx hSw; go_split_ands; go_simp; try with_reducible rfl
  simp only [Act.put, gA, gS, gZ, sI, sZ, sS]
  refine wpAnyT_held (i := 31) (v := ?_) rfl (by kernel_rfl) (by kernel_rfl) (by kernel_rfl) (fun _ _ _ h => h) (by kernel_rfl) hT (fun _ => hS) (by kernel_rfl) ?_ ?_
  rotate_left
  · intro wx hSw; go_split_ands; go_simp; try with_reducible rfl
  simp only [Act.put, gA, gS, gZ, sI, sZ, sS]
  refine wpAnyT_held (i := 32) (v := ?_) rfl (by kernel_rfl) (by kernel_rfl) (by kernel_rfl) (fun _ _ _ h => h) (by kernel_rfl) hT (fun _ => hS) (by kernel_rfl) ?_ ?_
  rotate_left
  · intro wx hSw; go_split_ands; go_simp; try with_reducible rfl
  simp only [Act.put, gA, gS, gZ, sI, sZ, sS]
  refine wpAnyT_done (by kernel_rfl) ?_ _
  have hBe := hT.2.2.2.2
  clear hT hS HYY HPR
  go_wp2
  go_ret
  exact ⟨rfl, hBe⟩
theorem topTales_walkI (seed : List Int) (hs : seed.length = 32) (n m : Int) (hn : 0 ≤ n ∧ n ≤ 255) (hm : 0 ≤ m ∧ m ≤ 255) (w : World) (hKT : S.KTab w) (hBT : BTab w) :
    Calls Tryz.prog 3 #[.agg (row .u8 seed), .int .u8 n, .int .u8 m] w fun e w' => e = .returned (.bool true) ∧ Below w.heap.size w w' := by
  obtain ⟨x, rfl⟩ := Int.eq_ofNat_of_zero_le hn.1
  obtain ⟨y, rfl⟩ := Int.eq_ofNat_of_zero_le hm.1
  exact topTales_walk seed hs x y (by have := hn.2; omega) (by have := hm.2; omega) w hKT hBT
end Go.Proofs.YtlhajphjppjlgaaGreatDoor
