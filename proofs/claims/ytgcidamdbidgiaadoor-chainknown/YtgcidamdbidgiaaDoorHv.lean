/- chain: 'live' of the statements; the calls on no chain. -/
import Derived.Test.YtgcidamdbidgiaaDoorHe
import Derived.Test.YtgcidamdbidgiaaDoorDr0
namespace Go.Proofs.YtgcidamdbidgiaaDoor
open Go.RowKit
set_option maxRecDepth 100000
set_option linter.unusedSimpArgs false

def frA : Fr := ⟨2, 1, 0, 0, zk, .slice none 0 0, .slice none 0 0, zk⟩
def frB (g : Nat) : Fr := ⟨2, 1, 0, 0, zk, .slice none 0 0, .slice (some ⟨g, 0, none⟩) 1 1, zk⟩
def frZ0 : Fr := ⟨0, 0, 0, 0, zk, .slice none 0 0, .slice none 0 0, zk⟩
theorem zeroFrameH : ∃ Z : List Value, (∀ wx, (zeroValue 38).run Tryd.prog wx = .ok (.agg Z.toArray) wx) ∧ ¬ Z.toArray = #[] ∧ Z = frZ0.cells :=
  ⟨_, zero_ofH (by kernel_rfl), by intro h; have := congrArg Array.size h; revert this; decide, rfl⟩
theorem frA_built (wx : World) : (Instr.build 38 #[(0, .int .u8 2), (1, .int .u32 1)]).run Tryd.prog wx = .ok (.agg frA.cells.toArray) wx := run_build wx _ _ _ (by kernel_rfl)
theorem frB_built (g : Nat) (wx : World) : (Instr.build 38 #[(0, .int .u8 2), (1, .int .u32 1), (5, .slice (some ⟨g, 0, none⟩) 1 1)]).run Tryd.prog wx = .ok (.agg (frB g).cells.toArray) wx := run_build wx _ _ _ (by kernel_rfl)
theorem sumsAB : S.sumL (frameL frA [] []) ≠ S.sumL (frameL (frB 0) [] [1]) := by
  have h1 : ((S.sumL (frameL frA [] []))[0]?.getD 0 == (S.sumL (frameL (frB 0) [] [1]))[0]?.getD 0) = false := by kernel_rfl
  intro e
  rw [e] at h1
  simp at h1
theorem frIn_A (W : World) : FrIn W frA none 0 0 [] none 0 0 [] := ⟨rfl, rfl, rfl, rfl, ⟨rfl, by omega, by omega, fun _ => rfl, (fun e he => by cases he), .inl rfl⟩, bytes_nil W, ⟨by decide, by decide, by decide, by decide, okK_zk.2, okK_zk.2⟩, fun e he => (by cases he), fun x hx => (by cases hx)⟩
theorem frIn_B (W : World) (g : Nat) (h : Holds W g .u8 5 [1]) : FrIn W (frB g) none 0 0 [] (some ⟨g, 0, none⟩) 1 1 [1] := ⟨rfl, rfl, rfl, rfl, ⟨rfl, by omega, by omega, fun _ => rfl, (fun e he => by cases he), .inl rfl⟩, h.bytes rfl (by decide), ⟨by show (0 : Int) ≤ 2 ∧ (2 : Int) ≤ 255; decide, by show (0 : Int) ≤ 1 ∧ (1 : Int) ≤ 4294967295; decide, by show (0 : Int) ≤ 0 ∧ (0 : Int) ≤ 255; decide, by show (0 : Int) ≤ 0 ∧ (0 : Int) ≤ 4294967295; decide, okK_zk.2, okK_zk.2⟩, fun e he => (by cases he), fun x hx => (by rw [List.mem_singleton.1 hx]; decide)⟩
theorem ChainTo.out {w w' : World} {base H b : Nat} {v v' : Value} {T : Sms} {P : List Pf} (h : ChainTo w w' base H b v v' T P) (g : Nat) (hg : g < w.heap.size) (hn : ¬ chainP H b v g) : ¬ chainP H b v' g := by
  rintro (e | e | e)
  · exact hn (.inl e)
  · exact hn (.inr (.inl e))
  · rcases h.own with q | ⟨g', q, hg'⟩
    · rw [q] at e; exact hn (.inr (.inr e))
    · rw [q] at e; cases e; omega
theorem lookA (s : List Int) : lookN noS 2 1 zk s = 0 := by unfold lookN; simp [cnt, atN, noS]
theorem lookAA (s : List Int) : lookN (addS noS 2 s) 2 1 zk s = 5 := by unfold lookN; simp [cnt, atN, addS, noS]
theorem lookAB (s t : List Int) (h : s ≠ t) : lookN (addS noS 2 s) 2 1 zk t = 11 := by unfold lookN; simp [cnt, atN, addS, noS, h]
theorem headA (s : List Int) : headOf (addS noS 2 s) 2 = (1, s) := by simp [headOf, cnt, atN, addS, noS]
set_option maxHeartbeats 8000000 in
theorem live_any (w : World) (hKT : S.KTab w) :
    Calls Tryd.prog 12 #[] w fun e w' => e = .returned (.bool true) ∧ Below w.heap.size w w' := by
  have hN := chNew_any w
  obtain ⟨Z, hzv, hz1, hZ⟩ := zeroFrameH
  have hZl : Z.length = 70 := by rw [hZ]; rfl
  obtain ⟨SA, hSA⟩ : ∃ q, fsum frA 0 0 [] [] = q := ⟨_, rfl⟩
  obtain ⟨SB, hSB⟩ : ∃ q, S.sumL (frameL (frB 0) [] [1]) = q := ⟨_, rfl⟩
  have hAB : SA ≠ SB := by rw [← hSA, ← hSB]; exact sumsAB
  have HKT : Veil (∀ W, Below w.heap.size w W → S.KTab W) := ⟨fun W hb => hKT.below hb⟩
  have HADA : Veil (∀ (W : World) v T P, Below w.heap.size w W → ChainAt W w.heap.size (w.heap.size + 1) w.heap.size v T P → Calls Tryd.prog 15 #[.pointer (some ⟨w.heap.size + 1, 0, none⟩), .agg frA.cells.toArray] W fun e w' => e = .returned (.int .i64 (lookN T 2 1 zk SA)) ∧ ∃ v', ChainTo W w' w.heap.size (w.heap.size + 1) w.heap.size v v' (addSt T P 2 1 zk SA).1 (addSt T P 2 1 zk SA).2) := ⟨fun W v T P hb hC => by
    have := add_any w.heap.size (w.heap.size + 1) w.heap.size v T P W frA none 0 0 [] none 0 0 [] 2 1 hC (frIn_A W) (HKT.out W hb) rfl rfl hb.size
    rw [hSA] at this
    exact this⟩
  have HADB : Veil (∀ (W : World) (g : Nat) v T P, Below w.heap.size w W → ChainAt W w.heap.size (w.heap.size + 1) w.heap.size v T P → Holds W g .u8 5 [1] → Calls Tryd.prog 15 #[.pointer (some ⟨w.heap.size + 1, 0, none⟩), .agg (frB g).cells.toArray] W fun e w' => e = .returned (.int .i64 (lookN T 2 1 zk SB)) ∧ ∃ v', ChainTo W w' w.heap.size (w.heap.size + 1) w.heap.size v v' (addSt T P 2 1 zk SB).1 (addSt T P 2 1 zk SB).2) := ⟨fun W g v T P hb hC hg => by
    have := add_any w.heap.size (w.heap.size + 1) w.heap.size v T P W (frB g) none 0 0 [] (some ⟨g, 0, none⟩) 1 1 [1] 2 1 hC (frIn_B W g hg) (HKT.out W hb) rfl rfl hb.size
    have e : fsum (frB g) 0 1 [] [1] = SB := by rw [← hSB]; rfl
    rw [e] at this
    exact this⟩
  have hSok : okK SA := by rw [← hSA]; exact fsum_ok _ _ _ _ _
  have hT1 := okS_no.add 2 SA hSok (by decide)
  have hix : ∀ wx, (Instr.index 41 (.agg (headsC (headsOf (addS noS 2 SA))).toArray) (.int .i64 2)).run Tryd.prog wx = .ok (.agg (headC (1, SA)).toArray) wx := fun wx => by
    have := run_index_mid wx 41 40 8 33 _ (headsC (headsOf (addS noS 2 SA))) 2 Tryd.underlying41 Tryd.underlying40 rfl sizeHead1 (by omega)
    have hp := headsC_part (headsOf (addS noS 2 SA)) hT1.heads_ok 2 (by rw [headsOf_length]; omega) []
    rw [List.append_nil, headsOf_get _ 2 (by omega), headA] at hp
    rw [hp] at this
    exact this
  have hfd : ∀ wx, (Instr.field 40 (.agg (headC (1, SA)).toArray) 0).run Tryd.prog wx = .ok (.int .u32 1) wx := fun wx => by kernel_rfl
  have HIX := Veil.mk (And.intro hix hfd)
  clear hSA hSB hKT hix hfd
  have l1 := lookA SA
  have l2 := lookAA SA
  have l3 := lookAB SA SB hAB
  have hd := headA SA
  have HS1 : Veil ((addSt noS [] 2 1 zk SA) = (addS noS 2 SA, [])) := ⟨by unfold addSt; rw [if_pos l1]⟩
  have HS2 : Veil ((addSt (addS noS 2 SA) [] 2 1 zk SA) = (addS noS 2 SA, [])) := ⟨by unfold addSt; rw [if_neg (by rw [l2]; decide), if_neg (by rw [l2]; decide)]⟩
  have HS3 : Veil ((addSt (addS noS 2 SA) [] 2 1 zk SB) = (addS noS 2 SA, [proofN (addS noS 2 SA) 2 1 zk SB])) := ⟨by unfold addSt; rw [if_neg (by rw [l3]; decide), if_pos l3]; rfl⟩
  have HL := Veil.mk (And.intro l1 (And.intro l2 l3))
  have HHD := Veil.mk hd
  have hAl : frA.cells.length = 70 := rfl
  have h1A : ∀ v ∈ frA.cells, v.oneCell' = true := by decide
  have HBA := Veil.mk frA_built
  have HBB := Veil.mk frB_built
  have hBl : ∀ g, (frB g).cells.length = 70 := fun g => rfl
  have h1B : ∀ g, ∀ v ∈ (frB g).cells, v.oneCell' = true := fun g v hv => by
    simp only [frB, Fr.cells, dotC, List.mem_append, List.mem_cons, List.not_mem_nil, or_false, List.mem_map] at hv
    rcases hv with ((((rfl | rfl) | rfl | rfl) | ⟨x, _, rfl⟩) | rfl | rfl) | ⟨x, _, rfl⟩ <;> rfl
  have HBL := Veil.mk (And.intro hBl h1B)
  clear hZ l1 l2 l3 hd hBl h1B hAB
  obtain ⟨CA, hCA⟩ : ∃ q, frA.cells = q := ⟨_, rfl⟩
  rw [hCA] at HADA hAl h1A HBA
  clear hCA
  have iA : (Tryd.prog.info? 38).map (·.size) = some CA.length := by rw [hAl]; exact sizeFrame
  go_enter Tryd.func12, Tryd.ntmps12
  go_upto_region 2 with (go_at_call 19; refine hN.mono ?_; rintro e w1 ⟨rfl, hC1, hs1, hb1⟩)
  have hA := CellsAt.new w1 38 Z
  have hba : Below w1.heap.size w1 (w1.alloc (.cells Z.toArray 38)) := (Below.refl _ _).alloc (Nat.le_refl _) _
  have hb2 : Below w1.heap.size w1 ((w1.alloc (.cells Z.toArray 38)).setRow w1.heap.size CA.toArray) := below_setRow hba (Nat.le_refl _) _
  have hC2 := hC1.far hb2
  have hB2 := hb1.trans (hb2.mono hb1.size)
  rw [hs1] at hA hC2 hB2
  clear hb2 hba
  go_upto_region 3 with (first
    | (refine wpList_bldx rfl 38 _ rfl #[(0, .int .u8 2), (1, .int .u32 1)] (by first | rfl | kernel_rfl) _ (HBA.out _) ?_)
    | (refine wpList_stv rfl 38 _ _ rfl _ rfl rfl hA iA (by rw [hAl, hZl]) h1A ?_))
  have hA2 := hA.setRow CA
  refine forget (p := fun y => Code.wp _ _ _ _ y) (fun W => Below w.heap.size w W ∧ ChainAt W w.heap.size (w.heap.size + 1) w.heap.size (.slice none 0 0) noS [] ∧ CellsAt W (w.heap.size + 2) 38 CA) ⟨hB2, hC2, hA2⟩ ?_
  clear hA2 hB2 hC2 hA hC1 hb1 hN hs1
  rintro W ⟨hB, hC, hA⟩
  have hgg := Holds.new W .u8 5 [1]
  have hb0 : Below W.heap.size W (W.alloc (.cells (row .u8 [1]) 5)) := (Below.refl _ _).alloc (Nat.le_refl _) _
  have hBB := CellsAt.new (W.alloc (.cells (row .u8 [1]) 5)) 38 Z
  rw [World.size_alloc] at hBB
  obtain ⟨hBl, h1B⟩ := HBL.out
  have HBB2 := Veil.mk (fun wx => HBB.out W.heap.size wx)
  have hBl := hBl W.heap.size
  have h1B := h1B W.heap.size
  have HADB2 := Veil.mk (fun W1 => HADB.out W1 W.heap.size)
  obtain ⟨CB, hCB⟩ : ∃ q, (frB W.heap.size).cells = q := ⟨_, rfl⟩
  rw [hCB] at HBB2 hBl h1B HADB2
  clear hCB HBB HADB HBL
  have iB : (Tryd.prog.info? 38).map (·.size) = some CB.length := by rw [hBl]; exact sizeFrame
  go_upto_region 4 with (first
    | (refine wpList_bldx rfl 38 _ rfl #[(0, .int .u8 2), (1, .int .u32 1), (5, .slice (some ⟨W.heap.size, 0, none⟩) 1 1)] (by first | rfl | kernel_rfl) _ (HBB2.out _) ?_)
    | (refine wpList_stv rfl 38 _ _ rfl _ rfl rfl hBB iB (by rw [hBl, hZl]) h1B ?_))
  have hlA := hA.lt
  have hb4 : Below W.heap.size W (((W.alloc (.cells (row .u8 [1]) 5)).alloc (.cells Z.toArray 38)).setRow (W.heap.size + 1) CB.toArray) := below_setRow (hb0.alloc hb0.size _) (by omega) _
  have hB4 := hB.trans (hb4.mono hB.size)
  have hg4 : Holds (((W.alloc (.cells (row .u8 [1]) 5)).alloc (.cells Z.toArray 38)).setRow (W.heap.size + 1) CB.toArray) W.heap.size .u8 5 [1] := (hgg.alloc _).setRowOther _ (by omega)
  refine forget (p := fun y => Code.wp _ _ _ _ y) (fun V => Below w.heap.size w V ∧ ChainAt V w.heap.size (w.heap.size + 1) w.heap.size (.slice none 0 0) noS [] ∧ CellsAt V (w.heap.size + 2) 38 CA ∧ CellsAt V (W.heap.size + 1) 38 CB ∧ Holds V W.heap.size .u8 5 [1]) ⟨hB4, hC.far hb4, hA.farM hb4, hBB.setRow CB, hg4⟩ ?_
  clear hb4 hB4 hg4 hBB hb0 hgg hA hC hB HBA HBB2
  obtain ⟨G, hG⟩ : ∃ q, W.heap.size = q := ⟨_, rfl⟩
  rw [hG] at hlA HADB2 ⊢
  clear hG
  clear W
  rintro V ⟨hB, hC, hA, hBb, hg⟩
  have OUT : Veil (∀ g, w.heap.size + 2 ≤ g → ¬ chainP (w.heap.size + 1) w.heap.size (.slice none 0 0) g) := ⟨fun g hg => by
    rintro (e | e | e)
    · omega
    · omega
    · cases e⟩
  have ad1 := HADA.out V (.slice none 0 0) noS [] hB hC
  rw [HL.out.1, HS1.out] at ad1
  have AD2 : Veil (∀ w2 v2, ChainTo V w2 w.heap.size (w.heap.size + 1) w.heap.size (.slice none 0 0) v2 (addS noS 2 SA) [] → (Below w.heap.size w w2 ∧ w2.rangeAt (w.heap.size + 2) 0 CA ∧ ∀ g, w.heap.size + 2 ≤ g → g < V.heap.size → w2.heap[g]? = V.heap[g]? ∧ ¬ chainP (w.heap.size + 1) w.heap.size v2 g) ∧ Calls Tryd.prog 15 #[.pointer (some ⟨w.heap.size + 1, 0, none⟩), .agg CA.toArray] w2 fun e w' => e = .returned (.int .i64 5) ∧ ∃ v', ChainTo w2 w' w.heap.size (w.heap.size + 1) w.heap.size v2 v' (addS noS 2 SA) []) := ⟨fun w2 v2 h => by
    have hb := h.below hC hB.size
    have hB2 := hB.trans hb
    have := HADA.out w2 v2 (addS noS 2 SA) [] hB2 h.at_
    rw [HL.out.2.1, HS2.out] at this
    have k := fun g (h1 : w.heap.size + 2 ≤ g) (h2 : g < V.heap.size) => And.intro (h.turn.block g h2 (OUT.out g h1)) (h.out g h2 (OUT.out g h1))
    exact ⟨⟨hB2, (hA.congr (k _ (Nat.le_refl _) hA.lt).1).wholeM, k⟩, this⟩⟩
  have AD3 : Veil (∀ w2 v2 w3 v3, (∀ g, w.heap.size + 2 ≤ g → g < V.heap.size → w2.heap[g]? = V.heap[g]? ∧ ¬ chainP (w.heap.size + 1) w.heap.size v2 g) → V.heap.size ≤ w2.heap.size → Below w.heap.size w w2 → ChainAt w2 w.heap.size (w.heap.size + 1) w.heap.size v2 (addS noS 2 SA) [] → ChainTo w2 w3 w.heap.size (w.heap.size + 1) w.heap.size v2 v3 (addS noS 2 SA) [] → (Below w.heap.size w w3 ∧ w3.rangeAt (G + 1) 0 CB) ∧ Calls Tryd.prog 15 #[.pointer (some ⟨w.heap.size + 1, 0, none⟩), .agg CB.toArray] w3 fun e w' => e = .returned (.int .i64 11) ∧ ∃ v', ChainTo w3 w' w.heap.size (w.heap.size + 1) w.heap.size v3 v' (addS noS 2 SA) [proofN (addS noS 2 SA) 2 1 zk SB]) := ⟨fun w2 v2 w3 v3 hk hs hB2 hC2 h => by
    have hB3 := hB2.trans (h.below hC2 hB2.size)
    have k := fun g (h1 : w.heap.size + 2 ≤ g) (h2 : g < V.heap.size) => (h.turn.block g (by omega) (hk g h1 h2).2).trans (hk g h1 h2).1
    have hg3 : Holds w3 G .u8 5 [1] := by unfold Holds at hg ⊢; rw [k G (by omega) (Array.getElem?_eq_some_iff.1 hg).1]; exact hg
    have := HADB2.out w3 v3 (addS noS 2 SA) [] hB3 h.at_ hg3
    rw [HL.out.2.2, HS3.out] at this
    exact ⟨⟨hB3, (hBb.congr (k _ (by omega) hBb.lt)).wholeM⟩, this⟩⟩
  have rA := hA.wholeM
  have HCV := Veil.mk hC
  generalize proofN (addS noS 2 SA) 2 1 zk SB = PR at AD3
  clear HADA HADB2 HS1 HS2 HS3 HL OUT hA hBb hg
  go_wp2_with (first
    | (go_at_call 15; refine ad3.mono ?_; rintro e w4 ⟨rfl, v4, hto4⟩; have hB4 := hB3.trans (hto4.below hto3.at_ hB3.size); have hpr := chProofs_any _ _ _ _ _ _ w4 hto4.at_; clear ad3)
    | (go_at_call 15; refine ad2.mono ?_; rintro e w3 ⟨rfl, v3, hto3⟩; obtain ⟨⟨hB3, rB3⟩, ad3⟩ := AD3.out w2 v2 w3 v3 k2 hto2.turn.size hB2 hto2.at_ hto3; clear ad2 k2 rA2)
    | (go_at_call 15; refine ad1.mono ?_; rintro e w2 ⟨rfl, v2, hto2⟩; obtain ⟨⟨hB2, rA2, k2⟩, ad2⟩ := AD2.out w2 v2 hto2; clear ad1 rA)
    | (refine wpList_ldv rfl 38 _ rfl _ _ rfl CA rA Tryd.underlying38 rfl iA ?_)
    | (refine wpList_ldgv (by kernel_rfl) 38 _ rfl _ _ rfl CA rA2 Tryd.underlying38 rfl iA ?_)
    | (refine wpList_ldgv (by kernel_rfl) 38 _ rfl _ _ rfl CB rB3 Tryd.underlying38 rfl iB ?_)
    | (go_at_call 18; refine hpr.mono ?_; rintro e w5 ⟨v5, rfl, ho5, hb5⟩; obtain ⟨x5, c5, rfl⟩ := ho5.isSlice; have hhd := chHeads_any _ _ _ _ _ _ w5 (hto4.at_.far hb5); clear ho5)
    | (go_at_call 14; refine hhd.mono ?_; rintro e w6 ⟨rfl, hb6⟩; obtain ⟨hix, hfd⟩ := HIX.out))
  go_ret
  have hB5 := hB4.trans (hb5.mono hB4.size)
  exact ⟨rfl, hB5.trans (hb6.mono hB5.size)⟩
end Go.Proofs.YtgcidamdbidgiaaDoor
