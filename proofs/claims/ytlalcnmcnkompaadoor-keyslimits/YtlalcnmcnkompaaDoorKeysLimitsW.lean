/- keys: there are never more than MaxEpoch keys; what was added last is used. -/
import Derived.Test.YtlalcnmcnkompaaDoorMEvmKz3
import Derived.Test.YtlalcnmcnkompaaDoorMEqdEvl
namespace Go.Proofs.YtlalcnmcnkompaaDoor
open Go.RowKit
set_option maxRecDepth 20000
set_option linter.unusedSimpArgs false

/-- What holds behind i rounds. -/
structure Lim (w wr : World) (B H : Nat) (O : Int) (seed : List Int) (b : Nat) (i : Nat) (L : List (Int × Int)) : Prop where
  ring : ∃ M v, RingAt wr B H O seed b M v L ∧ (∀ s : Int, (i : Int) < s → M 1 s = none) ∧ (0 < i → (M 1 1).isSome = true)
  first : i = 0 → L.length ≤ 1
  below : Below w.heap.size w wr
  key : Holds wr w.heap.size .u8 23 seed
theorem dot_built (s : Int) (w : World) : (Instr.build 36 #[(0, .int .u8 1), (1, .int .u32 s)]).run Tryd.prog w = .ok (.agg (dotC 1 s).toArray) w := by kernel_rfl
theorem ok1 (s : Int) (h : 0 ≤ s ∧ s ≤ 4294967295) : okD 1 s := ⟨⟨by omega, by omega⟩, h.1, h.2⟩
set_option maxHeartbeats 4000000 in
theorem limits_walk (own : Int) (seed : List Int) (n : Int) (w : World) (h0 : 0 ≤ own ∧ own ≤ 255) (hs : seed.length = 32) (hn : 0 ≤ n ∧ n ≤ 255) (hKT : S.KTab w) :
    Calls Tryd.prog 7 #[.int .u8 own, .agg (row .u8 seed), .int .u8 n] w fun e w' => e = .returned (.bool true) ∧ Below w.heap.size w w' := by
  have hB : Below w.heap.size w (w.alloc (.cells (row .u8 seed) 23)) := (Below.refl _ _).alloc (Nat.le_refl _) _
  have hk0 := Holds.new w .u8 23 seed
  have ht8 := Int.tmod_eq_emod_of_nonneg (b := 8) h0.1
  have ht40 := Int.tmod_eq_emod_of_nonneg (b := 40) hn.1
  obtain ⟨O, hO⟩ : ∃ O, own.tmod 8 = O := ⟨_, rfl⟩
  have hO8 : O < 8 := by rw [← hO, ht8]; omega
  have hw1 : IntKind.u8.wrap O = O := by rw [← hO]; simp [IntKind.wrap, IntKind.bits, IntKind.signed]; omega
  obtain ⟨m, hm⟩ : ∃ m : Nat, n.tmod 40 = (m : Int) := ⟨(n.tmod 40).toNat, by omega⟩
  have hm40 : m < 40 := by omega
  have hwn : IntKind.i64.wrap n = n := by rw [IntKind.wrap_i64]; omega
  have hwm : IntKind.i64.wrap (m : Int) = (m : Int) := by rw [IntKind.wrap_i64]; omega
  have hn1 := new_any O seed (w.alloc (.cells (row .u8 seed) 23)) hO8 hs (hKT.below hB)
  have HL : Veil (∀ W, Below w.heap.size w W → Calls Tryd.prog 11 #[] W fun e w' => e = .returned (.bool true) ∧ Below W.heap.size W w') := ⟨fun W hb => klive_any W (hKT.below hb)⟩
  clear h0 hn ht8 ht40
  go_enter Tryd.func7, Tryd.ntmps7
  go_upto_region 2 with (first
    | (refine wpList_ld rfl 23 _ rfl _ rfl hk0 Tryd.underlying23 sizeKeyD hs ?_)
    | (go_at_call 9; refine hn1.mono ?_; rintro e w1 ⟨H, b, v, rfl, hR, hb1⟩; have hB1 := hB.trans (hb1.mono hB.size)))
  have hk1 := hk0.below hb1 hk0.lt
  have hBS : w.heap.size ≤ (w.alloc (.cells (row .u8 seed) 23)).heap.size ∧ w.heap.size < (w.alloc (.cells (row .u8 seed) 23)).heap.size ∧ (w.alloc (.cells (row .u8 seed) 23)).heap.size ≤ w1.heap.size := ⟨by simp, by simp, hb1.size⟩
  generalize (w.alloc (.cells (row .u8 seed) 23)).heap.size = B at hR hBS
  have hep := epochs_any B H O seed b _ v _ w1 hR
  have hdl : (newD O).length ≤ 1 := by unfold newD; split <;> simp
  clear hn1 hk0 hB hb1
  go_upto_region 3 with (go_at_call 25; refine hep.mono ?_; rintro e w2 ⟨v2, rfl, ho2, hb2⟩; obtain ⟨x2, c2, rfl⟩ := ho2.isSlice)
  have hLim0 : Lim w w2 B H O seed b 0 (newD O) := ⟨⟨_, v, hR.far hb2, (fun s hs => by
      unfold newM
      split
      · unfold putK; rw [if_neg (by omega)]
      · rfl), fun h => absurd h (Nat.lt_irrefl _)⟩, fun _ => hdl, hB1.trans (hb2.mono hB1.size), hk1.below hb2 hk1.lt⟩
  have HB2 : Veil (B ≤ w2.heap.size) := ⟨by have := hb2.size; omega⟩
  clear hR hk1 hB1 hb2 hep ho2 hdl
  obtain ⟨L0, hL0⟩ : ∃ q, newD O = q := ⟨_, rfl⟩
  rw [hL0] at hLim0 ⊢
  clear hL0
  obtain ⟨l0, hl0⟩ : ∃ q, L0.length = q := ⟨_, rfl⟩
  rw [hl0]
  go_wp2_with fail
  go_loopw [8, 9] (fun kv iv wr => ∃ (i : Nat) (L : List (Int × Int)), i ≤ m ∧ iv = .int .i64 i ∧ kv = .int .i64 (L.length : Int) ∧ Lim w wr B H O seed b i L ∧ B ≤ wr.heap.size) (fun _ iv _ => m - (intOf iv).toNat)
  case atStart => exact ⟨0, L0, by omega, rfl, by rw [hl0], hLim0, HB2.out⟩
  case round =>
    clear hLim0 hl0 HB2
    obtain ⟨i, L, hi, rfl, rfl, hLim, hBr⟩ := hrel
    obtain ⟨⟨M, v, hR, hnone, hsome⟩, hfirst, hBel, hkey⟩ := hLim
    by_cases hlt : i < m
    · have hsi : IntKind.i64.wrap ((i : Int) + 1) = (i : Int) + 1 := by rw [IntKind.wrap_i64]; omega
      have hli : (i : Int) < (m : Int) := by omega
      have hs2 : IntKind.u32.wrap ((i : Int) + 1) = (i : Int) + 1 := by simp [IntKind.wrap, IntKind.bits, IntKind.signed]; omega
      have hoS : okD 1 ((i : Int) + 1) := ok1 _ (by omega)
      have hMn : M 1 ((i : Int) + 1) = none := hnone _ (by omega)
      have hM' : (M 1 ((i : Int) + 1)).isSome = false := by rw [hMn]; rfl
      have hwi : ((i + 1 : Nat) : Int) = (i : Int) + 1 := by omega
      have HDB : Veil (∀ wx, (Instr.build 36 #[(0, .int .u8 1), (1, .int .u32 ((i : Int) + 1))]).run Tryd.prog wx = .ok (.agg (dotC 1 ((i : Int) + 1)).toArray) wx) := ⟨fun wx => dot_built _ wx⟩
      have HNE : Veil (∀ wx, (binOp BinOp.neq 36 (.agg (dotC 1 ((i : Int) + 1)).toArray) (.agg (dotC 1 ((i : Int) + 1)).toArray)).run Tryd.prog wx = .ok (.bool false) wx) := ⟨fun wx => by rw [dot_neq]; simp⟩
      have HI : Veil (∀ s : Int, ((i + 1 : Nat) : Int) < s → s ≠ (i : Int) + 1 ∧ (i : Int) < s) := ⟨fun s h => ⟨by omega, by omega⟩⟩
      have HI1 : Veil (i = 0 → ((i : Int) + 1 = 1)) := ⟨fun h => by omega⟩
      obtain ⟨S1, hS1⟩ : ∃ q, (i : Int) + 1 = q := ⟨_, rfl⟩
      rw [hS1] at hsi hs2 hoS hMn hM' HDB HNE HI HI1
      have hA1 := CellsAt.new wr 36 (dotC 0 0)
      go_upto_region 7 with (first
        | (refine wpList_bldx rfl 36 _ rfl #[(0, .int .u8 1), (1, .int .u32 S1)] (by first | rfl | kernel_rfl) _ (HDB.out _) ?_)
        | (refine wpList_stv rfl 36 _ _ rfl _ rfl (cs := dotC 1 S1) rfl hA1 sizeDotK rfl (dot_oneK 1 S1) ?_))
      have hb3 : Below wr.heap.size wr ((wr.alloc (.cells (dotC 0 0).toArray 36)).setRow wr.heap.size (dotC 1 S1).toArray) := below_setRow ((Below.refl _ _).alloc (Nat.le_refl _) _) (Nat.le_refl _) _
      refine forget (p := fun y => Code.wp _ _ _ _ y) (fun V => Below w.heap.size w V ∧ RingAt V B H O seed b M v L ∧ Holds V w.heap.size .u8 23 seed ∧ CellsAt V wr.heap.size 36 (dotC 1 S1) ∧ wr.heap.size ≤ V.heap.size) ⟨hBel.trans (hb3.mono hBel.size), hR.far hb3, hkey.below hb3 hkey.lt, hA1.setRow _, hb3.size⟩ ?_
      obtain ⟨G, hG⟩ : ∃ q, wr.heap.size = q := ⟨_, rfl⟩
      have HIN : Veil (∀ g, ringP H b v g → g < G ∧ B ≤ g) := ⟨fun g hg => by have := hR.inside g hg; omega⟩
      rw [hG] at hBr ⊢
      clear hb3 hA1 hR hkey hBel hG HDB
      rintro V ⟨hBel, hR, hkey, hdot, hGV⟩
      have rD := hdot.range 0 2
      rw [show ((dotC 1 S1).drop 0).take 2 = dotC 1 S1 from rfl] at rD
      have hkl := hkey.lt
      by_cases h16 : L.length < 16
      · have hadd := add_ok B H O seed b M v L V 1 S1 seed hoS hs hR hM' h16 (by omega)
        have h16i : (L.length : Int) < 16 := by omega
        go_upto_region 8 with (first
          | (refine wpList_ldv rfl 36 _ rfl _ _ rfl (dotC 1 S1) rD Tryd.underlying36 rfl sizeDotK ?_)
          | (refine wpList_ld rfl 23 _ rfl _ rfl hkey Tryd.underlying23 sizeKeyD hs ?_)
          | (go_at_call 17; refine hadd.mono ?_; rintro e V1 ⟨rfl, v1, hR1, hT1, hv1⟩))
        have hBV1 : Below w.heap.size w V1 := hBel.trans (hT1.below hBel.size fun k hk => by have := (HIN.out k hk).2; omega)
        have hkey1 : Holds V1 w.heap.size .u8 23 seed := by
          unfold Holds at hkey ⊢
          rw [hT1.block _ hkl (fun hp => by have := (HIN.out _ hp).2; omega)]; exact hkey
        have hdot1 : CellsAt V1 G 36 (dotC 1 S1) := hdot.congr (hT1.block _ hdot.lt (fun hp => by have := (HIN.out _ hp).1; omega))
        have hV1s := hT1.size
        have hnow := now_some B H O seed b _ v1 L V1 1 S1 hR1
        have hM11 : (putK M 1 S1 seed 1 1).isSome = true := by
          unfold putK
          by_cases e : i = 0
          · rw [if_pos ⟨rfl, (HI1.out e).symm⟩]; rfl
          · split
            · rfl
            · exact hsome (by omega)
        have HLIM : Veil (∀ W, Below V1.heap.size V1 W → Lim w W B H O seed b (i + 1) (L ++ [(1, S1)])) := ⟨fun W hb => ⟨⟨_, v1, hR1.far hb, (fun s h => by
            unfold putK
            rw [if_neg (fun e => (HI.out s h).1 e.2)]
            exact hnone s (HI.out s h).2), fun _ => hM11⟩, (fun h => by omega), hBV1.trans (hb.mono hBV1.size), hkey1.below hb hkey1.lt⟩⟩
        have HK2 : Veil (∀ W, Below V1.heap.size V1 W → Holds W w.heap.size .u8 23 seed ∧ (Calls Tryd.prog 17 #[.pointer (some ⟨H, 0, none⟩), .agg (dotC 1 1).toArray, .agg (row .u8 seed)] W fun e w' => e = .returned (.int .i64 5) ∧ Below W.heap.size W w')) := ⟨fun W hb => ⟨hkey1.below hb hkey1.lt, add_known B H O seed b _ v1 _ W 1 1 seed (ok1 1 (by omega)) (hR1.far hb) hM11⟩⟩
        clear hR hR1 hT1 hkey hkey1 hdot rD hadd hnone hsome hBel
        go_upto_region 13 with (first
          | (go_at_call 24; refine hnow.mono ?_; rintro e V2 ⟨rfl, hb2⟩; have hA1 := CellsAt.new V2 36 (dotC 0 0))
          | (refine wpList_stv rfl 36 _ _ rfl _ rfl (cs := dotC 1 S1) rfl hA1 sizeDotK rfl (dot_oneK 1 S1) ?_))
        have hb3 : Below V1.heap.size V1 ((V2.alloc (.cells (dotC 0 0).toArray 36)).setRow V2.heap.size (dotC 1 S1).toArray) := hb2.trans ((below_setRow ((Below.refl _ _).alloc (Nat.le_refl _) _) (Nat.le_refl _) _).mono hb2.size)
        refine forget (p := fun y => Code.wp _ _ _ _ y) (fun V3 => Below V1.heap.size V1 V3 ∧ CellsAt V3 G 36 (dotC 1 S1) ∧ CellsAt V3 V2.heap.size 36 (dotC 1 S1)) ⟨hb3, hdot1.congr (hb3.block _ hdot1.lt), hA1.setRow _⟩ ?_
        obtain ⟨G2, hG2⟩ : ∃ q, V2.heap.size = q := ⟨_, rfl⟩
        rw [hG2]
        clear hb3 hA1 hb2 hnow hG2 hdot1
        rintro V3 ⟨hb3, hdA, hdB⟩
        have rA := hdA.range 0 2
        have rB := hdB.range 0 2
        rw [show ((dotC 1 S1).drop 0).take 2 = dotC 1 S1 from rfl] at rA rB
        have hne := HNE.out
        obtain ⟨hky, had2⟩ := HK2.out V3 hb3
        have h0lt : (0 : Int) ≤ (L.length : Int) := by omega
        have hwL : IntKind.i64.wrap ((L.length : Int) + 1) = (L.length : Int) + 1 := by rw [IntKind.wrap_i64]; omega
        clear HNE HK2 hdA hdB
        go_wp2_with (first
          | (refine wpList_ldgv (by kernel_rfl) 36 _ rfl _ _ rfl (dotC 1 S1) rB Tryd.underlying36 rfl sizeDotK ?_)
          | (refine wpList_ldgv (by kernel_rfl) 36 _ rfl _ _ rfl (dotC 1 S1) rA Tryd.underlying36 rfl sizeDotK ?_)
          | (refine wpList_ld rfl 23 _ rfl _ rfl hky Tryd.underlying23 sizeKeyD hs ?_)
          | (go_at_call 17; refine had2.mono ?_; rintro e V4 ⟨rfl, hb4⟩))
        go_roundw
        case rel => exact ⟨i + 1, L ++ [(1, S1)], by omega, by rw [hwi, hS1], by simp, HLIM.out V4 (hb3.trans (hb4.mono hb3.size)), by have := hb3.size; have := hb4.size; omega⟩
        case measure => simp [intOf]; omega
      · have hadd := add_full B H O seed b M v L V 1 S1 seed hoS hR hM' (by omega)
        have h16i : ¬ (L.length : Int) < 16 := by omega
        have hM11 : (M 1 1).isSome = true := hsome (by
          rcases Nat.eq_zero_or_pos i with e | e
          · have := hfirst e; omega
          · exact e)
        have HLIM : Veil (∀ W, Below V.heap.size V W → Lim w W B H O seed b (i + 1) L) := ⟨fun W hb => ⟨⟨M, v, hR.far hb, (fun s h => hnone s (HI.out s h).2), fun _ => hM11⟩, (fun h => by omega), hBel.trans (hb.mono hBel.size), hkey.below hb hkey.lt⟩⟩
        have HK2 : Veil (∀ W, Below V.heap.size V W → Holds W w.heap.size .u8 23 seed ∧ (Calls Tryd.prog 17 #[.pointer (some ⟨H, 0, none⟩), .agg (dotC 1 1).toArray, .agg (row .u8 seed)] W fun e w' => e = .returned (.int .i64 5) ∧ Below W.heap.size W w')) := ⟨fun W hb => ⟨hkey.below hb hkey.lt, add_known B H O seed b M v L W 1 1 seed (ok1 1 (by omega)) (hR.far hb) hM11⟩⟩
        clear hR hnone hsome hdot HNE
        go_upto_region 8 with (first
          | (refine wpList_ldv rfl 36 _ rfl _ _ rfl (dotC 1 S1) rD Tryd.underlying36 rfl sizeDotK ?_)
          | (refine wpList_ld rfl 23 _ rfl _ rfl hkey Tryd.underlying23 sizeKeyD hs ?_)
          | (go_at_call 17; refine hadd.mono ?_; rintro e V1 ⟨rfl, hb1⟩))
        obtain ⟨hky, had2⟩ := HK2.out V1 hb1
        clear hadd HK2 hkey rD
        go_wp2_with (first
          | (refine wpList_ld rfl 23 _ rfl _ rfl hky Tryd.underlying23 sizeKeyD hs ?_)
          | (go_at_call 17; refine had2.mono ?_; rintro e V4 ⟨rfl, hb4⟩))
        go_roundw
        case rel => exact ⟨i + 1, L, by omega, by rw [hwi, hS1], rfl, HLIM.out V4 (hb1.trans (hb4.mono hb1.size)), by have := hb1.size; have := hb4.size; omega⟩
        case measure => simp [intOf]; omega
    · obtain rfl : i = m := by omega
      have hnlt : ¬ (i : Int) < (i : Int) := by omega
      have hlv := HL.out wr hBel
      have HEP : Veil (∀ W, Below wr.heap.size wr W → Calls Tryd.prog 25 #[.pointer (some ⟨H, 0, none⟩)] W fun e w' => (∃ x c, e = .returned (.slice x L.length c)) ∧ Below W.heap.size W w') := ⟨fun W hb => (epochs_any B H O seed b M v L W (hR.far hb)).mono fun e w' ⟨v', h1, h2, h3⟩ => by
        obtain ⟨x, c, hx⟩ := h2.isSlice
        exact ⟨⟨x, c, by rw [h1, hx]⟩, h3⟩⟩
      clear hR hnone hsome hkey
      go_wp2_with (first
        | (go_at_call 11; refine hlv.mono ?_; rintro e w5 ⟨rfl, hb5⟩; have hep := HEP.out w5 hb5)
        | (go_at_call 25; refine hep.mono ?_; rintro e w6 ⟨⟨x6, c6, rfl⟩, hb6⟩))
      go_ret
      have hB5 := hBel.trans (hb5.mono hBel.size)
      exact ⟨by simp, hB5.trans (hb6.mono hB5.size)⟩
end Go.Proofs.YtlalcnmcnkompaaDoor
