/- KeysForksW -/
import Derived.Test.YtflkhkmejnpapaaGreatDoorK47
import Derived.Test.YtflkhkmejnpapaaGreatDoorK48
import Derived.Test.YtflkhkmejnpapaaGreatDoorK49
import Derived.Test.YtflkhkmejnpapaaGreatDoorK32
namespace Go.Proofs.YtflkhkmejnpapaaGreatDoor
open Go.RowKit
set_option maxRecDepth 20000
set_option linter.unusedSimpArgs false
theorem same11_playF {w : World} {base H O : Nat} {own : Int} {seed : List Int} (h : PlayK w base H O own seed) (hKT : S.KTab w) (a s p : Int) (ho : okD a s) :
    Calls Tryz.prog 7 #[.pointer (some ⟨H, 0, none⟩), .pointer (some ⟨O, 0, none⟩), .agg (dotC a s).toArray, .int .u8 p] w fun e w' => e = .returned (.bool true) ∧ Below w.heap.size w w' := by
 obtain ⟨b, M, v, D, u, L, q⟩ := h.both
 exact same11_any base H O own seed b M v D u L w a s p ho q hKT
theorem rFork_play {w : World} {base H O : Nat} {own : Int} {seed : List Int} (h : PlayK w base H O own seed) :
    Calls Tryz.prog 8 #[.pointer (some ⟨H, 0, none⟩)] w fun e w' => ∃ H' b M v D L, e = .returned (.pointer (some ⟨H', 0, none⟩)) ∧ RingAt w' w.heap.size H' own seed b M v D ∧ LinkR M D L ∧ Below w.heap.size w w' := by
 obtain ⟨b, M, v, D, u, L, q⟩ := h.both
 exact (rFork_any base H own seed b M v D w q.ring).mono fun e w' ⟨H', b', v', h1, h2, h3⟩ => ⟨H', b', M, v', D, L, h1, h2, q.link, h3⟩
structure OneK (w : World) (base H : Nat) (own : Int) (seed : List Int) : Prop where
 one : ∃ b M v D L, RingAt w base H own seed b M v D ∧ LinkR M D L
theorem OneK.add {w : World} {base H : Nat} {own : Int} {seed : List Int} (h : OneK w base H own seed) (a s : Int) (k : List Int) (ho : okD a s) (hk : k.length = 32) (hkB : ∀ x ∈ k, isB x) (hbase : base ≤ w.heap.size) :
    Calls Tryz.prog 9 #[.pointer (some ⟨H, 0, none⟩), .agg (dotC a s).toArray, .agg (row .u8 k)] w fun e w' => ∃ n, e = .returned (.int .i64 n) ∧ OneK w' base H own seed ∧ Below base w w' := by
 obtain ⟨b, M, v, D, L, hR, hL⟩ := h.one
 exact (bAdd_any base H own seed b M v D L w a s k ho hk hkB hR hL hbase).mono fun e w' ⟨h1, M', v', D', h2, h3, h4, _⟩ => ⟨_, h1, ⟨b, M', v', D', _, h2, h3⟩, h4.below hbase (fun k hk => (hR.inside k hk).2)⟩
theorem dotz_builtF (w : World) : (Instr.build 33 #[]).run Tryz.prog w = .ok (.agg (dotC 0 0).toArray) w := by kernel_rfl
theorem dot7_builtF (s : Int) (w : World) : (Instr.build 33 #[(0, .int .u8 7), (1, .int .u32 s)]).run Tryz.prog w = .ok (.agg (dotC 7 s).toArray) w := by kernel_rfl
set_option maxHeartbeats 8000000 in
theorem kforks_walk (own : Int) (seed : List Int) (x : Option Addr) (len cap : Nat) (ds : List Deed) (w : World) (ho : 0 ≤ own ∧ own ≤ 255) (hs32 : seed.length = 32) (hsB : ∀ y ∈ seed, isB y) (hL : DeedsK w x len cap ds) (hKT : S.KTab w) :
    Calls Tryz.prog 4 #[.int .u8 own, .agg (row .u8 seed), .slice x len cap] w fun e w' => e = .returned (.bool true) ∧ Below w.heap.size w w' := by
 have hB : Below w.heap.size w (w.alloc (.cells (row .u8 seed) 23)) := (Below.refl _ _).alloc (Nat.le_refl _) _
 have hs0 := Holds.new w .u8 23 seed
 have HPL : Veil (∀ W, Below w.heap.size w W → Calls Tryz.prog 5 #[.int .u8 own, .agg (row .u8 seed), .slice x len cap] W fun e w' => ∃ H O, e = .returned (.tuple #[.pointer (some ⟨H, 0, none⟩), .pointer (some ⟨O, 0, none⟩), .bool true]) ∧ PlayK w' (W.heap.size + 1) H O (own % 8) seed ∧ Below W.heap.size W w') := ⟨fun W hb => play11_any own seed x len cap ds W ho hs32 (hL.below hb) (hKT.below hb)⟩
 have HLV : Veil (∀ W, Below w.heap.size w W → Calls Tryz.prog 6 #[] W fun e w' => e = .returned (.bool true) ∧ Below W.heap.size W w') := ⟨fun W hb => klive_any W (hKT.below hb)⟩
 have HKT := Veil.mk hKT
 have HSB := Veil.mk (And.intro hs32 hsB)
 have uK := Tryz.underlying23
 have iS : (Tryz.prog.info? 23).map (·.size) = some (seed.map (Value.int .u8)).length := by rw [List.length_map, hs32]; exact sizeKeyD
 have HDZ := Veil.mk dotz_builtF
 have HD7 := Veil.mk dot7_builtF
 obtain ⟨o8, ho8⟩ : ∃ q, own % 8 = q := ⟨_, rfl⟩
 rw [ho8] at HPL
 clear hL hKT hsB ho8
 go_enter Tryz.func4, Tryz.ntmps4
 go_upto_region 1 with fail
 refine forget (p := fun y => Code.wp _ _ _ _ y) (fun W => Below w.heap.size w W ∧ Holds W w.heap.size .u8 23 seed) ⟨hB, hs0⟩ ?_
 clear hB hs0
 rintro W ⟨hB, hs0⟩
 have hpl := HPL.out W hB
 go_upto_region 2 with (first
  | (refine wpList_ld rfl 23 _ rfl _ rfl hs0 Tryz.underlying23 sizeKeyD hs32 ?_)
  | (go_at_call 5; refine hpl.mono ?_; rintro e W1 ⟨H, O, rfl, hP1, hb1⟩; clear hpl))
 have hB1 := hB.trans (hb1.mono hB.size)
 have hlv := HLV.out W1 hB1
 have hs1 := hs0.cellsAt.farM hb1
 obtain ⟨bs, hbs⟩ : ∃ q, W.heap.size + 1 = q := ⟨_, rfl⟩
 rw [hbs] at hP1
 clear hs0 hb1 hB hbs W
 go_upto_region 4 with (go_at_call 6; refine hlv.mono ?_; rintro e W2 ⟨rfl, hb2⟩; clear hlv)
 have hB2 := hB1.trans (hb2.mono hB1.size)
 have hP2 := hP1.far hb2
 have hs2 := hs1.farM hb2
 have hfk := rFork_play hP2
 clear hP1 hB1 hb2 hs1 HPL HLV W1
 go_upto_region 5 with (go_at_call 8; refine hfk.mono ?_; rintro e W3 ⟨F, b, M, v, D, L, rfl, hRF, hLF, hb3⟩; clear hfk)
 have hFk : OneK W3 W2.heap.size F o8 seed := ⟨b, M, v, D, L, hRF, hLF⟩
 have hs2l := hs2.lt
 have h20 : PlayK W3 bs H O o8 seed ∧ OneK W3 W2.heap.size F o8 seed ∧ Below W2.heap.size W2 W3 := ⟨hP2.far hb3, hFk, hb3⟩
 have HP2 := Veil.mk hP2
 have HB2 := Veil.mk hB2
 have HS2 := Veil.mk hs2
 clear hRF hLF hb3 hFk hP2 hB2 hs2
 go_wp2_with fail
 go_loopw [11] (fun q wr => ∃ i : Nat, q = .int .i64 (i : Nat) ∧ i ≤ 4 ∧ OneK wr W2.heap.size F o8 seed ∧ Below W2.heap.size W2 wr) (fun q _ => 4 - (intOf q).toNat)
 case atStart => exact ⟨0, rfl, by omega, h20.2.1, h20.2.2⟩
 case round =>
  clear h20
  obtain ⟨i, rfl, hi, hF, hbr⟩ := hrel
  by_cases hin : i < 4
  · have hi0 : (0 : Int) ≤ (i : Int) := by omega
    have l1 : (i : Int) < 4 := by omega
    have hww : IntKind.i64.wrap ((i : Int) + 1) = (i : Int) + 1 := by rw [IntKind.wrap_i64]; omega
    have hw1 : IntKind.i64.wrap (1000 + (i : Int)) = 1000 + (i : Int) := by rw [IntKind.wrap_i64]; omega
    have hu1 : IntKind.u32.wrap (1000 + (i : Int)) = 1000 + (i : Int) := by rw [IntKind.wrap_u32]; omega
    have hsr := (HS2.out.congr (hbr.block _ hs2l)).wholeM
    have hadd := hF.add 7 (1000 + (i : Int)) seed (by unfold okD; omega) HSB.out.1 HSB.out.2 hbr.size
    have HBR := Veil.mk hbr
    clear hbr
    go_wp2_with (first
     | (refine wpList_bldx rfl 33 _ rfl #[(0, .int .u8 7), (1, .int .u32 (1000 + (i : Int)))] (by first | rfl | kernel_rfl) _ (HD7.out _ _) ?_)
     | (refine wpList_ldv rfl 23 _ rfl w.heap.size 0 rfl (seed.map (Value.int .u8)) hsr uK rfl iS ?_)
     | (go_at_call 9; refine hadd.mono ?_; rintro e W4 ⟨n, rfl, hF4, hb4⟩; clear hadd))
    go_roundw
    case rel => exact ⟨i + 1, by push_cast; rfl, by omega, hF4, HBR.out.trans hb4⟩
    case measure => simp [intOf]; omega
  · have l1 : ¬ (i : Int) < 4 := by omega
    have hPr := HP2.out.far hbr
    have hBr := HB2.out.trans (hbr.mono HB2.out.size)
    have hsa := same11_playF hPr (HKT.out.below hBr) 7 1000 2 (by unfold okD; omega)
    have HSC : Veil (∀ W, Below wr.heap.size wr W → Calls Tryz.prog 7 #[.pointer (some ⟨H, 0, none⟩), .pointer (some ⟨O, 0, none⟩), .agg (dotC 0 0).toArray, .int .u8 3] W fun e w' => e = .returned (.bool true) ∧ Below W.heap.size W w') := ⟨fun W hb => same11_playF (hPr.far hb) (HKT.out.below (hBr.trans (hb.mono hBr.size))) 0 0 3 (by unfold okD; omega)⟩
    go_wp2_with (first
     | (refine wpList_bldx rfl 33 _ rfl #[(0, .int .u8 7), (1, .int .u32 1000)] (by first | rfl | kernel_rfl) _ (HD7.out _ _) ?_)
     | (refine wpList_bldx rfl 33 _ rfl #[] (by first | rfl | kernel_rfl) _ (HDZ.out _) ?_)
     | (go_at_call 7; refine hsc.mono ?_; rintro e W5 ⟨rfl, hb5⟩; clear hsc)
     | (go_at_call 7; refine hsa.mono ?_; rintro e W4 ⟨rfl, hb4⟩; have hsc := HSC.out W4 hb4; clear hsa))
    go_ret
    exact ⟨rfl, (hBr.trans (hb4.mono hBr.size)).trans (hb5.mono (hBr.trans (hb4.mono hBr.size)).size)⟩
end Go.Proofs.YtflkhkmejnpapaaGreatDoor
