/- AclForks, walked. -/
import Derived.Test.YthodlbkgggaibaaRk6
import Derived.Test.YthodlbkgggaibaaAbk
namespace Go.Proofs.Ythodlbkgggaibaa
open Go.RowKit Go.Shelf
set_option maxRecDepth 20000
set_option linter.unusedSimpArgs false
set_option maxHeartbeats 16000000 in
theorem afk_walk (x : Option Addr) (len cap : Nat) (ds : List Ev) (x' : Option Addr) (len' cap' : Nat) (ds' : List Ev) (v : List Int) (w : World) (hd : EvsAt w x len cap ds) (hd' : EvsAt w x' len' cap' ds') (hv : v.length = 8) :
    Calls Try.prog 10 #[.slice x len cap, .slice x' len' cap', .agg (row .u32 v)] w fun e w' => e = .returned (.bool true) ∧ Below w.heap.size w w' := by
  have HDL : Veil (len' = ds'.length) := ⟨hd'.len_eq⟩
  obtain ⟨VV, hVV⟩ : ∃ q, v.map (Value.int .u32) = q := ⟨_, rfl⟩
  have hrow : row .u32 v = VV.toArray := by rw [← hVV]; rfl
  have hB0 : Below w.heap.size w (w.alloc (.cells VV.toArray 25)) := (Below.refl _ _).alloc (Nat.le_refl _) _
  have hy0 := CellsAt.new w 25 VV
  have iV : (Try.prog.info? 25).map (·.size) = some VV.length := by rw [← hVV, List.length_map, hv]; kernel_rfl
  have uV := Try.underlying25
  have uE := Try.underlying41
  have HSM : Veil (∀ B H b R L W, BothA B 40 W H b R L → EvsAt W x len cap ds → Calls Try.prog 15 #[.pointer (some ⟨H, 0, none⟩), .pointer (some ⟨R, 0, none⟩), .slice x len cap, .agg VV.toArray] W fun e w' => e = .returned (.bool true) ∧ Below W.heap.size W w') := ⟨fun B H b R L W hBB hd => by rw [← hrow]; exact asame_any B 40 H b R L x len cap ds v W hBB (by decide) hd hv⟩
  have HD := Veil.mk hd
  have HD' := Veil.mk hd'
  have hpl := aplay_any x len cap ds _ (hd.below hB0)
  rw [hrow]
  clear hd hd' hrow hVV
  go_enter Try.func10, Try.ntmps10
  go_upto_region 4 with (first
    | (go_at_call 14; refine (live9_any w1).mono ?_; rintro z w2 ⟨rfl, g2⟩)
    | (go_at_call 13; refine hpl.mono ?_; rintro z w1 ⟨H, b, R, rfl, ⟨L, hBB, -⟩, hB1⟩))
  have hy2 := (hy0.congr (hB1.block _ hy0.lt)).farM g2
  have hBB2 := hBB.far g2
  have hB1' := hB0.trans (hB1.mono hB0.size)
  have hB2 := hB1'.trans (g2.mono hB1'.size)
  clear hB0 hy0 hpl hBB hB1 g2 hB1'
  have hfk := abfork_any H b L w2 hBB2.code
  have HL40 : Veil (L.length ≤ 40) := ⟨hBB2.len⟩
  go_upto_region 5 with (go_at_call 22; refine hfk.mono ?_; rintro z w3 ⟨F, fb, rfl, hF, g3, hlF, hlb⟩)
  have HB2 := Veil.mk hB2
  have HBB2 := Veil.mk hBB2
  have HY2 := Veil.mk hy2
  clear hfk hB2 hBB2 hy2
  go_wp2_with fail
  go_loopw [11] (fun p wr => ∃ k : Nat, k ≤ len' ∧ k ≤ 20 ∧ p = .int .i64 (k : Nat) ∧ (∃ M, BookC wr F fb M ∧ M.length ≤ 40 + k) ∧ Below w2.heap.size w2 wr) (fun p _ => len' - (intOf p).toNat)
  case atStart => exact ⟨0, Nat.zero_le _, by omega, rfl, ⟨L, hF, HL40.out⟩, g3⟩
  case round =>
    obtain ⟨k, hk, hk20, rfl, ⟨M, hM, hMl⟩, hb⟩ := hrel
    clear hF g3
    by_cases h12 : k < len' ∧ k < 20
    · obtain ⟨h1, h2⟩ := h12
      have h1i : (k : Int) < (len' : Int) := by omega
      have h2i : (k : Int) < 20 := by omega
      have hk0 : (0 : Int) ≤ (k : Int) := by omega
      have hkd : k < ds'.length := by have := HDL.out; omega
      obtain ⟨eb, off, rfl, hre0⟩ := HD'.out.rngA k hkd
      have hok := HD'.out.ok ds'[k] (List.getElem_mem hkd)
      have iE : (Try.prog.info? 41).map (·.size) = some ds'[k].cells.length := by rw [aev_len _ hok.past]; kernel_rfl
      have hw1 : IntKind.i64.wrap ((k : Int) + 1) = (k : Int) + 1 := by rw [IntKind.wrap_i64]; omega
      have hBw := HB2.out.trans (hb.mono HB2.out.size)
      have hre : wr.rangeAt eb (off + k * 17) ds'[k].cells := fun i u hu => (hBw.cell (block_lt_of_cell (hre0 i u hu))).trans (hre0 i u hu)
      have had := badd_any F fb M ds'[k] wr hM hok (by omega)
      have HML : Veil ((addB M ds'[k]).length ≤ 40 + (k + 1)) := ⟨Nat.le_trans (addB_len M ds'[k]) (by omega)⟩
      have HBB := Veil.mk hb
      generalize hAM : addB M ds'[k] = AM at had HML
      generalize refB M ds'[k] = RN at had
      generalize ds'[k].cells = E at hre iE had
      clear hre0 hok hBw hM hb hAM
      go_wp2_with (first
        | (refine wpList_ldv rfl 41 _ rfl eb (off + k * 17) rfl E hre uE rfl iE ?_)
        | (go_at_call 18; refine had.mono ?_; rintro z W1 ⟨rfl, hM1, ht1⟩))
      go_roundw
      case rel => exact ⟨k + 1, h1, h2, by push_cast; rfl, ⟨AM, hM1, HML.out⟩, HBB.out.trans (ht1.below HBB.out.size (fun q hq => by rw [hq]; exact hlb))⟩
      case measure => simp [intOf]; omega
    · have hcase : ¬ (k : Int) < (len' : Int) ∨ ((k : Int) < (len' : Int) ∧ ¬ (k : Int) < 20) := by omega
      have hB3 := HB2.out.trans (hb.mono HB2.out.size)
      have hy3 := HY2.out.farM hb
      have hr3 := hy3.wholeM
      have hsm := HSM.out _ _ _ _ _ wr (HBB2.out.far hb) (HD.out.below hB3)
      clear hM hy3 hb
      rcases hcase with h1i | ⟨h1i, h2i⟩
      all_goals
        go_wp2_with (first
          | (refine wpList_ldv rfl 25 _ rfl w.heap.size 0 rfl VV hr3 uV rfl iV ?_)
          | (go_at_call 15; refine hsm.mono ?_; rintro e w4 ⟨rfl, g4⟩))
        go_ret
        exact ⟨rfl, hB3.trans (g4.mono hB3.size)⟩
end Go.Proofs.Ythodlbkgggaibaa
