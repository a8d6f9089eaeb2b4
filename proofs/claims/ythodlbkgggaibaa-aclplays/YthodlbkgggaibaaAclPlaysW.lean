/- AclPlays, walked. -/
import Derived.Test.YthodlbkgggaibaaRk6
namespace Go.Proofs.Ythodlbkgggaibaa
open Go.RowKit Go.Shelf
set_option maxRecDepth 20000
set_option linter.unusedSimpArgs false
set_option maxHeartbeats 16000000 in
theorem apl_walk (x : Option Addr) (len cap : Nat) (ds : List Ev) (v : List Int) (w : World) (hd : EvsAt w x len cap ds) (hv : v.length = 8) :
    Calls Try.prog 3 #[.slice x len cap, .agg (row .u32 v)] w fun e w' => e = .returned (.bool true) ∧ Below w.heap.size w w' := by
  obtain ⟨VV, hVV⟩ : ∃ q, v.map (Value.int .u32) = q := ⟨_, rfl⟩
  have hrow : row .u32 v = VV.toArray := by rw [← hVV]; rfl
  have hB0 : Below w.heap.size w (w.alloc (.cells VV.toArray 25)) := (Below.refl _ _).alloc (Nat.le_refl _) _
  have hy0 := CellsAt.new w 25 VV
  have iV : (Try.prog.info? 25).map (·.size) = some VV.length := by rw [← hVV, List.length_map, hv]; kernel_rfl
  have uV := Try.underlying25
  have HSM : Veil (∀ B H b R L W, BothA B 40 W H b R L → EvsAt W x len cap ds → Calls Try.prog 15 #[.pointer (some ⟨H, 0, none⟩), .pointer (some ⟨R, 0, none⟩), .slice x len cap, .agg VV.toArray] W fun e w' => e = .returned (.bool true) ∧ Below W.heap.size W w') := ⟨fun B H b R L W hBB hd => by rw [← hrow]; exact asame_any B 40 H b R L x len cap ds v W hBB (by decide) hd hv⟩
  have hd0 := hd.below hB0
  have hpl := aplay_any x len cap ds _ hd0
  rw [hrow]
  clear hd hrow hVV
  go_enter Try.func3, Try.ntmps3
  go_wp2_with (first
    | (go_at_call 15; refine hsm.mono ?_; rintro e w3 ⟨rfl, g3⟩)
    | (go_at_call 14; refine (live9_any w1).mono ?_; rintro e w2 ⟨rfl, g2⟩; have hy2 := (hy0.congr (hB1.block _ hy0.lt)).farM g2; have hr2 := hy2.wholeM; have hsm := HSM.out _ _ _ _ _ w2 (hBB.far g2) ((hd0.below hB1).below g2))
    | (go_at_call 13; refine hpl.mono ?_; rintro e w1 ⟨H, b, R, rfl, ⟨L, hBB, -⟩, hB1⟩)
    | (refine wpList_ldgv (by kernel_rfl) 25 (.tmp 3) rfl w.heap.size 0 rfl VV hr2 uV rfl iV ?_))
  go_ret
  have g4 := g2.trans (g3.mono g2.size)
  have hB1' := hB0.trans (hB1.mono hB0.size)
  exact ⟨rfl, hB1'.trans (g4.mono hB1'.size)⟩
end Go.Proofs.Ythodlbkgggaibaa

