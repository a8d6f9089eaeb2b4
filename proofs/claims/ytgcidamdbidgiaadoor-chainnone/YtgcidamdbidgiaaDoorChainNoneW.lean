/- The statement ChainNone, walked. -/
import Derived.Test.YtgcidamdbidgiaaDoorHk
namespace Go.Proofs.YtgcidamdbidgiaaDoor
open Go.RowKit
set_option maxRecDepth 20000
set_option linter.unusedSimpArgs false

set_option maxHeartbeats 8000000 in
theorem chainNone_walk (F : Fr) (fits cmp : Bool) (hs : List (Int × List Int)) (w : World) (hF : F.cells.length = 70) (hh : okHs8 hs) (hKT : S.KTab w) :
    Calls Tryd.prog 9 #[.agg (deedC F fits cmp hs).toArray] w fun e w' => e = .returned (.bool true) ∧ Below w.heap.size w w' := by
  obtain ⟨hdl, d0, -, -, d72⟩ := deedC_parts F fits cmp hs hF hh
  have hB : Below w.heap.size w (w.alloc (.cells (deedC F fits cmp hs).toArray 53)) := (Below.refl _ _).alloc (Nat.le_refl _) _
  have hD := CellsAt.new w 53 (deedC F fits cmp hs)
  have hlv := live_any _ (hKT.below hB)
  have iF : (Tryd.prog.info? 38).map (·.size) = some F.cells.length := by rw [hF]; exact sizeFrame
  have hhl : (headsC hs).length = 264 := by rw [headsC_len hs hh.1, hh.2]
  have iH : (Tryd.prog.info? 41).map (·.size) = some (headsC hs).length := by rw [hhl]; exact sizeHeads
  have HR : Veil (∀ W, CellsAt W w.heap.size 53 (deedC F fits cmp hs) → W.rangeAt w.heap.size 0 F.cells ∧ W.rangeAt w.heap.size 72 (headsC hs)) := ⟨fun W h => ⟨by have := h.range 0 70; rw [d0] at this; exact this, by have := h.range 72 264; rw [d72] at this; exact this⟩⟩
  obtain ⟨DC, hDC⟩ : ∃ q, deedC F fits cmp hs = q := ⟨_, rfl⟩
  rw [hDC] at hB hD hlv HR ⊢
  obtain ⟨HC, hHC⟩ : ∃ q, headsC hs = q := ⟨_, rfl⟩
  rw [hHC] at iH HR
  obtain ⟨Z, hZ⟩ : ∃ q, headsC (headsOf noS) = q := ⟨_, rfl⟩
  have hnl := fun W => heads_nil W
  rw [hZ] at hnl
  have hbd : ∀ wx, (Instr.build 41 #[]).run Tryd.prog wx = .ok (.agg Z.toArray) wx := fun wx => by rw [← hZ]; exact run_build wx _ _ _ (by kernel_rfl)
  have heq : ∀ wx, (binOp .eql 41 (.agg Z.toArray) (.agg Z.toArray)).run Tryd.prog wx = .ok (.bool true) wx := fun wx => by
    have := eqlHeads (headsOf noS) (headsOf noS) okS_no.heads8 okS_no.heads8 wx
    rw [hZ] at this
    simpa using this
  have HBD := Veil.mk hbd
  have HNL := Veil.mk hnl
  have HEQ := Veil.mk heq
  clear hDC hHC hZ hdl d0 d72 hKT hh hhl hbd hnl heq
  go_enter Tryd.func9, Tryd.ntmps9
  go_wp2_with (first
    | (go_at_call 12; refine hlv.mono ?_; rintro e w1 ⟨rfl, hb1⟩; have hD1 := hD.farM hb1; obtain ⟨rF1, -⟩ := HR.out w1 hD1)
    | (refine wpList_ldgv (by kernel_rfl) 38 _ rfl _ _ rfl F.cells rF2 Tryd.underlying38 rfl iF ?_)
    | (refine wpList_ldgv (by kernel_rfl) 38 _ rfl _ _ rfl F.cells rF1 Tryd.underlying38 rfl iF ?_)
    | (go_at_call 17; refine (look_nil w1 F).mono ?_; rintro e w2 ⟨rfl, hb2⟩; have hD2 := hD1.farM hb2; obtain ⟨rF2, -⟩ := HR.out w2 hD2; clear rF1)
    | (go_at_call 15; refine (add_nil w2 F hF).mono ?_; rintro e w3 ⟨rfl, hb3⟩; have hD3 := hD2.farM hb3)
    | (go_at_call 14; refine (HNL.out w3).mono ?_; rintro e w4 ⟨rfl, hb4⟩; have hD4 := hD3.farM hb4; obtain ⟨-, rH4⟩ := HR.out w4 hD4; have heq := HEQ.out)
    | (refine wpList_bldgT (by kernel_rfl) 41 _ rfl #[] (by first | rfl | kernel_rfl) _ (HBD.out _) ?_)
    | (refine wpList_ldgv (by kernel_rfl) 41 _ rfl _ _ rfl HC rH4 Tryd.underlying41 rfl iH ?_)
    | (go_at_call 20; refine (compare_nil w4 HC).mono ?_; rintro e w5 ⟨rfl, hb5⟩)
    | (go_at_call 18; refine (proofs_nil w5).mono ?_; rintro e w6 ⟨rfl, rfl⟩)
    | (go_at_call 21; refine (fork_nil w6).mono ?_; rintro e w7 ⟨rfl, rfl⟩))
  go_ret
  have hB1 := hB.trans (hb1.mono hB.size)
  have hB2 := hB1.trans (hb2.mono hB1.size)
  have hB3 := hB2.trans (hb3.mono hB2.size)
  have hB4 := hB3.trans (hb4.mono hB3.size)
  exact ⟨rfl, hB4.trans (hb5.mono hB4.size)⟩
end Go.Proofs.YtgcidamdbidgiaaDoor
