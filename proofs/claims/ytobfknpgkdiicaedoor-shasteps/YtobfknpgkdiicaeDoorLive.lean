/- 'live' of the statements on sha: what must be whatever is asked: the digest of no bytes by the kernel's own reckoning. -/
import Derived.Test.YtobfknpgkdiicaeDoorSum
namespace Go.Proofs.YtobfknpgkdiicaeDoor
open Go.RowKit
set_option maxRecDepth 100000

theorem sum_nil : sumL [] = [227, 176, 196, 66, 152, 252, 28, 20, 154, 251, 244, 200, 153, 111, 185, 36, 39, 174, 65, 228, 100, 155, 147, 76, 164, 149, 153, 27, 120, 82, 184, 85] := by kernel_rfl



theorem padNil (w : World) :
    Calls Tryd.prog 11 #[.slice none 0 0] w fun e w' => ∃ g, e = .returned (.slice (some ⟨g, 0, none⟩) 64 64) ∧ Below w.heap.size w w' :=
  by
  have h := pad_any none 0 0 [] w (bytes_nil w) (by omega)
  have e : padSize ([] : List Int).length = 64 := by decide
  rw [e] at h
  exact h.mono fun _ _ ⟨g, h1, _, _, h2⟩ => ⟨g, h1, h2⟩

theorem index_start (wx : World) : (Instr.index 26 (.agg #[.int .u32 1779033703, .int .u32 3144134277, .int .u32 1013904242, .int .u32 2773480762, .int .u32 1359893119, .int .u32 2600822924, .int .u32 528734635, .int .u32 1541459225]) (.int .i64 0)).run Tryd.prog wx = .ok (.int .u32 1779033703) wx :=
  run_index_row wx 26 22 8 .u32 startL 0 Tryd.underlying26 Tryd.underlying22 size1u32 rfl (by omega)

theorem live_any (w : World) (hk : KTab w) :
    Calls Tryd.prog 5 #[] w fun e w' => e = .returned (.bool true) ∧ Below w.heap.size w w' := by
  have hix := index_start
  have hsum := fun wx hx => sum_any none 0 0 [] wx (bytes_nil wx) (by omega) hx
  have q0 : (sumL [])[0]?.getD 0 = 227 := by rw [sum_nil]; rfl
  have q1 : (sumL [])[1]?.getD 0 = 176 := by rw [sum_nil]; rfl
  have q31 : (sumL [])[31]?.getD 0 = 85 := by rw [sum_nil]; rfl
  have ql := sumL_length []
  obtain ⟨D, hD⟩ : ∃ D, sumL [] = D := ⟨_, rfl⟩
  rw [hD] at q0 q1 q31 ql hsum
  clear hD
  go_enter Tryd.func5, Tryd.ntmps5
  go_upto_region 2 with (first
    | (go_at_call 9; refine (hsum _ hk).mono ?_; rintro e w1 ⟨rfl, hb1⟩; have hN := Holds.new w1 .u8 32 (List.replicate 32 0))
    | (refine wpList_st rfl 32 _ _ rfl _ rfl rfl hN (by rw [ql]; exact sizeKey) (by simp [ql]) ?_))
  refine forget (p := fun y => Code.wp _ _ _ _ y) (fun W0 => Below w.heap.size w W0 ∧ Holds W0 w1.heap.size .u8 32 D) ⟨below_setRow (hb1.alloc hb1.size _) hb1.size _, hN.setRow _⟩ ?_
  rintro W0 ⟨hB, hH⟩
  have c0 := hH.cell 0 (by omega)
  have c1 := hH.cell 1 (by omega)
  have c31 := hH.cell 31 (by omega)
  rw [q0] at c0
  rw [q1] at c1
  rw [q31] at c31
  clear hN hb1 hsum q0 q1 q31 ql hk
  go_wp2_with (first
    | (go_at_call 11; refine (padNil _).mono ?_; rintro e w2 ⟨g, rfl, hb2⟩)
    | (go_at_call 12; refine (start8 _).mono ?_; rintro e w3 ⟨rfl, hb3⟩))
  go_ret
  exact ⟨rfl, (hB.trans (hb2.mono hB.size)).trans (hb3.mono (Nat.le_trans hB.size hb2.size))⟩
end Go.Proofs.YtobfknpgkdiicaeDoor
