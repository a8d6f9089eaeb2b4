/- The bytes that are digested are those of the reference (the statement ShaPads), walked. -/
import Derived.Test.YtdnocgpcfahpgaaDoorStr
import Derived.Test.YtdnocgpcfahpgaaDoorEq
import Derived.Test.YtdnocgpcfahpgaaDoorOdd
namespace Go.Proofs.YtdnocgpcfahpgaaDoor
open Go.RowKit
set_option maxRecDepth 20000

theorem refStart_any (w : World) :
    Calls Tryd.prog 16 #[] w fun e w' => e = .returned (.agg #[.int .u32 1779033703, .int .u32 3144134277, .int .u32 1013904242, .int .u32 2773480762, .int .u32 1359893119, .int .u32 2600822924, .int .u32 528734635, .int .u32 1541459225]) ∧ Below w.heap.size w w' := by
  go_enter Tryd.func16, Tryd.ntmps16
  go_wp2
  exact bodyPost_ret (v := .agg #[.int .u32 1779033703, .int .u32 3144134277, .int .u32 1013904242, .int .u32 2773480762, .int .u32 1359893119, .int .u32 2600822924, .int .u32 528734635, .int .u32 1541459225]) (by simp [results, Tryd.results16, go_sem]) rfl ⟨rfl, (Below.refl _ _).alloc (Nat.le_refl _) _⟩

set_option maxHeartbeats 4000000 in
theorem pads_walk (x : Option Addr) (len cap : Nat) (z : List Int) (w : World) (hk : KTab w) (hz : Bytes w x len cap z) :
    Calls Tryd.prog 4 #[.slice x len cap] w fun e w' => e = .returned (.bool true) ∧ Below w.heap.size w w' := by
  have hf := few_any x len cap 600 z w hz (by omega) (by omega)
  have hz6 := hz.few 600
  have hzl : (z.take 600).length ≤ 600 := by rw [List.length_take]; omega
  obtain ⟨l6, hl6⟩ : ∃ l, min len 600 = l := ⟨_, rfl⟩
  obtain ⟨z6, hz6e⟩ : ∃ l, z.take 600 = l := ⟨_, rfl⟩
  rw [hl6] at hf hz6
  rw [hz6e] at hz6 hzl
  have hl6b : l6 ≤ 600 := by omega
  clear hl6 hz6e hz
  have hpl : (padL z6).length ≤ 4000000 := by rw [padL_length]; unfold padSize; omega
  have heq : ∀ wx, (Op.equalIn 10000 31 (.agg #[.int .u32 1779033703, .int .u32 3144134277, .int .u32 1013904242, .int .u32 2773480762, .int .u32 1359893119, .int .u32 2600822924, .int .u32 528734635, .int .u32 1541459225]) (.agg #[.int .u32 1779033703, .int .u32 3144134277, .int .u32 1013904242, .int .u32 2773480762, .int .u32 1359893119, .int .u32 2600822924, .int .u32 528734635, .int .u32 1541459225])).run Tryd.prog wx = .ok true wx := fun wx => by
    have := eqArr8 startL startL rfl rfl wx
    rw [beq_self_eq_true] at this
    exact this
  have hgd := guardArr8
  have pB : ∀ wx, Below w.heap.size w wx → Calls Tryd.prog 13 #[.slice x l6 cap] wx fun e w' => ∃ g m, e = .returned (.slice (some ⟨g, 0, none⟩) m m) ∧ Bytes w' (some ⟨g, 0, none⟩) m m (padL z6) ∧ Below wx.heap.size wx w' := fun wx hx =>
    (pad_any x l6 cap z6 wx (hz6.below hx) (by omega)).mono fun e w' ⟨g, h1, _, h2, h3⟩ => ⟨g, _, h1, h2.bytes (padL_length _).symm hpl, h3⟩
  have rB : ∀ wx, Below w.heap.size w wx → Calls Tryd.prog 14 #[.slice x l6 cap] wx fun e w' => ∃ y n c, e = .returned (.slice y n c) ∧ Bytes w' y n c (padL z6) ∧ Below wx.heap.size wx w' := fun wx hx =>
    (refPad_any x l6 cap z6 wx (hz6.below hx) (by omega)).mono fun e w' ⟨v, h1, h2, h3⟩ => by
      rcases h2.2 with ⟨rfl, _⟩ | ⟨g, c, cur, rfl, _⟩
      · exact ⟨none, 0, 0, h1, h2.bytes.2, h3⟩
      · exact ⟨_, _, _, h1, h2.bytes.2, h3⟩
  clear hpl
  go_enter Tryd.func4, Tryd.ntmps4
  go_upto_region 2 with (go_at_call 9; refine hf.mono ?_; rintro e w' ⟨rfl, rfl⟩)
  clear hf
  go_region_with (first
    | (go_at_call 10; refine (live_any _ (hk.below (Below.refl _ _).drew)).mono ?_; rintro e w1 ⟨rfl, hb1⟩; have hbw1 : Below w.heap.size w w1 := ((Below.refl _ _).drew).trans hb1)
    | (go_at_call 13; refine (pB _ hbw1).mono ?_; rintro e w2 ⟨g, m, rfl, hy2, hb2⟩; have hbw2 : Below w.heap.size w w2 := hbw1.trans (hb2.mono hbw1.size); have cv2 := conv_bytes hy2)
    | (go_at_call 14; refine (rB _ hbw2).mono ?_; rintro e w3 ⟨y, n, c, rfl, hy3, hb3⟩; have hbw3 : Below w.heap.size w w3 := hbw2.trans (hb3.mono hbw2.size); have cv3 := conv_bytes hy3; have cv23 := conv_bytes (hy2.below hb3))
    | (go_at_call 15; refine (start8 _).mono ?_; rintro e w4 ⟨rfl, hb4⟩)
    | (go_at_call 16; refine (refStart_any _).mono ?_; rintro e w5 ⟨rfl, hb5⟩))
  all_goals go_wp2
  all_goals go_ret
  all_goals exact ⟨rfl, (hbw3.trans (hb4.mono hbw3.size)).trans (hb5.mono (Nat.le_trans hbw3.size hb4.size))⟩
end Go.Proofs.YtdnocgpcfahpgaaDoor
