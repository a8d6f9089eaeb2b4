/- The words behind a block are the reference's (the statement ShaSteps), walked. -/
import Derived.Test.YtobfknpgkdiicaeDoorEq
import Derived.Test.YtobfknpgkdiicaeDoorRefStepB
namespace Go.Proofs.YtobfknpgkdiicaeDoor
open Go.RowKit
set_option maxRecDepth 20000
set_option linter.unusedSimpArgs false

/-- The eight cells are there wherever nothing that was there has turned. -/
theorem keep8c {W0 : World} {B : Nat} {t : TypeId} {s0 s1 s2 s3 s4 s5 s6 s7 : Int} (h : Holds W0 B .u32 t [s0, s1, s2, s3, s4, s5, s6, s7]) (w' : World) (hb : Below W0.heap.size W0 w') :
    w'.cell? ⟨B, 0, none⟩ = some (.int .u32 s0) ∧ w'.cell? ⟨B, 1, none⟩ = some (.int .u32 s1) ∧ w'.cell? ⟨B, 2, none⟩ = some (.int .u32 s2) ∧ w'.cell? ⟨B, 3, none⟩ = some (.int .u32 s3) ∧
      w'.cell? ⟨B, 4, none⟩ = some (.int .u32 s4) ∧ w'.cell? ⟨B, 5, none⟩ = some (.int .u32 s5) ∧ w'.cell? ⟨B, 6, none⟩ = some (.int .u32 s6) ∧ w'.cell? ⟨B, 7, none⟩ = some (.int .u32 s7) :=
  (facts8' (h.below hb h.lt)).1


set_option maxHeartbeats 1000000 in
theorem steps_core (s0 s1 s2 s3 s4 s5 s6 s7 r0 r1 r2 r3 r4 r5 r6 r7 : Int) (x : Option Addr) (len cap : Nat) (w : World) (hk : KTab w)
    (h1 : ∀ wx, Below w.heap.size w wx → Calls Tryd.prog 6 #[.agg #[.int .u32 s0, .int .u32 s1, .int .u32 s2, .int .u32 s3, .int .u32 s4, .int .u32 s5, .int .u32 s6, .int .u32 s7], .slice x len cap] wx
      fun e w' => e = .returned (.agg #[.int .u32 r0, .int .u32 r1, .int .u32 r2, .int .u32 r3, .int .u32 r4, .int .u32 r5, .int .u32 r6, .int .u32 r7]) ∧ Below wx.heap.size wx w')
    (h2 : ∀ wx, Below w.heap.size w wx → Calls Tryd.prog 7 #[.agg #[.int .u32 s0, .int .u32 s1, .int .u32 s2, .int .u32 s3, .int .u32 s4, .int .u32 s5, .int .u32 s6, .int .u32 s7], .slice x len cap] wx
      fun e w' => e = .returned (.agg #[.int .u32 r0, .int .u32 r1, .int .u32 r2, .int .u32 r3, .int .u32 r4, .int .u32 r5, .int .u32 r6, .int .u32 r7]) ∧ Below wx.heap.size wx w') :
    Calls Tryd.prog 3 #[.agg (row .u32 [s0, s1, s2, s3, s4, s5, s6, s7]), .slice x len cap] w fun e w' => e = .returned (.bool true) ∧ Below w.heap.size w w' := by
  have heq : ∀ wx, (Op.equalIn 10000 23 (.agg #[.int .u32 r0, .int .u32 r1, .int .u32 r2, .int .u32 r3, .int .u32 r4, .int .u32 r5, .int .u32 r6, .int .u32 r7]) (.agg #[.int .u32 r0, .int .u32 r1, .int .u32 r2, .int .u32 r3, .int .u32 r4, .int .u32 r5, .int .u32 r6, .int .u32 r7])).run Tryd.prog wx = .ok true wx := fun wx => by
    have := eqArr8 [r0, r1, r2, r3, r4, r5, r6, r7] [r0, r1, r2, r3, r4, r5, r6, r7] rfl rfl wx
    rw [beq_self_eq_true] at this
    exact this
  have hgd := guardArr8
  go_enter Tryd.func3, Tryd.ntmps3
  go_upto_region 1 with fail
  refine forget (p := fun y => Code.wp _ _ _ _ y) (fun W0 => Below w.heap.size w W0 ∧ Holds W0 w.heap.size .u32 23 [s0, s1, s2, s3, s4, s5, s6, s7]) ⟨(Below.refl _ _).alloc (Nat.le_refl _) _, Holds.new w .u32 23 _⟩ ?_
  rintro W0 ⟨hB, hH⟩
  have hk0 : KTab W0 := hk.below hB
  go_region_held3 (fun w' => w'.cell? ⟨w.heap.size, 0, none⟩ = some (.int .u32 s0) ∧ w'.cell? ⟨w.heap.size, 1, none⟩ = some (.int .u32 s1) ∧ w'.cell? ⟨w.heap.size, 2, none⟩ = some (.int .u32 s2) ∧ w'.cell? ⟨w.heap.size, 3, none⟩ = some (.int .u32 s3) ∧
      w'.cell? ⟨w.heap.size, 4, none⟩ = some (.int .u32 s4) ∧ w'.cell? ⟨w.heap.size, 5, none⟩ = some (.int .u32 s5) ∧ w'.cell? ⟨w.heap.size, 6, none⟩ = some (.int .u32 s6) ∧ w'.cell? ⟨w.heap.size, 7, none⟩ = some (.int .u32 s7))
    ((refine keep8c hH _ ?_; first | with_reducible exact hbw1 | with_reducible exact hbw2 | with_reducible exact hbw3 | with_reducible exact (Below.refl _ _).drew))
    (first
    | (go_at_call 5; refine (live_any _ (hk0.below (Below.refl _ _).drew)).mono ?_; rintro e w1 ⟨rfl, hb1⟩; have hbw1 : Below W0.heap.size W0 w1 := ((Below.refl _ _).drew).trans hb1)
    | (go_at_call 6; refine (h1 _ (hB.trans (hbw1.mono hB.size))).mono ?_; rintro e w2 ⟨rfl, hb2⟩; have hbw2 : Below W0.heap.size W0 w2 := hbw1.trans (hb2.mono hbw1.size))
    | (go_at_call 7; refine (h2 _ (hB.trans (hbw2.mono hB.size))).mono ?_; rintro e w3 ⟨rfl, hb3⟩; have hbw3 : Below W0.heap.size W0 w3 := hbw2.trans (hb3.mono hbw2.size)))
  go_wp2
  go_ret
  exact ⟨rfl, hB.trans (hbw3.mono hB.size)⟩

theorem steps_walk (s : List Int) (x : Option Addr) (len cap : Nat) (z : List Int) (w : World) (hs : s.length = 8) (hin : InU s) (hk : KTab w) (hz : Bytes w x len cap z) :
    Calls Tryd.prog 3 #[.agg (row .u32 s), .slice x len cap] w fun e w' => e = .returned (.bool true) ∧ Below w.heap.size w w' := by
  by_cases h64 : len = 64
  · subst h64
    obtain ⟨b, off, hx, hcell⟩ : ∃ b off, x = some ⟨b, off, none⟩ ∧ ∀ j, j < 64 → w.cell? ⟨b, off + j, none⟩ = some (.int .u8 (z[j]?.getD 0)) := by
      rcases hz.at_ with h0 | h
      · omega
      · exact h
    subst hx
    have hb : b < w.heap.size := block_lt_of_cell (hcell 0 (by omega))
    have hc : ∀ wx, Below w.heap.size w wx → ∀ j, j < 64 → wx.cell? ⟨b, off + j, none⟩ = some (.int .u8 (z[j]?.getD 0)) := fun wx hx j hj => (hx.cell (p := ⟨b, off + j, none⟩) hb).trans (hcell j hj)
    have h1 := fun wx (hx : Below w.heap.size w wx) => step_any s z b off cap wx hs hin (hk.below hx) hz.le hz.top (hc wx hx)
    have h2 := fun wx (hx : Below w.heap.size w wx) => refStep_any s z b off cap wx hs hin hz.le hz.top (hc wx hx)
    obtain ⟨r0, r1, r2, r3, r4, r5, r6, r7, hR⟩ := eight (stepL_length s z)
    rw [hR] at h1 h2
    obtain ⟨s0, s1, s2, s3, s4, s5, s6, s7, rfl⟩ := eight hs
    exact steps_core s0 s1 s2 s3 s4 s5 s6 s7 r0 r1 r2 r3 r4 r5 r6 r7 _ 64 cap w hk h1 h2
  · have hl64 : ((len : Int) == 64) = false := by simp; omega
    obtain ⟨s0, s1, s2, s3, s4, s5, s6, s7, rfl⟩ := eight hs
    exact steps_core s0 s1 s2 s3 s4 s5 s6 s7 s0 s1 s2 s3 s4 s5 s6 s7 x len cap w hk (fun wx _ => step_odd [s0, s1, s2, s3, s4, s5, s6, s7] x len cap wx rfl hl64) (fun wx _ => refStep_odd [s0, s1, s2, s3, s4, s5, s6, s7] x len cap wx rfl hl64)
end Go.Proofs.YtobfknpgkdiicaeDoor
