/- A block that is not of 64 bytes changes no words (the statement ShaOdd), walked. -/
import Derived.Test.YtdnocgpcfahpgaaDoorEq
namespace Go.Proofs.YtdnocgpcfahpgaaDoor
open Go.RowKit
set_option maxRecDepth 20000

/-- The eight cells are there wherever nothing that was there has turned. -/
theorem keep8c {W0 : World} {B : Nat} {t : TypeId} {s0 s1 s2 s3 s4 s5 s6 s7 : Int} (h : Holds W0 B .u32 t [s0, s1, s2, s3, s4, s5, s6, s7]) (w' : World) (hb : Below W0.heap.size W0 w') :
    w'.cell? ⟨B, 0, none⟩ = some (.int .u32 s0) ∧ w'.cell? ⟨B, 1, none⟩ = some (.int .u32 s1) ∧ w'.cell? ⟨B, 2, none⟩ = some (.int .u32 s2) ∧ w'.cell? ⟨B, 3, none⟩ = some (.int .u32 s3) ∧
      w'.cell? ⟨B, 4, none⟩ = some (.int .u32 s4) ∧ w'.cell? ⟨B, 5, none⟩ = some (.int .u32 s5) ∧ w'.cell? ⟨B, 6, none⟩ = some (.int .u32 s6) ∧ w'.cell? ⟨B, 7, none⟩ = some (.int .u32 s7) :=
  (facts8' (h.below hb h.lt)).1

theorem odd_walk (s0 s1 s2 s3 s4 s5 s6 s7 : Int) (x : Option Addr) (len cap : Nat) (w : World) (hk : KTab w) (hx : x = none → len = 0) (hle : len ≤ cap) (htop : cap ≤ 9223372036854775807) :
    Calls Tryd.prog 8 #[.agg (row .u32 [s0, s1, s2, s3, s4, s5, s6, s7]), .slice x len cap] w fun e w' => e = .returned (.bool true) ∧ Below w.heap.size w w' := by
  have hstep : ∀ (l : Nat) (wx : World), ((l : Int) == 64) = false → Calls Tryd.prog 17 #[.agg #[.int .u32 s0, .int .u32 s1, .int .u32 s2, .int .u32 s3, .int .u32 s4, .int .u32 s5, .int .u32 s6, .int .u32 s7], .slice x l cap] wx
      fun e w' => e = .returned (.agg #[.int .u32 s0, .int .u32 s1, .int .u32 s2, .int .u32 s3, .int .u32 s4, .int .u32 s5, .int .u32 s6, .int .u32 s7]) ∧ Below wx.heap.size wx w' := fun l wx hl =>
    step_odd [s0, s1, s2, s3, s4, s5, s6, s7] x l cap wx rfl hl
  have heq : ∀ wx, (Op.equalIn 10000 32 (.agg #[.int .u32 s0, .int .u32 s1, .int .u32 s2, .int .u32 s3, .int .u32 s4, .int .u32 s5, .int .u32 s6, .int .u32 s7]) (.agg #[.int .u32 s0, .int .u32 s1, .int .u32 s2, .int .u32 s3, .int .u32 s4, .int .u32 s5, .int .u32 s6, .int .u32 s7])).run Tryd.prog wx = .ok true wx := fun wx => by
    have := eqState [s0, s1, s2, s3, s4, s5, s6, s7] [s0, s1, s2, s3, s4, s5, s6, s7] rfl rfl wx
    rw [beq_self_eq_true] at this
    exact this
  have hgd := guardState
  by_cases h64 : len = 64
  · subst h64
    cases x with
    | none => exact absurd (hx rfl) (by omega)
    | some a =>
      go_enter Tryd.func8, Tryd.ntmps8
      go_upto_region 3 with fail
      refine forget (p := fun y => Code.wp _ _ _ _ y) (fun W0 => Below w.heap.size w W0 ∧ Holds W0 w.heap.size .u32 31 [s0, s1, s2, s3, s4, s5, s6, s7]) ⟨(Below.refl _ _).alloc (Nat.le_refl _) _, Holds.new w .u32 31 _⟩ ?_
      rintro W0 ⟨hB, hH⟩
      have hk0 : KTab W0 := hk.below hB
      go_region_held3 (fun w' => w'.cell? ⟨w.heap.size, 0, none⟩ = some (.int .u32 s0) ∧ w'.cell? ⟨w.heap.size, 1, none⟩ = some (.int .u32 s1) ∧ w'.cell? ⟨w.heap.size, 2, none⟩ = some (.int .u32 s2) ∧ w'.cell? ⟨w.heap.size, 3, none⟩ = some (.int .u32 s3) ∧
          w'.cell? ⟨w.heap.size, 4, none⟩ = some (.int .u32 s4) ∧ w'.cell? ⟨w.heap.size, 5, none⟩ = some (.int .u32 s5) ∧ w'.cell? ⟨w.heap.size, 6, none⟩ = some (.int .u32 s6) ∧ w'.cell? ⟨w.heap.size, 7, none⟩ = some (.int .u32 s7))
        ((refine keep8c hH _ ?_; first | with_reducible exact hbw1 | with_reducible exact hbw2 | with_reducible exact (Below.refl _ _).drew))
        (first
        | (go_at_call 10; refine (live_any _ (hk0.below (Below.refl _ _).drew)).mono ?_; rintro e w1 ⟨rfl, hb1⟩; have hbw1 : Below W0.heap.size W0 w1 := ((Below.refl _ _).drew).trans hb1)
        | (go_at_call 17; refine (hstep 63 _ (by decide)).mono ?_; rintro e w2 ⟨rfl, hb2⟩; have hbw2 : Below W0.heap.size W0 w2 := hbw1.trans (hb2.mono hbw1.size)))
      go_wp2
      go_ret
      exact ⟨rfl, hB.trans (hbw2.mono hB.size)⟩
  · have hl64 : ((len : Int) == 64) = false := by simp; omega
    go_enter Tryd.func8, Tryd.ntmps8
    go_upto_region 3 with fail
    refine forget (p := fun y => Code.wp _ _ _ _ y) (fun W0 => Below w.heap.size w W0 ∧ Holds W0 w.heap.size .u32 31 [s0, s1, s2, s3, s4, s5, s6, s7]) ⟨(Below.refl _ _).alloc (Nat.le_refl _) _, Holds.new w .u32 31 _⟩ ?_
    rintro W0 ⟨hB, hH⟩
    have hk0 : KTab W0 := hk.below hB
    go_region_held3 (fun w' => w'.cell? ⟨w.heap.size, 0, none⟩ = some (.int .u32 s0) ∧ w'.cell? ⟨w.heap.size, 1, none⟩ = some (.int .u32 s1) ∧ w'.cell? ⟨w.heap.size, 2, none⟩ = some (.int .u32 s2) ∧ w'.cell? ⟨w.heap.size, 3, none⟩ = some (.int .u32 s3) ∧
        w'.cell? ⟨w.heap.size, 4, none⟩ = some (.int .u32 s4) ∧ w'.cell? ⟨w.heap.size, 5, none⟩ = some (.int .u32 s5) ∧ w'.cell? ⟨w.heap.size, 6, none⟩ = some (.int .u32 s6) ∧ w'.cell? ⟨w.heap.size, 7, none⟩ = some (.int .u32 s7))
      ((refine keep8c hH _ ?_; first | with_reducible exact hbw1 | with_reducible exact hbw2 | with_reducible exact (Below.refl _ _).drew))
      (first
      | (go_at_call 10; refine (live_any _ (hk0.below (Below.refl _ _).drew)).mono ?_; rintro e w1 ⟨rfl, hb1⟩; have hbw1 : Below W0.heap.size W0 w1 := ((Below.refl _ _).drew).trans hb1)
      | (go_at_call 17; refine (hstep len _ hl64).mono ?_; rintro e w2 ⟨rfl, hb2⟩; have hbw2 : Below W0.heap.size W0 w2 := hbw1.trans (hb2.mono hbw1.size)))
    go_wp2
    go_ret
    exact ⟨rfl, hB.trans (hbw2.mono hB.size)⟩
end Go.Proofs.YtdnocgpcfahpgaaDoor
