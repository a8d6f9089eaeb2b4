/- acl: 'live'. -/
import Derived.Test.YthodlbkgggaibaaAb10
namespace Go.Proofs.Ythodlbkgggaibaa
open Go.RowKit Go.Shelf
set_option maxRecDepth 20000
set_option linter.unusedSimpArgs false
abbrev e9 : Ev := ⟨0, 1, [0, 0, 0, 0, 0, 0, 0, 0], 3, 0, 0, false, 0, 3, 2⟩
theorem e9_ok : e9.Ok := by constructor <;> (try unfold okD) <;> decide
theorem e9_ref : refB [] e9 = 0 := by decide
theorem e9_add : addB [] e9 = [(e9, true)] := by
  unfold addB
  rw [if_pos e9_ref, show (roleP [] e9.da e9.past == 3) = true from by decide]; rfl
theorem e9_r0 : roleP [(e9, true)] 0 [0, 0, 0, 0, 0, 0, 0, 0] = 3 := by decide
theorem e9_r3 : roleP [(e9, true)] 3 [0, 0, 0, 0, 0, 0, 0, 0] = 0 := by decide
theorem e9_r2 : roleP [(e9, true)] 3 [1, 0, 0, 0, 0, 0, 0, 0] = 2 := by decide
set_option maxHeartbeats 4000000 in
theorem live9_any (w : World) : Calls Try.prog 14 #[] w fun r w' => r = .returned (.bool true) ∧ Below w.heap.size w w' := by
  have hadd : ∀ W H b, BookC W H b [] → Calls Try.prog 18 #[.pointer (some ⟨H, 0, none⟩), .agg #[.int .u8 0, .int .u32 1, .int .u32 0, .int .u32 0, .int .u32 0, .int .u32 0, .int .u32 0, .int .u32 0, .int .u32 0, .int .u32 0, .int .u8 3, .int .u8 0, .int .u32 0, .bool false, .int .u8 0, .int .u8 3, .int .u8 2]] W fun r w' => r = .returned (.int .i64 0) ∧ BookC w' H b [(e9, true)] ∧ Turn (fun k => k = b) W w' := fun W H b hC => by
    have := badd_any H b [] e9 W hC e9_ok (by decide)
    rw [e9_ref, e9_add] at this
    exact this
  have hro : ∀ W H b, BookC W H b [(e9, true)] → (Calls Try.prog 17 #[.pointer (some ⟨H, 0, none⟩), .int .u8 0, .agg #[.int .u32 0, .int .u32 0, .int .u32 0, .int .u32 0, .int .u32 0, .int .u32 0, .int .u32 0, .int .u32 0]] W fun r w' => r = .returned (.int .u8 3) ∧ Below W.heap.size W w') ∧ (Calls Try.prog 17 #[.pointer (some ⟨H, 0, none⟩), .int .u8 3, .agg #[.int .u32 0, .int .u32 0, .int .u32 0, .int .u32 0, .int .u32 0, .int .u32 0, .int .u32 0, .int .u32 0]] W fun r w' => r = .returned (.int .u8 0) ∧ Below W.heap.size W w') ∧ (Calls Try.prog 17 #[.pointer (some ⟨H, 0, none⟩), .int .u8 3, .agg #[.int .u32 1, .int .u32 0, .int .u32 0, .int .u32 0, .int .u32 0, .int .u32 0, .int .u32 0, .int .u32 0]] W fun r w' => r = .returned (.int .u8 2) ∧ Below W.heap.size W w') ∧ (Calls Try.prog 23 #[.pointer (some ⟨H, 0, none⟩), .agg #[.int .u8 0, .int .u32 1]] W fun r w' => r = .returned (.bool true) ∧ Below W.heap.size W w') := fun W H b hC => by
    refine ⟨?_, ?_, ?_, ?_⟩
    · have := role_any H b [(e9, true)] 0 [0, 0, 0, 0, 0, 0, 0, 0] W hC rfl
      rw [e9_r0] at this; exact this
    · have := role_any H b [(e9, true)] 3 [0, 0, 0, 0, 0, 0, 0, 0] W hC rfl
      rw [e9_r3] at this; exact this
    · have := role_any H b [(e9, true)] 3 [1, 0, 0, 0, 0, 0, 0, 0] W hC rfl
      rw [e9_r2] at this; exact this
    · exact bcounts_any H b [(e9, true)] 0 1 W hC (by unfold okD; decide)
  have HRO := Veil.mk hro
  have HAD := Veil.mk hadd
  have hnew := bnew_any w
  have hE : ∀ W, (Instr.build 41 #[(0, .agg #[.int .u8 0, .int .u32 1]), (2, .int .u8 3), (6, .int .u8 3), (7, .int .u8 2)]).run Try.prog W = .ok (.agg #[.int .u8 0, .int .u32 1, .int .u32 0, .int .u32 0, .int .u32 0, .int .u32 0, .int .u32 0, .int .u32 0, .int .u32 0, .int .u32 0, .int .u8 3, .int .u8 0, .int .u32 0, .bool false, .int .u8 0, .int .u8 3, .int .u8 2]) W := fun W => by kernel_rfl
  have hD : ∀ W, (Instr.build 38 #[(1, .int .u32 1)]).run Try.prog W = .ok (.agg #[.int .u8 0, .int .u32 1]) W := fun W => by kernel_rfl
  have hV1 : ∀ W, (Instr.build 25 #[(0, .int .u32 1)]).run Try.prog W = .ok (.agg #[.int .u32 1, .int .u32 0, .int .u32 0, .int .u32 0, .int .u32 0, .int .u32 0, .int .u32 0, .int .u32 0]) W := fun W => by kernel_rfl
  clear hadd hro
  go_enter Try.func14, Try.ntmps14
  go_wp2_with (first
    | (go_at_call 23; refine hr4.mono ?_; rintro z W6 ⟨rfl, hb6⟩)
    | (go_at_call 17; refine hr3.mono ?_; rintro z W5 ⟨rfl, hb5⟩; have hC5 := hC4.far hb5; obtain ⟨-, -, -, hr4⟩ := HRO.out W5 H b hC5)
    | (go_at_call 17; refine hr2.mono ?_; rintro z W4 ⟨rfl, hb4⟩; have hC4 := hC3.far hb4; obtain ⟨-, -, hr3, -⟩ := HRO.out W4 H b hC4; clear hr2)
    | (go_at_call 17; refine hr1.mono ?_; rintro z W3 ⟨rfl, hb3⟩; have hC3 := hC2.far hb3; obtain ⟨-, hr2, -, -⟩ := HRO.out W3 H b hC3; clear hr1)
    | (go_at_call 18; refine (HAD.out W1 H b hC1).mono ?_; rintro z W2 ⟨rfl, hC2, ht2⟩; obtain ⟨hr1, -, -, -⟩ := HRO.out W2 H b hC2)
    | (go_at_call 24; refine hnew.mono ?_; rintro z W1 ⟨H, b, rfl, hC1, hb1, hlb, hlH⟩))
  go_ret
  refine ⟨rfl, ?_⟩
  have h2 : Below w.heap.size w W2 := ⟨ht2.os.trans hb1.os, ht2.tape.trans hb1.tape, ht2.output.trans hb1.output, Nat.le_trans hb1.size ht2.size, fun k hk => (ht2.block k (Nat.lt_of_lt_of_le hk hb1.size) (by omega)).trans (hb1.block k hk)⟩
  have h3 := h2.trans (hb3.mono h2.size)
  have h4 := h3.trans (hb4.mono h3.size)
  have h5 := h4.trans (hb5.mono h4.size)
  exact h5.trans (hb6.mono h5.size)
end Go.Proofs.Ythodlbkgggaibaa

