/- cmp.Compare of bytes and of numbers. -/
import Derived.Test.YtgmbmdmbnpkbbaaOd
namespace Go.Proofs.Ytgmbmdmbnpkbbaa
open Go.RowKit
set_option maxRecDepth 20000
set_option linter.unusedSimpArgs false
def cmpI (a b : Int) : Int := if a < b then -1 else if b < a then 1 else 0
def cmpD (x y : Int × Int) : Int := if x.1 = y.1 then cmpI x.2 y.2 else cmpI x.1 y.1
theorem nanB_any (a : Int) (w : World) : Calls Try.prog 83 #[.int .u8 a] w fun e w' => e = .returned (.bool false) ∧ w' = w := by
  go_enter Try.func83, Try.ntmps83
  go_wp2
  go_ret
  exact ⟨rfl, rfl⟩
theorem nanU_any (a : Int) (w : World) : Calls Try.prog 84 #[.int .u32 a] w fun e w' => e = .returned (.bool false) ∧ w' = w := by
  go_enter Try.func84, Try.ntmps84
  go_wp2
  go_ret
  exact ⟨rfl, rfl⟩
theorem cmpB_any (a b : Int) (w : World) : Calls Try.prog 79 #[.int .u8 a, .int .u8 b] w fun e w' => e = .returned (.int .i64 (cmpI a b)) ∧ w' = w := by
  have hn := fun x => nanB_any x w
  have HC : Veil (cmpI a b = if a < b then -1 else if b < a then 1 else 0) := ⟨rfl⟩
  generalize cmpI a b = R at HC ⊢
  go_enter Try.func79, Try.ntmps79
  by_cases h1 : a < b
  · have HR : Veil (R = -1) := ⟨by rw [HC.out, if_pos h1]⟩
    go_wp2_with (go_at_call 83; refine (hn _).mono ?_; rintro e w' ⟨rfl, rfl⟩)
    go_ret
    exact ⟨by rw [HR.out]; rfl, rfl⟩
  · by_cases h2 : b < a
    · have HR : Veil (R = 1) := ⟨by rw [HC.out, if_neg h1, if_pos h2]⟩
      go_wp2_with (go_at_call 83; refine (hn _).mono ?_; rintro e w' ⟨rfl, rfl⟩)
      go_ret
      exact ⟨by rw [HR.out]; rfl, rfl⟩
    · have HR : Veil (R = 0) := ⟨by rw [HC.out, if_neg h1, if_neg h2]⟩
      go_wp2_with (go_at_call 83; refine (hn _).mono ?_; rintro e w' ⟨rfl, rfl⟩)
      go_ret
      exact ⟨by rw [HR.out]; rfl, rfl⟩
theorem cmpU_any (a b : Int) (w : World) : Calls Try.prog 80 #[.int .u32 a, .int .u32 b] w fun e w' => e = .returned (.int .i64 (cmpI a b)) ∧ w' = w := by
  have hn := fun x => nanU_any x w
  have HC : Veil (cmpI a b = if a < b then -1 else if b < a then 1 else 0) := ⟨rfl⟩
  generalize cmpI a b = R at HC ⊢
  go_enter Try.func80, Try.ntmps80
  by_cases h1 : a < b
  · have HR : Veil (R = -1) := ⟨by rw [HC.out, if_pos h1]⟩
    go_wp2_with (go_at_call 84; refine (hn _).mono ?_; rintro e w' ⟨rfl, rfl⟩)
    go_ret
    exact ⟨by rw [HR.out]; rfl, rfl⟩
  · by_cases h2 : b < a
    · have HR : Veil (R = 1) := ⟨by rw [HC.out, if_neg h1, if_pos h2]⟩
      go_wp2_with (go_at_call 84; refine (hn _).mono ?_; rintro e w' ⟨rfl, rfl⟩)
      go_ret
      exact ⟨by rw [HR.out]; rfl, rfl⟩
    · have HR : Veil (R = 0) := ⟨by rw [HC.out, if_neg h1, if_neg h2]⟩
      go_wp2_with (go_at_call 84; refine (hn _).mono ?_; rintro e w' ⟨rfl, rfl⟩)
      go_ret
      exact ⟨by rw [HR.out]; rfl, rfl⟩
end Go.Proofs.Ytgmbmdmbnpkbbaa

