/- Noughts of two cells appended, where there is no room. -/
import Derived.Test.YthjkcfpdkhghpaaFg3
namespace Go.Proofs.Ythjkcfpdkhghpaa
open Go.RowKit Go.Shelf
set_option maxRecDepth 20000
set_option linter.unusedSimpArgs false
abbrev dotZc : Array Value := #[.int .u8 0, .int .u32 0]
set_option maxHeartbeats 1000000 in
theorem run_app_zeros2 (w : World) (ty : TypeId) (g i c k : Nat) (pre : List Value) (hpre : pre.length = i * 2) (hsrc : ∀ j u, pre[j]? = some u → w.cell? ⟨g, j, none⟩ = some u) (hroom : c < i + k) (hk : i + k ≤ 1000000) (hk0 : 0 < k) :
    (Builtin.append_ #[83, 3] ty #[.slice (some ⟨g, 0, none⟩) i c, .int .i64 (k : Nat)]).run Try.prog w = .ok (.slice (some ⟨w.heap.size, 0, none⟩) (i + k) (grownCap w (i + k) c 32)) (w.drew.alloc (.cells (pre.toArray ++ Builtin.zeroCells dotZc k ++ Builtin.zeroCells dotZc (grownCap w (i + k) c 32 - (i + k))) 32)) := by
  obtain ⟨i0, hi, hz0, hz1, hz2⟩ := info_parts infoD2
  have hzc : (Value.agg #[.int .u8 0, .int .u32 0]).cells = dotZc := rfl
  have hai : ∀ wx, (asInt (.int .i64 (k : Nat))).run Try.prog wx = .ok (k : Int) wx := fun wx => by simp [asInt, asIntOf]
  have hwk : IntKind.i64.wrap (k : Int) = (k : Int) := by rw [IntKind.wrap_i64]; omega
  have hnr : ¬ (i + k ≤ c) := by omega
  have hfo := run_firstCells_some (P := Try.prog) w.drew 2 i ⟨g, 0, none⟩ i c pre hpre (fun j u hu => by rw [addF_mid, Nat.zero_add]; exact hsrc j u hu)
  have h63' : ¬ (9223372036854775807 < ((i : Int) + (k : Int))) := by omega
  have h63b : ¬ (9223372036854775807 < ((i : Int) + max (k : Int) 0)) := by omega
  have hfit := growslice_fits (need := i + k) (old := c) (bytes := 8) hroom (by omega)
  have h48' : ¬ (281474976710656 < Builtin.nextslicecap (i + k) c * 8) := by omega
  have hkn : ¬ ((k : Int) < 0) := by omega
  have hk8 : ¬ (281474976710656 < (k : Int) * 8) := by omega
  have hk2 : ¬ (k * 2 = 0) := by omega
  have hk3 : ¬ (k = 0) := by omega
  simp [Builtin.append_, run_underlying Try.underlying83, run_underlying Try.underlying3, sizeOf, typeInfo, zeroValue, hi, hz0, hz1, hz2, hai, hwk, hzc, hnr, h63', h63b, h48', hkn, hk8, hk2, hk3, Question.forced, hfo, newRow, grownCap]
end Go.Proofs.Ythjkcfpdkhghpaa

