/- What 'Clamp' answers, byte by byte. -/
import Derived.Test.YtnblcdpahpcglaaPf
import Derived.Laws.BitsLemmas
namespace Go.Proofs.Ytnblcdpahpcglaa
open Go.RowKit
set_option maxRecDepth 100000
set_option linter.unusedSimpArgs false

theorem sixteen {l : List Int} (h : l.length = 16) : ∃ a0 a1 a2 a3 a4 a5 a6 a7 a8 a9 b0 b1 b2 b3 b4 b5, l = [a0, a1, a2, a3, a4, a5, a6, a7, a8, a9, b0, b1, b2, b3, b4, b5] := by
  match l, h with
  | [a0, a1, a2, a3, a4, a5, a6, a7, a8, a9, b0, b1, b2, b3, b4, b5], _ => exact ⟨a0, a1, a2, a3, a4, a5, a6, a7, a8, a9, b0, b1, b2, b3, b4, b5, rfl⟩
theorem clampL_eq {k : List Int} {a0 a1 a2 a3 a4 a5 a6 a7 a8 a9 b0 b1 b2 b3 b4 b5 : Int} (h : k.take 16 = [a0, a1, a2, a3, a4, a5, a6, a7, a8, a9, b0, b1, b2, b3, b4, b5]) :
    clampL k = [a0, a1, a2, bits .and .u8 a3 15, bits .and .u8 a4 252, a5, a6, bits .and .u8 a7 15, bits .and .u8 a8 252, a9, b0, bits .and .u8 b1 15, bits .and .u8 b2 252, b3, b4, bits .and .u8 b5 15] := by
  unfold clampL; rw [h]; rfl
theorem and15 (v : Int) (h0 : 0 ≤ v) (h1 : v ≤ 255) : bits .and .u8 v 15 = v % 16 := bits_mask .u8 8 (by decide) wraps_u8 4 (by omega) v h0 (by omega)
theorem and252 (v : Int) (h0 : 0 ≤ v) (h1 : v ≤ 255) : bits .and .u8 v 252 = v / 4 * 4 := by
  obtain ⟨n, rfl⟩ := Int.eq_ofNat_of_zero_le h0
  have hn : n < 256 := by omega
  have key : ∀ m : Fin 256, bits .and .u8 (m.1 : Int) 252 = (m.1 : Int) / 4 * 4 := by decide +kernel
  exact key ⟨n, hn⟩
theorem clampL_in (k : List Int) (hk : k.length = 32) (hu : ∀ v ∈ k, 0 ≤ v ∧ v ≤ 255) : ∀ v ∈ clampL k, 0 ≤ v ∧ v ≤ 255 := by
  have hl : (k.take 16).length = 16 := by rw [List.length_take]; omega
  have hu' : ∀ v ∈ k.take 16, 0 ≤ v ∧ v ≤ 255 := fun v hv => hu v (List.mem_of_mem_take hv)
  obtain ⟨a0, a1, a2, a3, a4, a5, a6, a7, a8, a9, b0, b1, b2, b3, b4, b5, h⟩ := sixteen hl
  rw [h] at hu'
  rw [clampL_eq h, and15 a3 (hu' _ (by simp)).1 (hu' _ (by simp)).2, and15 a7 (hu' _ (by simp)).1 (hu' _ (by simp)).2, and15 b1 (hu' _ (by simp)).1 (hu' _ (by simp)).2, and15 b5 (hu' _ (by simp)).1 (hu' _ (by simp)).2, and252 a4 (hu' _ (by simp)).1 (hu' _ (by simp)).2, and252 a8 (hu' _ (by simp)).1 (hu' _ (by simp)).2, and252 b2 (hu' _ (by simp)).1 (hu' _ (by simp)).2]
  intro v hv
  simp only [List.mem_cons, List.not_mem_nil, or_false] at hv hu'
  have q := fun x hx => hu' x hx
  rcases hv with rfl | rfl | rfl | rfl | rfl | rfl | rfl | rfl | rfl | rfl | rfl | rfl | rfl | rfl | rfl | rfl
  all_goals first
    | exact hu' _ (by simp)
    | (have h3 := hu' a3 (by simp); have h4 := hu' a4 (by simp); have h7 := hu' a7 (by simp); have h8 := hu' a8 (by simp); have h11 := hu' b1 (by simp); have h12 := hu' b2 (by simp); have h15 := hu' b5 (by simp); omega)
theorem clamp_twice (k m : List Int) (hk : k.length = 32) (hu : ∀ v ∈ k, 0 ≤ v ∧ v ≤ 255) (hm : m.take 16 = clampL k) : clampL m = clampL k := by
  have hl : (k.take 16).length = 16 := by rw [List.length_take]; omega
  have hu' : ∀ v ∈ k.take 16, 0 ≤ v ∧ v ≤ 255 := fun v hv => hu v (List.mem_of_mem_take hv)
  obtain ⟨a0, a1, a2, a3, a4, a5, a6, a7, a8, a9, b0, b1, b2, b3, b4, b5, h⟩ := sixteen hl
  rw [h] at hu'
  have e := clampL_eq h
  rw [e] at hm
  rw [clampL_eq hm, e]
  have t15 : ∀ v, 0 ≤ v ∧ v ≤ 255 → bits .and .u8 (bits .and .u8 v 15) 15 = bits .and .u8 v 15 := fun v hv => by
    rw [and15 v hv.1 hv.2, and15 _ (by omega) (by omega)]; omega
  have t252 : ∀ v, 0 ≤ v ∧ v ≤ 255 → bits .and .u8 (bits .and .u8 v 252) 252 = bits .and .u8 v 252 := fun v hv => by
    rw [and252 v hv.1 hv.2, and252 _ (by omega) (by omega)]; omega
  rw [t15 a3 (hu' _ (by simp)), t15 a7 (hu' _ (by simp)), t15 b1 (hu' _ (by simp)), t15 b5 (hu' _ (by simp)), t252 a4 (hu' _ (by simp)), t252 a8 (hu' _ (by simp)), t252 b2 (hu' _ (by simp))]

end Go.Proofs.Ytnblcdpahpcglaa
