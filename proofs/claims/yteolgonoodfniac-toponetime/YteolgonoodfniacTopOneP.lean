/- The statement TopOneTime: what it says of rows of bytes. -/
import Derived.Test.YteolgonoodfniacCy
import Derived.Test.YteolgonoodfniacPz
namespace Go.Proofs.Yteolgonoodfniac
open Go.RowKit
set_option maxRecDepth 20000

theorem blockL_isB (k n : List Int) (c : Int) : ∀ v ∈ blockL k n c, isB v := fun v hv => joinK_u8 _ 16 v hv
theorem xor_self8 {y : Int} (hy : U8 y) : bits .xor .u8 y y = 0 := by
  obtain ⟨b, hb, rfl⟩ := hy.nat
  rw [bits_xor_nat8 b b hb hb, Nat.xor_self]; rfl
theorem one_xor (k n : List Int) : (xorL k n 0 (blockL k n 0))[5]?.getD 0 = 0 := by
  rw [xorL_get _ _ _ _ _ (by rw [blockL_length]; omega)]
  have e : strm k n 0 5 = (blockL k n 0)[5]?.getD 0 := rfl
  rw [e]
  exact xor_self8 (getD_u8 (joinK_u8 _ 16) 5)
theorem clamp_34 (k : List Int) (hk : k.length = 32) (hu : ∀ v ∈ k, 0 ≤ v ∧ v ≤ 255) : ∃ c3 c4 : Int, (clampL k)[3]?.getD 0 = c3 ∧ (clampL k)[4]?.getD 0 = c4 ∧ 0 ≤ c3 ∧ c3 < 16 ∧ 0 ≤ c4 ∧ c4 ≤ 255 ∧ c4.tmod 4 = 0 := by
  have hl : (k.take 16).length = 16 := by rw [List.length_take]; omega
  have hu' : ∀ v ∈ k.take 16, 0 ≤ v ∧ v ≤ 255 := fun v hv => hu v (List.mem_of_mem_take hv)
  obtain ⟨a0, a1, a2, a3, a4, a5, a6, a7, a8, a9, b0, b1, b2, b3, b4, b5, h⟩ := sixteen hl
  rw [h] at hu'
  have h3 := hu' a3 (by simp)
  have h4 := hu' a4 (by simp)
  rw [clampL_eq h]
  refine ⟨a3 % 16, a4 / 4 * 4, and15 a3 h3.1 h3.2, and252 a4 h4.1 h4.2, by omega, by omega, by omega, by omega, ?_⟩
  rw [Int.tmod_eq_emod_of_nonneg (by omega)]
  omega
theorem wpList_buildO {P : Program} {ops : Array Oper} {rest : List Oper} {o : Oper} {a : Act} {w : World} {Q : Exit → Act → World → Prop} (hgd : o.guard = none) (t : TypeId) (parts : Array (Nat × Operand)) (ho : o.op = .build t parts) (v : Value)
    (hrun : ∀ wx, (Instr.build t (parts.map fun (i, x) => (i, a.eval x))).run P wx = .ok v wx) (h : wpList P ops Q rest (a.put o.dst v) w) : wpList P ops Q (o :: rest) a w :=
  wpList_plain hgd fun _ hK => by
    unfold Oper.wp execOp
    simp only [ho, Sem.run_bind, Sem.run_pure, Result.andThen_ok, hrun]
    exact hK _ _ h
/-- Some bytes out of the midst of a block. -/
theorem Holds.mid {w : World} {g : Nat} {t : TypeId} {l : List Int} (h : Holds w g .u8 t l) (a m c : Nat) (hm : a + m ≤ l.length) (hc : m ≤ c) (ht : c ≤ 4000000) : Bytes w (some ⟨g, a, none⟩) m c ((l.drop a).take m) := by
  refine ⟨by rw [List.length_take, List.length_drop]; omega, hc, by omega, (fun h => by cases h), .inr ⟨g, a, rfl, fun j hj => ?_⟩⟩
  rw [List.getElem?_take_of_lt hj, List.getElem?_drop]
  exact h.cell (a + j) (by omega)
end Go.Proofs.Yteolgonoodfniac
