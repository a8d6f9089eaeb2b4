/- De18 -/
import Derived.Test.YtmbdohnmbkpfaaaGreatV45
namespace Go.Proofs.YtmbdohnmbkpfaaaGreat
open Go.RowKit Go.Shelf
theorem run_index_rowK {P : Program} (w : World) (t e : TypeId) (n : Nat) (ik kd : IntKind) (l : List Int) (k : Int) (hu : P.underlying t = some (.array n e)) (hue : P.underlying e = some (.int kd)) (hi : (P.info? e).map (·.size) = some 1) (hl : l.length = n) (h0 : 0 ≤ k) (hk : k < (n : Int)) :
    (Instr.index t (.agg (row kd l)) (.int ik k)).run P w = .ok (.int kd (l[k.toNat]?.getD 0)) w := by
 obtain ⟨j, rfl⟩ := Int.eq_ofNat_of_zero_le h0
 have hk : j < n := by omega
 cases hq : P.info? e with
 | none => simp [hq] at hi
 | some i =>
  have hs : i.size = 1 := by simpa [hq] using hi
  have hg := row_get kd l j (by omega)
  simp [Instr.index, asIntOf, run_underlying hu, sizeOf, typeInfo, hq, hs, hk, part, isAgg, run_underlying hue, hg]
theorem run_index_members {P : Program} (w : World) (t e : TypeId) (ik : IntKind) (st : Ds) (who : Int) (hu : P.underlying t = some (.array 8 e)) (hue : P.underlying e = some (.int .u8)) (hi : (P.info? e).map (·.size) = some 1) (h0 : 0 ≤ who) (h8 : who < 8) :
    (Instr.index t (.agg (row .u8 (membersL st.B st.S))) (.int ik who)).run P w = .ok (.int .u8 (roleP st.B who st.S)) w := by
 rw [run_index_rowK w t e 8 ik .u8 _ who hu hue hi (by simp [membersL]) h0 h8, members_at h0 h8]
end Go.Proofs.YtmbdohnmbkpfaaaGreat
