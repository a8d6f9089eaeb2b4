/- disk: records one behind the other, as plain lists. -/
import Derived.Test.YtknomnnbebhijabDoorDk0
namespace Go.Proofs.YtknomnnbebhijabDoor

theorem headL_two (b : List Int) : (headL b)[0]? = some ((b.length / 256 % 256 : Nat) : Int) ∧ (headL b)[1]? = some ((b.length % 256 : Nat) : Int) := ⟨rfl, rfl⟩
theorem toldN_rec (b r : List Int) (h : b.length < 65536) : toldN (recL b ++ r) = 10 + b.length := by
  have h0 : (recL b ++ r)[0]? = some ((b.length / 256 % 256 : Nat) : Int) := rfl
  have h1 : (recL b ++ r)[1]? = some ((b.length % 256 : Nat) : Int) := rfl
  unfold toldN
  rw [h0, h1, Option.getD_some, Option.getD_some, Int.toNat_natCast, Int.toNat_natCast]
  omega
theorem firstN_rec (b r : List Int) (h : b.length < 65536) : firstN (recL b ++ r) = 10 + b.length := by
  have hl : (recL b ++ r).length = 10 + b.length + r.length := by rw [List.length_append, recL_length]
  unfold firstN
  rw [toldN_rec b r h, if_neg (by omega), if_neg (by omega), if_pos]
  have e1 : (recL b ++ r).take 10 = headL b := by
    unfold recL
    rw [List.append_assoc, List.take_left' (headL_length b)]
  have e2 : ((recL b ++ r).drop 10).take (10 + b.length - 10) = b := by
    unfold recL
    rw [List.append_assoc, List.drop_left' (headL_length b), show 10 + b.length - 10 = b.length by omega, List.take_left' rfl]
  rw [e1, e2]
theorem wholeN_rec (b r : List Int) (h : b.length < 65536) : wholeN (recL b ++ r) = (10 + b.length) :: wholeN r := by
  have hf := firstN_rec b r h
  rw [wholeN_some _ (by omega), hf, List.drop_left' (recL_length b)]
theorem wholeN_short (z : List Int) (h : z.length < 10) : wholeN z = [] := wholeN_none z (by unfold firstN; rw [if_pos h])
/-- The records from a place on. -/
theorem dataK_zero (z : List Int) (h : firstN z ≠ 0) : dataK z 0 = (z.drop 10).take (firstN z - 10) := by
  unfold dataK
  rw [sumK_zero, wholeN_some z h, List.getElem?_cons_zero, Option.getD_some, Nat.zero_add]
theorem dataK_succ (z : List Int) (h : firstN z ≠ 0) (k : Nat) : dataK z (k + 1) = dataK (z.drop (firstN z)) k := by
  unfold dataK
  rw [wholeN_some z h, sumK_cons, List.getElem?_cons_succ, List.drop_drop, Nat.add_assoc]
theorem recsL_none (z : List Int) (h : firstN z = 0) : recsL z = [] := by unfold recsL; rw [wholeN_none z h]; rfl
theorem recsL_some (z : List Int) (h : firstN z ≠ 0) : recsL z = (z.drop 10).take (firstN z - 10) :: recsL (z.drop (firstN z)) := by
  have hl : (wholeN z).length = (wholeN (z.drop (firstN z))).length + 1 := by rw [wholeN_some z h, List.length_cons]
  unfold recsL
  rw [hl, List.range_succ_eq_map, List.map_cons, List.map_map, dataK_zero z h]
  congr 1
  apply List.map_congr_left
  intro k _
  exact dataK_succ z h k
theorem recsL_rec (b r : List Int) (h : b.length < 65536) : recsL (recL b ++ r) = b :: recsL r := by
  have hf := firstN_rec b r h
  rw [recsL_some _ (by omega), hf, List.drop_left' (recL_length b)]
  congr 1
  unfold recL
  rw [List.append_assoc, List.drop_left' (headL_length b), show 10 + b.length - 10 = b.length by omega, List.take_left' rfl]
theorem trimN_none (z : List Int) (h : firstN z = 0) : trimN z = 0 := by unfold trimN; rw [wholeN_none z h]; rfl
theorem trimN_some (z : List Int) (h : firstN z ≠ 0) : trimN z = firstN z + trimN (z.drop (firstN z)) := by
  unfold trimN
  rw [wholeN_some z h, List.length_cons, sumK_cons]
end Go.Proofs.YtknomnnbebhijabDoor
