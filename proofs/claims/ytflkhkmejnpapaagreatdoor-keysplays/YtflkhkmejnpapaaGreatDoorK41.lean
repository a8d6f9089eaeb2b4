/- StrC -/
import Derived.Test.YtflkhkmejnpapaaGreatDoorK04
namespace Go.Proofs.YtflkhkmejnpapaaGreatDoor
open Go.RowKit
theorem strOfNums_inj (a b : List Int) (ha : ∀ v ∈ a, 0 ≤ v ∧ v ≤ 255) (hb : ∀ v ∈ b, 0 ≤ v ∧ v ≤ 255) (h : (strOfNums a).toList = (strOfNums b).toList) : a = b := by
 rw [ByteArray.toList_eq, ByteArray.toList_eq] at h
 have h2 : (a.map fun n => UInt8.ofNat n.toNat) = (b.map fun n => UInt8.ofNat n.toNat) := by rw [← strOfNums_data, ← strOfNums_data]; exact h
 have hl : a.length = b.length := by have := congrArg List.length h2; simpa using this
 apply List.ext_getElem hl
 intro i h1 h3
 have e : UInt8.ofNat a[i].toNat = UInt8.ofNat b[i].toNat := by
  have := congrArg (fun l => l[i]?) h2
  simpa [h1, h3] using this
 have ba := ha _ (List.getElem_mem h1)
 have bb := hb _ (List.getElem_mem h3)
 have e2 := congrArg UInt8.toNat e
 simp at e2
 omega
theorem strEq (z b : List Int) (hz : ∀ v ∈ z, 0 ≤ v ∧ v ≤ 255) (hb : ∀ v ∈ b, 0 ≤ v ∧ v ≤ 255) : ((strOfNums z).toList == (strOfNums b).toList) = (z == b) := by
 by_cases he : z = b
 · subst he; rw [beq_self_eq_true, beq_self_eq_true]
 · have e2 : (z == b) = false := by rw [beq_eq_false_iff_ne]; exact he
   rw [e2, beq_eq_false_iff_ne]
   intro h
   exact he (strOfNums_inj _ _ hz hb h)
end Go.Proofs.YtflkhkmejnpapaaGreatDoor
