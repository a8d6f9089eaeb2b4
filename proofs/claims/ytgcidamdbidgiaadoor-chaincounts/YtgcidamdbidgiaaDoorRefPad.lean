/- The reference's 'Pad': the same bytes. -/
import Derived.Test.YtgcidamdbidgiaaDoorOwn
namespace Go.Proofs.YtgcidamdbidgiaaDoor.S
open Go.RowKit

set_option maxHeartbeats 1000000 in
theorem refPad_any (x : Option Addr) (len cap : Nat) (z : List Int) (w : World) (hbz : Bytes w x len cap z) (hln : len ≤ 1000000) :
    Calls Tryd.prog 44 #[.slice x len cap] w fun e w' => ∃ v, e = .returned v ∧ OwnB w' w.heap.size v (padL z) ∧ Below w.heap.size w w' := by
  have HZ : Hid (len = z.length) := hbz.len_eq
  have hsp := padSize_ge len
  have hsp2 : padSize len ≤ 2000000 := by unfold padSize; omega
  have hsp3 : padSize len % 64 = 0 := by unfold padSize; omega
  have hsp4 : padSize len ≤ len + 72 := by unfold padSize; omega
  obtain ⟨m, hm⟩ : ∃ m, padSize len = m := ⟨_, rfl⟩
  have HM : Hid (padSize len = m) := hm
  rw [hm] at hsp hsp2 hsp3 hsp4
  clear hm
  go_enter Tryd.func44, Tryd.ntmps44
  go_upto_region 3 with (first
    | (at_builtin; refine wpList_app rfl _ _ rfl w.heap.size _ [] rfl (OwnB.nil _ _) x len cap z rfl hbz (by simp; omega) (Nat.le_refl _) ?_; intro v1 w1 ho1 hg1; have hB1 := below_grown (Below.refl _ _) (OwnB.nil w w.heap.size) hg1 (Nat.le_refl _))
    | (at_builtin; refine wpList_app1 rfl _ _ rfl w.heap.size _ z rfl 128 (ho1.alloc _) rfl (by have := HZ.out; omega) hB1.size ?_; intro v2 w2 ho2 hg2))
  have hB2 : Below w.heap.size w w2 := below_grown (hB1.alloc hB1.size _) (ho1.alloc _) hg2 (by have := hB1.size; simp; omega)
  clear hg2 ho1 hB1 hg1 hbz
  go_loopw [3] (fun v wr => ∃ k : Nat, len + 1 + k ≤ m - 8 ∧ Below w.heap.size w wr ∧ OwnB wr w.heap.size v (z ++ [128] ++ List.replicate k 0)) (fun v _ => m - lenOf v)
  case atStart => exact ⟨0, by omega, hB2, by simpa using ho2⟩
  case round =>
    clear hB2 ho2
    obtain ⟨k, hk, hB, ho⟩ := hrel
    have hlen : (z ++ [128] ++ List.replicate k 0).length = len + 1 + k := by have := HZ.out; simp; omega
    obtain ⟨g, cp, rfl, hg⟩ := ho.slice (by omega)
    rw [hlen]
    by_cases hlt : len + 1 + k < m - 8
    · have hne : (((len : Int) + 1 + (k : Int)) % 64 != 56) = true := by simp; omega
      go_wp2_with (at_builtin; refine wpList_app1 rfl _ _ rfl w.heap.size _ (z ++ [128] ++ List.replicate k 0) (by rw [hlen]; rfl) 0 (ho.alloc _) rfl (by omega) hB.size ?_; intro v3 w3 ho3 hg3)
      obtain ⟨g', cp', hv3, _⟩ := ho3.slice (by simp; omega)
      have hl3 : (z ++ [128] ++ List.replicate k 0 ++ [0]).length = len + 1 + (k + 1) := by rw [List.length_append, hlen]; rfl
      rw [hl3] at hv3
      subst hv3
      go_roundw
      case rel =>
        refine ⟨k + 1, by omega, below_grown (hB.alloc hB.size _) (ho.alloc _) (by rw [hlen]; exact hg3) (by have := hB.size; simp; omega), ?_⟩
        rw [List.replicate_succ', ← List.append_assoc]
        exact ho3
      case measure => simp only [lenOf]; omega
    · obtain rfl : k = m - 9 - len := by omega
      have hne : (((len : Int) + 1 + ((m - 9 - len : Nat) : Int)) % 64 != 56) = false := by simp; omega
      have hpre : z ++ [128] ++ List.replicate (m - 9 - len) 0 = z ++ [128] ++ List.replicate (padSize z.length - z.length - 9) 0 := by
        rw [← HZ.out, HM.out]; congr 2; omega
      rw [hpre] at ho
      have hlp : (z ++ [128] ++ List.replicate (padSize z.length - z.length - 9) 0).length = m - 8 := by rw [← hpre, hlen]; omega
      go_wp2_with fail
      rw [show len + 1 + (m - 9 - len) = m - 8 by omega]
      have HP : Hid (padL z = z ++ [128] ++ List.replicate (padSize z.length - z.length - 9) 0 ++ lenTail z.length 8) := by
        show padK z 8 = _
        simp [padK]
      obtain ⟨pr, hpr⟩ : ∃ pr, z ++ [128] ++ List.replicate (padSize z.length - z.length - 9) 0 = pr := ⟨_, rfl⟩
      rw [hpr] at ho HP hlp
      clear hpr hpre hlen
      go_loopw [3, 5] (fun v i wr => ∃ j : Nat, j ≤ 8 ∧ i = .int .i64 j ∧ Below w.heap.size w wr ∧ OwnB wr w.heap.size v (pr ++ (lenTail len 8).take j)) (fun _ i _ => 8 - (intOf i).toNat)
      case atStart => exact ⟨0, by omega, rfl, hB, by rw [← hlp] ; simpa using ho⟩
      case round =>
        clear hB ho
        obtain ⟨j, hj, rfl, hB, ho⟩ := hrel
        have hlj : (pr ++ (lenTail len 8).take j).length = m - 8 + j := by rw [List.length_append, List.length_take, lenTail_length, hlp]; omega
        obtain ⟨g2, cp2, hv2, hg2⟩ := ho.slice (by omega)
        subst hv2
        rw [hlj]
        by_cases hlt2 : j < 8
        · have hbyte := lenTail_get len 8 j hlt2
          have htk := take_next (lenTail len 8) j (by rw [lenTail_length]; exact hlt2)
          rw [hbyte] at htk
          have HT : Hid ((lenTail len 8).take (j + 1) = (lenTail len 8).take j ++ [lenByte len (8 - 1 - j)]) := htk
          clear hbyte htk
          go_wp2_with (at_builtin; refine wpList_app1 rfl _ _ rfl w.heap.size _ (pr ++ (lenTail len 8).take j) (by rw [hlj]; rfl) _ (ho.alloc _) rfl (by omega) hB.size ?_; intro v3 w3 ho3 hg3)
          go_roundw
          case rel =>
            have hB3 : Below w.heap.size w w3 := below_grown (hB.alloc hB.size _) (ho.alloc _) (by rw [hlj]; exact hg3) (by have := hB.size; simp; omega)
            have ho4 : OwnB w3 w.heap.size v3 (pr ++ (lenTail len 8).take (j + 1)) := by
              rw [HT.out, ← List.append_assoc]
              have e : lenByte len (8 - 1 - j) = (len : Int) * 8 / 2 ^ (56 - 8 * j) % 256 := by unfold lenByte; rw [show 8 * (8 - 1 - j) = 56 - 8 * j by omega]
              rw [e]
              exact ho3
            first
              | exact ⟨j + 1, by omega, by go_num, hB3, ho4⟩
              | ((repeat apply Exists.intro); exact ⟨⟨j + 1, by omega, by go_num, hB3, ho4⟩, rfl⟩)
          case measure => simp [intOf]; omega
        · obtain rfl : j = 8 := by omega
          go_wp2
          go_ret
          refine ⟨_, rfl, ?_, hB⟩
          rw [HP.out, ← HZ.out]
          rw [List.take_of_length_le (by rw [lenTail_length]; omega)] at ho hlj
          rw [← hlj]
          exact ho
end Go.Proofs.YtgcidamdbidgiaaDoor.S
