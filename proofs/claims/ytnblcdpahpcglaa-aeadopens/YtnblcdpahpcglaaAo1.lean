/- The reference's Framed: the bytes of which the tag is. -/
import Derived.Test.YtnblcdpahpcglaaAn1
namespace Go.Proofs.Ytnblcdpahpcglaa
open Go.RowKit
set_option maxRecDepth 20000
set_option linter.unusedSimpArgs false

theorem zerosL_succ (A : List Int) (j : Nat) : A ++ zerosL (j + 1) = (A ++ zerosL j) ++ [0] := by
  unfold zerosL; rw [List.replicate_succ', List.append_assoc]
theorem fill_stop (n j : Nat) (h : j ≤ fillN n) (hm : (n + j) % 16 = 0) : j = fillN n := by unfold fillN at h ⊢; omega
theorem fill_less (n j : Nat) (h : j ≤ fillN n) (hm : ¬ (n + j) % 16 = 0) : j < fillN n := by unfold fillN at h ⊢; omega
theorem fill_second (a n : Nat) (h : a % 16 = 0) : fillN (a + n) = fillN n := by unfold fillN; omega
/-- Byte number i of both lengths. -/
theorem le16b_get (m n i : Nat) (hi : i < 16) : (le8 m ++ le8 n)[i]?.getD 0 = ((if i < 8 then m else n : Nat) : Int) / 2 ^ (8 * (i % 8)) % 256 := by
  by_cases h : i < 8
  · rw [if_pos h, List.getElem?_append_left (by rw [le8_length]; exact h), le8_get m i h, Nat.mod_eq_of_lt h]
  · rw [if_neg h, List.getElem?_append_right (by rw [le8_length]; omega), le8_length, le8_get n (i - 8) (by omega), show i % 8 = i - 8 by omega]

set_option maxHeartbeats 4000000 in
theorem refFramed_any (x : Option Addr) (len cap : Nat) (o : List Int) (y : Option Addr) (lb cb : Nat) (s : List Int) (w : World) (hx : Bytes w x len cap o) (hy : Bytes w y lb cb s) (hl1 : len ≤ 100000) (hl2 : lb ≤ 100000) :
    Calls Try.prog 22 #[.slice x len cap, .slice y lb cb] w fun e w' => ∃ v, e = .returned v ∧ OwnB w' w.heap.size v (framedL o s) ∧ Below w.heap.size w w' := by
  have HOL : Veil (o.length = len) := ⟨hx.len_eq.symm⟩
  have HSL : Veil (s.length = lb) := ⟨hy.len_eq.symm⟩
  have HX : Veil (Bytes w x len cap o) := ⟨hx⟩
  have HY : Veil (Bytes w y lb cb s) := ⟨hy⟩
  have h64a : IntKind.u64.wrap (len : Int) = (len : Int) := by simp [IntKind.wrap, IntKind.bits, IntKind.signed]; omega
  have h64b : IntKind.u64.wrap (lb : Int) = (lb : Int) := by simp [IntKind.wrap, IntKind.bits, IntKind.signed]; omega
  clear hy
  go_enter Try.func22, Try.ntmps22
  have hx0 := HX.out
  go_wp2_with (at_builtin; refine wpList_app rfl _ _ rfl w.heap.size _ [] rfl (OwnB.nil _ _) x len cap o rfl hx0 (by simp; omega) (Nat.le_refl _) ?_; intro v1 w1 ho1 hg1)
  have hB1 : Below w.heap.size w w1 := below_grown (Below.refl _ _) (OwnB.nil _ _) hg1 (Nat.le_refl _)
  rw [List.nil_append] at ho1
  clear hg1 hx0 hx
  go_loopw [5] (fun v wr => ∃ j : Nat, j ≤ fillN len ∧ OwnB wr w.heap.size v (o ++ zerosL j) ∧ Below w.heap.size w wr) (fun v _ => len + 16 - lenOf v)
  case atStart => exact ⟨0, by omega, by simpa [zerosL] using ho1, hB1⟩
  case round =>
    clear ho1 hB1
    obtain ⟨j, hj, ho, hB⟩ := hrel
    obtain ⟨xv, nv, cv, hv, hnv⟩ := ho.isSlice
    rw [List.length_append, zerosL_length, HOL.out] at hnv
    subst hnv
    subst hv
    have hfl := fillN_lt len
    have hol := HOL.out
    have hln : (o ++ zerosL j).length = len + j := by rw [List.length_append, zerosL_length, hol]
    obtain ⟨r, hr⟩ : ∃ r : Nat, (len + j) % 16 = r := ⟨_, rfl⟩
    have hrt : ((len + j : Nat) : Int).tmod 16 = (r : Int) := by rw [Int.tmod_eq_emod_of_nonneg (by omega)]; omega
    have hrt2 : ((len : Int) + (j : Int)).tmod 16 = (r : Int) := by rw [Int.tmod_eq_emod_of_nonneg (by omega)]; omega
    by_cases hz : r = 0
    · subst hz
      have hjf := fill_stop len j hj hr
      have HJ : Veil (j = fillN len) := ⟨hjf⟩
      have HM : Veil ((len + j) % 16 = 0) := ⟨hr⟩
      have HZS : Veil (∀ q, (o ++ zerosL j ++ s) ++ zerosL (q + 1) = ((o ++ zerosL j ++ s) ++ zerosL q) ++ [0]) := ⟨zerosL_succ _⟩
      have HFR : Veil (∀ q, q = fillN lb → (o ++ zerosL j ++ s) ++ zerosL q ++ (le8 len ++ le8 lb) = framedL o s) := ⟨fun q hq => by
        unfold framedL
        rw [HOL.out, HSL.out, ← HJ.out, ← hq]
        simp only [List.append_assoc]⟩
      obtain ⟨P, hP⟩ : ∃ q, o ++ zerosL j = q := ⟨_, rfl⟩
      have hlnP := hln
      rw [hP] at ho HFR hlnP HZS
      have hPl : P.length ≤ 200000 := by omega
      have hyB := HY.out.below hB
      have HPL : Veil (P.length = len + j) := ⟨hlnP⟩
      clear hjf hr hP hln hlnP hol hrt hrt2
      have hrt : ((len + j : Nat) : Int).tmod 16 = 0 := by have := HM.out; rw [Int.tmod_eq_emod_of_nonneg (by omega)]; omega
      have hrt2 : ((len : Int) + (j : Int)).tmod 16 = 0 := by have := HM.out; rw [Int.tmod_eq_emod_of_nonneg (by omega)]; omega
      go_wp2_with (at_builtin; refine wpList_app rfl _ _ rfl w.heap.size _ P rfl ho y lb cb s rfl hyB (by omega) hB.size ?_; intro v2 w2 ho2 hg2)
      have hB2 : Below w.heap.size w w2 := below_grown hB ho hg2 hB.size
      clear hg2 ho hB hyB hrt hrt2
      obtain ⟨Q, hQ⟩ : ∃ q, P ++ s = q := ⟨_, rfl⟩
      rw [hQ] at ho2 HFR HZS
      have HQL : Veil (Q.length = len + j + lb) := ⟨by rw [← hQ, List.length_append, HPL.out, HSL.out]⟩
      clear hQ
      go_loopw [5] (fun v wr => ∃ q : Nat, q ≤ fillN lb ∧ OwnB wr w.heap.size v (Q ++ zerosL q) ∧ Below w.heap.size w wr) (fun v _ => len + j + lb + 16 - lenOf v)
      case atStart => exact ⟨0, by omega, by simpa [zerosL] using ho2, hB2⟩
      case round =>
        clear ho2 hB2
        obtain ⟨q, hq, ho, hB⟩ := hrel
        obtain ⟨xv, nv, cv, hv, hnv⟩ := ho.isSlice
        rw [List.length_append, zerosL_length, HQL.out] at hnv
        subst hnv
        subst hv
        have hfl := fillN_lt lb
        have hln : (Q ++ zerosL q).length = len + j + lb + q := by rw [List.length_append, zerosL_length, HQL.out]
        obtain ⟨r, hr⟩ : ∃ r : Nat, (len + j + lb + q) % 16 = r := ⟨_, rfl⟩
        have hrt : ((len + j + lb + q : Nat) : Int).tmod 16 = (r : Int) := by rw [Int.tmod_eq_emod_of_nonneg (by omega)]; omega
        have hrt2 : ((len : Int) + (j : Int) + (lb : Int) + (q : Int)).tmod 16 = (r : Int) := by rw [Int.tmod_eq_emod_of_nonneg (by omega)]; omega
        by_cases hz : r = 0
        · subst hz
          have hqf : q = fillN lb := fill_stop lb q hq (by have := HM.out; omega)
          have HQ : Veil (Q ++ zerosL q ++ (le8 len ++ le8 lb) = framedL o s) := ⟨HFR.out q hqf⟩
          have HG : Veil (∀ i, i < 16 → (le8 len ++ le8 lb)[i]?.getD 0 = ((if i < 8 then len else lb : Nat) : Int) / 2 ^ (8 * (i % 8)) % 256) := ⟨le16b_get len lb⟩
          have HLL : Veil ((le8 len ++ le8 lb).length = 16) := ⟨by rw [List.length_append, le8_length, le8_length]⟩
          obtain ⟨L, hL⟩ : ∃ q, le8 len ++ le8 lb = q := ⟨_, rfl⟩
          obtain ⟨S, hS⟩ : ∃ t, Q ++ zerosL q = t := ⟨_, rfl⟩
          rw [hL] at HQ HG HLL
          rw [hS] at HQ ho hln
          have HSN : Veil (S.length ≤ 500000) := ⟨by omega⟩
          clear hqf hr hS hln hL
          go_wp2_with fail
          go_loopw [5, 6] (fun v iv wr => ∃ i : Nat, i ≤ 16 ∧ iv = .int .i64 i ∧ OwnB wr w.heap.size v (S ++ L.take i) ∧ Below w.heap.size w wr) (fun _ iv _ => 16 - (intOf iv).toNat)
          case atStart => exact ⟨0, by omega, rfl, by simpa using ho, hB⟩
          case round =>
            clear ho hB hrt hrt2
            obtain ⟨i, hi, rfl, ho, hB⟩ := hrel
            by_cases hlt : i < 16
            · have hg := HG.out i hlt
              have ht := take_next L i (by rw [HLL.out]; exact hlt)
              obtain ⟨m, hm⟩ : ∃ m : Nat, 8 * (i % 8) = m := ⟨_, rfl⟩
              obtain ⟨r, hr⟩ : ∃ r : Nat, i % 8 = r := ⟨_, rfl⟩
              rw [hm] at hg
              have hlS : (S ++ L.take i).length ≤ 600000 := by rw [List.length_append, List.length_take]; have := HSN.out; omega
              have hi16 : (i : Int) < 16 := by omega
              have r5 : (i : Int).tmod 8 = (r : Int) := by rw [Int.tmod_eq_emod_of_nonneg (by omega)]; omega
              have r2 : (8 : Int) * (r : Int) = (m : Int) := by omega
              have r3 : IntKind.i64.wrap (m : Int) = (m : Int) := by rw [IntKind.wrap_i64]; omega
              have r4 : (m : Int) < 64 := by omega
              by_cases h8 : i < 8
              · have h8' : ¬ (i : Int) ≥ 8 := by omega
                rw [if_pos h8] at hg
                have HT : Veil (S ++ L.take (i + 1) = (S ++ L.take i) ++ [(len : Int) / 2 ^ m % 256]) := ⟨by rw [ht, hg, List.append_assoc]⟩
                obtain ⟨A, hA⟩ : ∃ q, S ++ L.take i = q := ⟨_, rfl⟩
                rw [hA] at HT ho hlS
                have r8 : IntKind.u8.wrap ((len : Int) / 2 ^ m) = (len : Int) / 2 ^ m % 256 := by simp [IntKind.wrap, IntKind.bits, IntKind.signed]
                clear hg ht hm hr hA
                go_wp2_with (at_builtin; refine wpList_app1 rfl _ _ rfl w.heap.size _ A rfl ((len : Int) / 2 ^ m % 256) (ho.alloc _) rfl (by omega) hB.size ?_; intro v3 w3 ho3 hg3)
                go_roundw
                case rel => exact ⟨i + 1, by omega, by go_num, by rw [HT.out]; exact ho3, below_grown (hB.alloc hB.size _) (ho.alloc _) hg3 (by have := hB.size; simp; omega)⟩
                case measure => simp [intOf]; omega
              · have h8' : (i : Int) ≥ 8 := by omega
                rw [if_neg h8] at hg
                have HT : Veil (S ++ L.take (i + 1) = (S ++ L.take i) ++ [(lb : Int) / 2 ^ m % 256]) := ⟨by rw [ht, hg, List.append_assoc]⟩
                obtain ⟨A, hA⟩ : ∃ q, S ++ L.take i = q := ⟨_, rfl⟩
                rw [hA] at HT ho hlS
                have r8 : IntKind.u8.wrap ((lb : Int) / 2 ^ m) = (lb : Int) / 2 ^ m % 256 := by simp [IntKind.wrap, IntKind.bits, IntKind.signed]
                clear hg ht hm hr hA
                go_wp2_with (at_builtin; refine wpList_app1 rfl _ _ rfl w.heap.size _ A rfl ((lb : Int) / 2 ^ m % 256) (ho.alloc _) rfl (by omega) hB.size ?_; intro v3 w3 ho3 hg3)
                go_roundw
                case rel => exact ⟨i + 1, by omega, by go_num, by rw [HT.out]; exact ho3, below_grown (hB.alloc hB.size _) (ho.alloc _) hg3 (by have := hB.size; simp; omega)⟩
                case measure => simp [intOf]; omega
            · obtain rfl : i = 16 := by omega
              rw [List.take_of_length_le (by rw [HLL.out]; omega), HQ.out] at ho
              rw [show ((16 : Nat) : Int) = 16 from rfl]
              go_wp2
              go_ret
              exact ⟨_, rfl, ho, hB⟩
        · have hlt := fill_less lb q hq (by have := HM.out; omega)
          have hrn : ¬ (r : Int) = 0 := by omega
          have HZ1 : Veil (Q ++ zerosL (q + 1) = (Q ++ zerosL q) ++ [0]) := ⟨HZS.out q⟩
          obtain ⟨A, hA⟩ : ∃ t, Q ++ zerosL q = t := ⟨_, rfl⟩
          rw [hA] at HZ1 ho hln
          have hAl : A.length ≤ 600000 := by omega
          have HAL : Veil (A.length = len + j + lb + q) := ⟨hln⟩
          clear hr hA hln hz
          go_wp2_with (at_builtin; refine wpList_app1 rfl _ _ rfl w.heap.size _ A rfl 0 (ho.alloc _) rfl (by omega) hB.size ?_; intro v3 w3 ho3 hg3)
          obtain ⟨x3, n3, c3, hv3, hn3⟩ := ho3.isSlice
          rw [List.length_append, HAL.out] at hn3
          subst hn3
          subst hv3
          go_roundw
          case rel => exact ⟨q + 1, by omega, by rw [HZ1.out]; exact ho3, below_grown (hB.alloc hB.size _) (ho.alloc _) hg3 (by have := hB.size; simp; omega)⟩
          case measure => simp only [lenOf, List.length_cons, List.length_nil]; omega
    · have hlt := fill_less len j hj (by omega)
      have hrn : ¬ (r : Int) = 0 := by omega
      have HZ1 : Veil (o ++ zerosL (j + 1) = (o ++ zerosL j) ++ [0]) := ⟨zerosL_succ o j⟩
      obtain ⟨A, hA⟩ : ∃ t, o ++ zerosL j = t := ⟨_, rfl⟩
      rw [hA] at HZ1 ho hln
      have hAl : A.length ≤ 600000 := by omega
      have HAL : Veil (A.length = len + j) := ⟨hln⟩
      clear hr hA hln hz hol
      go_wp2_with (at_builtin; refine wpList_app1 rfl _ _ rfl w.heap.size _ A rfl 0 (ho.alloc _) rfl (by omega) hB.size ?_; intro v3 w3 ho3 hg3)
      obtain ⟨x3, n3, c3, hv3, hn3⟩ := ho3.isSlice
      rw [List.length_append, HAL.out] at hn3
      subst hn3
      subst hv3
      go_roundw
      case rel => exact ⟨j + 1, by omega, by rw [HZ1.out]; exact ho3, below_grown (hB.alloc hB.size _) (ho.alloc _) hg3 (by have := hB.size; simp; omega)⟩
      case measure => simp only [lenOf, List.length_cons, List.length_nil]; omega
end Go.Proofs.Ytnblcdpahpcglaa
