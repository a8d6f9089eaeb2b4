/- The reference's 'at' and 'carry', walked. -/
import Derived.Test.YtnblcdpahpcglaaRi
namespace Go.Proofs.Ytnblcdpahpcglaa
open Go.RowKit
set_option maxRecDepth 20000
set_option linter.unusedSimpArgs false

theorem getI {z : List Int} {B : Int} (hB : 0 ≤ B) (h : ∀ v ∈ z, 0 ≤ v ∧ v ≤ B) (k : Nat) : (0 : Int) ≤ z[k]?.getD (0 : Int) ∧ z[k]?.getD (0 : Int) ≤ B := by
  by_cases hk : k < z.length
  · rw [List.getElem?_eq_getElem hk]; exact h _ (List.getElem_mem hk)
  · rw [List.getElem?_eq_none (by omega)]; exact ⟨Int.le_refl _, hB⟩
theorem cK_top (l : List Int) (h : ∀ v ∈ l, 0 ≤ v ∧ v ≤ 2000000) (i : Nat) : 0 ≤ cK l i ∧ cK l i ≤ 10000 := by
  induction i with
  | zero => simp [cK]
  | succ i ih =>
    have hv := getI (by omega) h i
    simp only [cK]
    omega
theorem cK_end (l : List Int) (h : ∀ v ∈ l, 0 ≤ v ∧ v ≤ 2000000) : cK l (l.length + 2) = 0 := by
  have h0 := cK_top l h l.length
  have e1 : cK l (l.length + 2) = (cK l (l.length + 1) + l[l.length + 1]?.getD 0) / 256 := rfl
  have e2 : cK l (l.length + 1) = (cK l l.length + l[l.length]?.getD 0) / 256 := rfl
  rw [e1, e2, List.getElem?_eq_none (by omega), List.getElem?_eq_none (by omega)]
  simp only [Option.getD_none]
  omega

set_option maxHeartbeats 1000000 in
theorem at_any (x : Option Addr) (len cap : Nat) (l : List Int) (i : Nat) (w : World) (h : Ints w x len cap l) (hi : i ≤ 1000000) :
    Calls Try.prog 30 #[.slice x len cap, .int .i64 i] w fun e w' => e = .returned (.int .i64 (l[i]?.getD 0)) ∧ w = w' := by
  have hll := h.len_eq
  by_cases hlt : i < len
  · obtain ⟨b, rfl, hc⟩ : ∃ b, x = some ⟨b, 0, none⟩ ∧ ∀ j, j < len → w.cell? ⟨b, j, none⟩ = some (.int .i64 (l[j]?.getD 0)) := by
      rcases h.at_ with h0 | h
      · omega
      · exact h
    have c1 := hc i hlt
    obtain ⟨v, hv⟩ : ∃ q, l[i]?.getD 0 = q := ⟨_, rfl⟩
    rw [hv] at c1 ⊢
    have hi0 : (0 : Int) ≤ (i : Int) := by omega
    have hil : (i : Int) < (len : Int) := by omega
    clear hc hv hll h
    go_enter Try.func30, Try.ntmps30
    go_wp2
    go_ret
    exact ⟨rfl, rfl⟩
  · rw [List.getElem?_eq_none (by omega)]
    have hil : ¬ ((i : Int) < (len : Int)) := by omega
    clear hll h
    go_enter Try.func30, Try.ntmps30
    go_wp2
    go_ret
    exact ⟨rfl, rfl⟩

set_option maxHeartbeats 2000000 in
theorem carry_ref (x : Option Addr) (len cap : Nat) (l : List Int) (w : World) (h : Ints w x len cap l) (hln : len ≤ 1000) (hb : ∀ v ∈ l, 0 ≤ v ∧ v ≤ 2000000) :
    Calls Try.prog 31 #[.slice x len cap] w fun e w' => ∃ v N, e = .returned v ∧ len ≤ N ∧ N ≤ len + 2 ∧ cK l N = 0 ∧ OwnI w' w.heap.size v (oK l N) ∧ Below w.heap.size w w' := by
  have HB : Veil (∀ i : Nat, (0 : Int) ≤ l[i]?.getD (0 : Int) ∧ l[i]?.getD (0 : Int) ≤ 2000000) := ⟨getI (by omega) hb⟩
  have HT : Veil (∀ i, 0 ≤ cK l i ∧ cK l i ≤ 10000) := ⟨cK_top l hb⟩
  have HE : Veil (cK l (len + 2) = 0) := ⟨by rw [h.len_eq]; exact cK_end l hb⟩
  have HN : Veil (∀ i, len ≤ i → l[i]?.getD 0 = 0) := ⟨fun i hi => by rw [List.getElem?_eq_none (by have := h.len_eq; omega)]; rfl⟩
  have HC : Veil (∀ i, cK l (i + 1) = (cK l i + l[i]?.getD 0) / 256 ∧ oK l (i + 1) = oK l i ++ [(cK l i + l[i]?.getD 0) % 256]) := ⟨fun _ => ⟨rfl, rfl⟩⟩
  have HL : Veil (∀ i, (oK l i).length = i) := ⟨oK_length l⟩
  have HI : Veil (Ints w x len cap l) := ⟨h⟩
  clear h hb
  go_enter Try.func31, Try.ntmps31
  go_wp2_with fail
  go_loopw [3, 4, 5] (fun v c i wr => ∃ j : Nat, j ≤ len + 2 ∧ i = .int .i64 j ∧ c = .int .i64 (cK l j) ∧ OwnI wr w.heap.size v (oK l j) ∧ Below w.heap.size w wr) (fun _ _ i _ => len + 3 - (intOf i).toNat)
  case atStart => exact ⟨0, by omega, rfl, rfl, OwnI.nil _ _, Below.refl _ _⟩
  case round =>
    obtain ⟨j, hj, rfl, rfl, ho, hB⟩ := hrel
    have hcv := HT.out j
    have hlv := HB.out j
    have hL := HL.out j
    have HJ : Veil (cK l (j + 1) = (cK l j + l[j]?.getD 0) / 256 ∧ oK l (j + 1) = oK l j ++ [(cK l j + l[j]?.getD 0) % 256]) := ⟨HC.out j⟩
    by_cases hlt : j < len
    · obtain ⟨b, rfl, hc⟩ : ∃ b, x = some ⟨b, 0, none⟩ ∧ ∀ j, j < len → wr.cell? ⟨b, j, none⟩ = some (.int .i64 (l[j]?.getD 0)) := by
        rcases (HI.out.below hB).at_ with h0 | h
        · omega
        · exact h
      have c1 := hc j hlt
      obtain ⟨u, hu⟩ : ∃ q, l[j]?.getD 0 = q := ⟨_, rfl⟩
      obtain ⟨c, hce⟩ : ∃ q, cK l j = q := ⟨_, rfl⟩
      obtain ⟨O, hOe⟩ : ∃ q, oK l j = q := ⟨_, rfl⟩
      rw [hu] at c1 hlv HJ
      rw [hce] at hcv HJ ⊢
      rw [hOe] at ho hL HJ
      have hi0 : (0 : Int) ≤ (j : Int) := by omega
      have hil : (j : Int) < (len : Int) := by omega
      have hq : (c + u).tdiv 256 = (c + u) / 256 := Int.tdiv_eq_ediv_of_nonneg (by omega)
      have hr : (c + u).tmod 256 = (c + u) % 256 := Int.tmod_eq_emod_of_nonneg (by omega)
      clear hc hu hce hOe
      go_wp2_with (at_builtin; refine wpList_appI1 rfl _ _ rfl w.heap.size _ O rfl ((c + u) % 256) (ho.alloc _) rfl (by omega) hB.size ?_; intro v3 w3 ho3 hg3)
      go_roundw
      case rel => exact ⟨j + 1, by omega, by go_num, by rw [HJ.out.1], by rw [HJ.out.2]; exact ho3, below_grownI (hB.alloc hB.size _) (ho.alloc _) hg3 (by have := hB.size; simp; omega)⟩
      case measure => simp [intOf]; omega
    · have hn0 := HN.out j (by omega)
      rw [hn0, Int.add_zero] at HJ
      have hil : ¬ ((j : Int) < (len : Int)) := by omega
      by_cases hz : cK l j = 0
      · rw [hz]
        go_wp2
        go_ret
        exact ⟨_, rfl, j, by omega, by omega, hz, ho, hB⟩
      · have hj2 : j < len + 2 := by
          rcases Nat.lt_or_ge j (len + 2) with h | h
          · exact h
          · exfalso
            obtain rfl : j = len + 2 := by omega
            exact hz HE.out
        obtain ⟨c, hce⟩ : ∃ q, cK l j = q := ⟨_, rfl⟩
        obtain ⟨O, hOe⟩ : ∃ q, oK l j = q := ⟨_, rfl⟩
        rw [hce] at hcv HJ hz ⊢
        rw [hOe] at ho hL HJ
        have hcp : c > 0 := by omega
        have hq : c.tdiv 256 = c / 256 := Int.tdiv_eq_ediv_of_nonneg (by omega)
        have hr : c.tmod 256 = c % 256 := Int.tmod_eq_emod_of_nonneg (by omega)
        clear hce hOe hn0
        go_wp2_with (at_builtin; refine wpList_appI1 rfl _ _ rfl w.heap.size _ O rfl (c % 256) (ho.alloc _) rfl (by omega) hB.size ?_; intro v3 w3 ho3 hg3)
        go_roundw
        case rel => exact ⟨j + 1, by omega, by go_num, by rw [HJ.out.1], by rw [HJ.out.2]; exact ho3, below_grownI (hB.alloc hB.size _) (ho.alloc _) hg3 (by have := hB.size; simp; omega)⟩
        case measure => simp [intOf]; omega
end Go.Proofs.Ytnblcdpahpcglaa
