/- chain: heads with one other digest. -/
import Derived.Test.YtgcidamdbidgiaaDoorHx
namespace Go.Proofs.YtgcidamdbidgiaaDoor
open Go.RowKit
set_option maxRecDepth 20000
set_option linter.unusedSimpArgs false

theorem foundAt_true {T : Sms} (a : Nat) : foundAt T a (headOf T a) = [] := by
  unfold foundAt
  rw [if_neg]
  rintro ⟨_, _, h3⟩
  exact h3 (by show atN T a ((cnt T a : Nat) : Int).toNat = _; rw [Int.toNat_natCast]; rfl)
theorem lie_found {T : Sms} (hT : OkS T) (a : Nat) (ha : a < 8) (k : List Int) (h1 : 1 ≤ cnt T a) (hk : atN T a (cnt T a) ≠ k) : ∀ n, n ≤ 8 → foundN T ((headsOf T).set a ((cnt T a : Int), k)) n = if a < n then [((a : Int), (cnt T a : Int), atN T a (cnt T a), k)] else []
  | 0, _ => by simp [foundN]
  | n + 1, hn => by
    rw [foundN_succ, lie_found hT a ha k h1 hk n (by omega)]
    by_cases e : n = a
    · subst e
      have : ((headsOf T).set n ((cnt T n : Int), k))[n]? = some ((cnt T n : Int), k) := by
        rw [List.getElem?_set_self (by rw [headsOf_length]; exact ha)]
      rw [this, if_neg (by omega), if_pos (by omega), List.nil_append]
      unfold foundAt
      simp only [Option.getD_some, Int.toNat_natCast]
      rw [if_pos ⟨by omega, Nat.le_refl _, hk⟩]
    · have hl : n < (headsOf T).length := by rw [headsOf_length]; omega
      have : ((headsOf T).set a ((cnt T a : Int), k))[n]? = some (headOf T n) := by
        rw [List.getElem?_set_ne (fun q => e q.symm), List.getElem?_eq_getElem hl, headsOf_get T n (by omega)]
      rw [this, Option.getD_some, foundAt_true n, List.append_nil]
      by_cases q : a < n
      · rw [if_pos q, if_pos (by omega)]
      · rw [if_neg q, if_neg (by omega)]
theorem heads_rng {W : World} {G : Nat} {T : Sms} (hT : OkS T) (h : CellsAt W G 41 (headsC (headsOf T))) (j : Nat) (hj : j < 8) : W.rangeAt G (j * 33) (headC (headOf T j)) := by
  have := h.range (j * 33) 33
  have hp := headsC_part (headsOf T) hT.heads_ok j (by rw [headsOf_length]; omega) []
  rw [List.append_nil, headsOf_get _ j hj] at hp
  rw [hp] at this
  exact this
/-- Another digest in the head at place j. -/
theorem headsC_sum (l : List (Int × List Int)) (hl : okHs l) (j : Nat) (hj : j < l.length) (c : Int) (s k : List Int) (he : l[j] = (c, s)) (hs : s.length = 32) :
    (headsC l).take (j * 33 + 1) ++ k.map (Value.int .u8) ++ (headsC l).drop (j * 33 + 1 + 32) = headsC (l.set j (c, k)) := by
  have hok : okHs (l.take j) := fun x hx => hl x (List.mem_of_mem_take hx)
  have hlen := headsC_len (l.take j) hok
  rw [List.length_take, Nat.min_eq_left (by omega)] at hlen
  have e1 : headsC l = headsC (l.take j) ++ [.int .u32 c] ++ (s.map (Value.int .u8) ++ headsC (l.drop (j + 1))) := by
    conv => lhs; rw [heads_split l j hj]
    rw [headsC_app, headsC_cons, he]
    unfold headC
    simp
  have e2 : l.set j (c, k) = l.take j ++ (c, k) :: l.drop (j + 1) := by
    rw [List.set_eq_take_append_cons_drop, if_pos hj]
  have hX : (headsC (l.take j) ++ [Value.int .u32 c]).length = j * 33 + 1 := by rw [List.length_append, hlen]; simp; omega
  have t3 : (headsC l).take (j * 33 + 1) = headsC (l.take j) ++ [.int .u32 c] := by rw [e1]; exact List.take_left' hX
  have d3 : (headsC l).drop (j * 33 + 1 + 32) = headsC (l.drop (j + 1)) := by
    rw [e1, ← hX, List.drop_length_add_append]
    exact List.drop_left' (by rw [List.length_map, hs])
  rw [t3, d3, e2, headsC_app, headsC_cons]
  unfold headC
  simp
end Go.Proofs.YtgcidamdbidgiaaDoor
