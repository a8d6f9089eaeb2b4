/- disk: 'whole': the whole records, yielded one after the other. -/
import Derived.RangeFuncFrom
import Derived.RangeFuncCalls
import Derived.RangeFuncLeaves
import Derived.RangeFuncNested
import Derived.RangeFuncBound
import Derived.Shelf.Abstract
import Derived.Shelf.RegionOpen
import Derived.WalkKit
import Derived.OwnWalkIn
import Derived.TacticsInMore
import Derived.LoopNIn
import Derived.LoopIn
import Derived.Test.YtknomnnbebhijabDoorDk2
namespace Go.Proofs.YtknomnnbebhijabDoor
open Go.RowKit Go.Shelf
attribute [local go_sem] Oper.semAt_some
set_option maxRecDepth 20000
set_option linter.unusedSimpArgs false

theorem whole_any (x : Option Addr) (len cap : Nat) (w : World) :
    Calls Tryd.prog 31 #[.slice x len cap] w fun e w' => e = .returned (.func (.func 35) #[] #[.pointer (some ⟨w.heap.size, 0, none⟩)]) ∧ w' = w.alloc (.cells #[.slice x len cap] 31) := by
  go_enter Tryd.func31, Tryd.ntmps31
  go_wp2
  go_ret
  exact ⟨rfl, rfl⟩
theorem take_finD (N k : Nat) (h : k < N) : (List.finRange N).take (k + 1) = (List.finRange N).take k ++ [⟨k, h⟩] := by
  rw [List.take_succ_eq_append_getElem (by simpa using h)]; simp
theorem grownBy_of_below {w w' : World} (h : Below w.heap.size w w') : w.grownBy w' none := ⟨h.os, h.tape, h.output, h.size, fun k hk _ => h.block k hk⟩
/-- The k-th record's slice. -/
def recV (x : Option Addr) (z : List Int) (k : Nat) : Value := .slice (cutA x (sumK (wholeN z) k) (sumK (wholeN z) k + (wholeN z)[k]?.getD 0)) ((wholeN z)[k]?.getD 0) ((wholeN z)[k]?.getD 0)
/-- What is left behind k records: where it lies, and its bytes. -/
structure RestAt (w : World) (x : Option Addr) (cap : Nat) (z : List Int) (k : Nat) (xk : Option Addr) (lk ck : Nat) : Prop where
  bytes : Bytes w xk lk ck (z.drop (sumK (wholeN z) k))
  at_ : k < (wholeN z).length → xk = x.map (·.add (sumK (wholeN z) k * 1))
theorem map_add0 (x : Option Addr) (hx : ∀ a, x = some a → a.spot = none) : x.map (·.add (0 * 1)) = x := by
  cases x with
  | none => rfl
  | some a =>
    have := hx a rfl
    obtain ⟨b, o, s⟩ := a
    simp only at this
    subst this
    simp [Addr.add_mid']
theorem RestAt.next {w : World} {b0 o0 cap : Nat} {z : List Int} {k : Nat} {xk : Option Addr} {lk ck : Nat} (h : RestAt w (some ⟨b0, o0, none⟩) cap z k xk lk ck) (hk : k < (wholeN z).length) :
    RestAt w (some ⟨b0, o0, none⟩) cap z (k + 1) (subA xk ck (wholeN z)[k]) (lk - (wholeN z)[k]) (ck - (wholeN z)[k]) := by
  have hs := sumK_succ (wholeN z) k hk
  have hle := (wholeN_at _ z rfl (k + 1)).2.2 (by omega)
  have hll := h.bytes.len_eq
  rw [List.length_drop] at hll
  have hlc := h.bytes.le
  refine ⟨?_, fun h1 => ?_⟩
  · have := h.bytes.cut (wholeN z)[k] lk (by omega) (Nat.le_refl _)
    rw [List.drop_drop, ← hs, List.take_of_length_le (by rw [List.length_drop]; omega)] at this
    exact this
  · have h2 := wholeN_pos z (k + 1) h1
    have h3 := sumK_succ (wholeN z) (k + 1) h1
    have h4 := (wholeN_at _ z rfl (k + 2)).2.2 (by omega)
    have e : k + 1 + 1 = k + 2 := rfl
    rw [e] at h3
    unfold subA
    rw [if_neg (by omega), h.at_ hk, hs]
    simp only [Option.map_some, Addr.add_mid', Nat.mul_one, Nat.add_assoc]
theorem RestAt.cut1 {w : World} {b0 o0 cap : Nat} {z : List Int} {k : Nat} {xk : Option Addr} {lk ck : Nat} (h : RestAt w (some ⟨b0, o0, none⟩) cap z k xk lk ck) (hk : k < (wholeN z).length) (wx : World) :
    (Instr.slice 31 (.slice xk lk ck) none (some (.int .i64 ((wholeN z)[k] : Nat))) (some (.int .i64 ((wholeN z)[k] : Nat)))).run Tryd.prog wx = .ok (recV (some ⟨b0, o0, none⟩) z k) wx := by
  have hp := wholeN_pos z k hk
  have hs := sumK_succ (wholeN z) k hk
  have hle := (wholeN_at _ z rfl (k + 1)).2.2 (by omega)
  have hll := h.bytes.len_eq
  rw [List.length_drop] at hll
  have hlc := h.bytes.le
  rw [run_slice_hm wx 31 _ lk ck elemB .i64 .i64 _ _ (by omega) (Int.le_refl _) (by omega), sizeU8]
  unfold recV cutA
  rw [List.getElem?_eq_getElem hk, Option.getD_some, if_neg (by omega), h.at_ hk]
  simp only [Result.andThen, sliced, Int.toNat_natCast]
  rw [if_neg (by omega)]
  simp [Addr.add_mid']
/-- The bytes of a disk: nil, or at the beginning of a block. -/
def TopA (x : Option Addr) : Prop := x = none ∨ ∃ g, x = some ⟨g, 0, none⟩
theorem TopA.some {w : World} {x : Option Addr} {cap : Nat} {z : List Int} (h : TopA x) (hb : Bytes w x z.length cap z) (k : Nat) (hk : k < (wholeN z).length) : ∃ g, x = some ⟨g, 0, none⟩ := by
  rcases h with rfl | h
  · have h1 := hb.nil rfl
    have h2 := hb.le
    have : z = [] := List.length_eq_zero_iff.1 (by omega)
    subst this
    rw [wholeN_none [] rfl] at hk
    simp at hk
  · exact h
theorem TopA.zero {x : Option Addr} (h : TopA x) : x.map (·.add (0 * 1)) = x := by
  rcases h with rfl | ⟨g, rfl⟩
  · rfl
  · simp [Addr.add_mid']
/-- What the body of a loop over records keeps: the function's own variable, and all that lay there ahead of the loop. -/
def KeepR (Bn B0 : Nat) (A B : World) : Prop := B.heap[Bn]? = A.heap[Bn]? ∧ Below B0 A B
set_option maxHeartbeats 2000000 in
theorem whole1_in (n l Bn : Nat) (x : Option Addr) (cap : Nat) (z : List Int) (w0 : World) (hx : TopA x) (hb : Bytes w0 x z.length cap z) (hz : isB z) (hzl : z.length ≤ 65536) (hKT : S.KTab w0)
    (J Jx : List (Fin (wholeN z).length) → World → Prop) (W : World) (hJ : AbidesFrom W.heap.size J)
    (hY : ∀ pre (i : Fin (wholeN z).length) W1, J pre W1 → pre.length < (wholeN z).length → YieldAt Fence.wide (n - 1) Tryd.prog l #[recV x z i.1] W1 fun e W' =>
      (e = .returned (.bool true) ∧ J (pre ++ [i]) W' ∧ KeepR Bn w0.heap.size W1 W') ∨ (e = .returned (.bool false) ∧ Jx (pre ++ [i]) W'))
    (hW : Below w0.heap.size w0 W) (hBn : W.cell? ⟨Bn, 0, none⟩ = some (.slice x z.length cap)) (h0 : J [] W) :
    CallsIn Fence.wide n Tryd.prog 35 #[.func (.yield l) #[] #[], .pointer (some ⟨Bn, 0, none⟩)] W fun e W' => (∃ v, e = .returned v) ∧
      ((∃ ys, ys = List.finRange (wholeN z).length ∧ J ys W') ∨ (∃ pre, pre <+: List.finRange (wholeN z).length ∧ Jx pre W')) := by
  have hR0 : RestAt w0 x cap z 0 x z.length cap := ⟨by rw [sumK_zero, List.drop_zero]; exact hb, fun _ => by rw [sumK_zero]; exact hx.zero.symm⟩
  have hFS : ∀ k xk lk ck wx, RestAt w0 x cap z k xk lk ck → k ≤ (wholeN z).length → Below w0.heap.size w0 wx → Calls Tryd.prog 36 #[.slice xk lk ck] wx fun e w' => e = .returned (.int .i64 ((wholeN z)[k]?.getD 0 : Nat)) ∧ Below wx.heap.size wx w' := fun k xk lk ck wx hR hk hB => by
    have hll := hR.bytes.len_eq
    rw [List.length_drop] at hll
    have := firstSize_any xk lk ck _ wx (hR.bytes.below hB) (fun v hv => hz v (List.mem_of_mem_drop hv)) (by omega) (hKT.below hB)
    have hN := wholeN_at _ z rfl k
    by_cases h : k < (wholeN z).length
    · rw [hN.1 h] at this
      rw [List.getElem?_eq_getElem h]
      exact this
    · rw [hN.2.1 (by omega)] at this
      rw [List.getElem?_eq_none (by omega)]
      exact this
  have hF0 := hFS 0 x z.length cap W hR0 (Nat.zero_le _) hW
  refine callsIn_of_wp Tryd.func35 rfl trivial ?_ rfl
  simp only [Tryd.ntmps35, List.size_toArray, List.length_cons, List.length_nil, Nat.reduceAdd, Nat.reduceSub, Array.replicate_succ, Array.replicate_zero, List.push_toArray, List.append_toArray, List.nil_append, List.cons_append]
  gi_wp2_with (refine ⟨trivial, (fun h => by cases h), ?_⟩; refine (callsIn_wide.2 hF0).mono ?_; rintro e W1 ⟨rfl, hb1⟩)
  have hJ1 : J [] W1 := hJ _ _ _ none h0 (grownBy_of_below hb1) (fun r e => by cases e)
  have hW1 : Below w0.heap.size w0 W1 := hW.trans (hb1.mono hW.size)
  have hc1 : W1.cell? ⟨Bn, 0, none⟩ = some (.slice x z.length cap) := (hb1.cell (p := ⟨Bn, 0, none⟩) (block_lt_of_cell hBn)).trans hBn
  clear hF0
  gi_loopw [3, 4] (fun r p wr => ∃ k xk lk ck, k ≤ (wholeN z).length ∧ r = .slice xk lk ck ∧ p = .int .i64 ((wholeN z)[k]?.getD 0 : Nat) ∧ RestAt w0 x cap z k xk lk ck ∧ wr.cell? ⟨Bn, 0, none⟩ = some (.slice x z.length cap) ∧ Below w0.heap.size w0 wr ∧ W.heap.size ≤ wr.heap.size ∧ J ((List.finRange (wholeN z).length).take k) wr)
    (fun r _ _ => lenOf r)
  case atStart =>
    exact ⟨0, x, _, cap, Nat.zero_le _, rfl, rfl, hR0, hc1, hW1, hb1.size, by simpa using hJ1⟩
  case round =>
    clear hJ1 hW1 hc1 hb1 hR0
    obtain ⟨k, xk, lk, ck, hk, rfl, rfl, hR, hc, hBr, hsz, hJs⟩ := hrel
    by_cases hlt : k < (wholeN z).length
    · obtain ⟨g, rfl⟩ := hx.some hb k hlt
      obtain ⟨fn, tmps, assign, body, hy, hRd⟩ := hY _ ⟨k, hlt⟩ wr hJs (by simp; omega)
      dsimp only at hy
      rw [← take_finD _ k hlt] at hRd
      have hp := wholeN_pos z k hlt
      have hrec := hR.cut1 hlt
      have hnx := hR.next hlt
      have hF := fun wx => hFS (k + 1) _ _ _ wx hnx hlt
      have hcl := fun wx => run_cut_l wx xk lk ck (wholeN z)[k] (by have h1 := hR.bytes.len_eq; rw [List.length_drop] at h1; have h2 := (wholeN_at _ z rfl (k + 1)).2.2 (by omega); rw [sumK_succ _ _ hlt] at h2; omega)
      rw [List.getElem?_eq_getElem hlt, Option.getD_some]
      obtain ⟨m, hm⟩ : ∃ m, (wholeN z)[k] = m := ⟨_, rfl⟩
      rw [hm] at hp hrec hnx hF hcl ⊢
      have HM := Veil.mk hm
      have hm0 : (0 : Int) < (m : Int) := by omega
      obtain ⟨V, hV⟩ : ∃ V, recV (some ⟨g, 0, none⟩) z k = V := ⟨_, rfl⟩
      rw [hV] at hrec hy
      clear hm hV
      have hm1 : 0 < m := by omega
      have hlk : 10 ≤ lk := by
        have h1 := hR.bytes.len_eq
        rw [List.length_drop] at h1
        have h2 := (wholeN_at _ z rfl (k + 1)).2.2 (by omega)
        rw [sumK_succ _ _ hlt, HM.out] at h2
        omega
      clear hR hb hBn hFS hY h0 hW
      gi_wp2
      refine ⟨(fun h => by cases h), hRd.mono ?_⟩
      rintro e W3 (⟨rfl, hJ3, hk3, hb3⟩ | ⟨rfl, hJx3⟩)
      · have hc3 : W3.cell? ⟨Bn, 0, none⟩ = some (.slice (some ⟨g, 0, none⟩) z.length cap) := (World.cell?_of_block (a := ⟨Bn, 0, none⟩) hk3).trans hc
        have hB3 : Below w0.heap.size w0 W3 := hBr.trans hb3
        have hF3 := hF W3 hB3
        clear hF
        gi_wp2_with (refine ⟨trivial, (fun h => by cases h), ?_⟩; refine (callsIn_wide.2 hF3).mono ?_; rintro e W4 ⟨rfl, hb4⟩)
        go_roundw
        case rel => exact ⟨k + 1, _, _, _, hlt, rfl, rfl, hnx, (hb4.cell (p := ⟨Bn, 0, none⟩) (block_lt_of_cell hc3)).trans hc3, hB3.trans (hb4.mono hB3.size), Nat.le_trans hsz (Nat.le_trans hb3.size hb4.size), hJ _ _ _ none hJ3 (grownBy_of_below hb4) (fun r e => by cases e)⟩
        case measure => simp [lenOf]; omega
      · gi_wp2
        go_end0
        exact ⟨⟨_, rfl⟩, .inr ⟨_, List.take_prefix _ _, hJx3⟩⟩
    · obtain rfl : k = (wholeN z).length := by omega
      rw [List.getElem?_eq_none (Nat.le_refl _), Option.getD_none]
      clear hY hFS hR
      gi_wp2_with (refine ⟨(fun f h => by cases h), ?_⟩)
      go_end0
      exact ⟨⟨_, rfl⟩, .inl ⟨_, rfl, by rwa [List.take_of_length_le (by simp)] at hJs⟩⟩
end Go.Proofs.YtknomnnbebhijabDoor
