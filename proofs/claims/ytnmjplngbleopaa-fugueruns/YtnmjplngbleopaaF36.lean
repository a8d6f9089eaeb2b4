/- Fu2 Gate7 Fu3 Fr6 Fr7 Fr8 -/
import Derived.Test.YtnmjplngbleopaaF35
import Derived.Test.YtnmjplngbleopaaF03
import Derived.Test.YtnmjplngbleopaaF29
import Derived.Test.YtnmjplngbleopaaF31
import Derived.Test.YtnmjplngbleopaaF34
namespace Go.Proofs.Ytnmjplngbleopaa
open Go.RowKit Go.Shelf
set_option maxRecDepth 20000
set_option linter.unusedSimpArgs false
theorem place_tailU {N : List Nd} {i : Nat} {P : Int × Int} (hl : leftN N (i : Int) = (P, 0)) (hw : walkA N (P, true) = []) : placeN N (i : Int) = (P, true, 0) := by
  unfold placeN
  rw [hl]
  simp [hw]
theorem left_foundU {N : List Nd} {i : Nat} {P : Int × Int} (h0 : i ≠ 0) (hw : (wrN N)[i - 1]? = some P) : leftN N (i : Int) = (P, 0) := by
  unfold leftN atN
  rw [if_neg (by omega), if_neg (by omega), if_neg (by omega), show ((i : Int) - 1).toNat = i - 1 by omega, hw]
  rfl
def FkN (N : List Nd) (s0 : (Int × Int) × Bool) (w k : Nat) : List Nd := if w = 0 then MgN N s0 k 0 else MgN N s0 0 k
theorem Fk_zero (N : List Nd) (s0 : (Int × Int) × Bool) (w : Nat) : FkN N s0 w 0 = N := by unfold FkN; split <;> exact Mg_zero N s0
theorem Fk_next (N : List Nd) (s0 : (Int × Int) × Bool) {w : Nat} (k : Nat) (hw : w < 2) : FkN N s0 w (k + 1) = FkN N s0 w k ++ [ndR s0 w k] := by
  unfold FkN
  by_cases h0 : w = 0
  · rw [if_pos h0, if_pos h0, h0, Mg_nextA]
  · obtain rfl : w = 1 := by omega
    rw [if_neg h0, if_neg h0, Mg_nextB]
theorem Fk_len (N : List Nd) (s0 : (Int × Int) × Bool) (w k : Nat) : (FkN N s0 w k).length = N.length + k := by unfold FkN; split <;> rw [Mg_len] <;> omega
theorem Old.okFk {N : List Nd} {s0 : (Int × Int) × Bool} (h : Old N s0) (w : Nat) {k : Nat} (hk : k ≤ 12) : TreeOk (FkN N s0 w k) := by
  unfold FkN
  split
  · exact h.okMg k hk 0 (by omega)
  · exact h.okMg 0 (by omega) k hk
theorem Old.refFk {N : List Nd} {s0 : (Int × Int) × Bool} (h : Old N s0) {w k : Nat} (hw : w < 2) (hk : k < 12) : refI (FkN N s0 w k) (ndR s0 w k) = 0 ∧ insN (FkN N s0 w k) (ndR s0 w k) = FkN N s0 w (k + 1) := by
  have hr : refI (FkN N s0 w k) (ndR s0 w k) = 0 := by
    unfold FkN
    by_cases h0 : w = 0
    · rw [if_pos h0, h0]
      exact h.ref (by omega) (by omega) hk (.inl ⟨rfl, rfl⟩)
    · obtain rfl : w = 1 := by omega
      rw [if_neg h0]
      exact h.ref (by omega) (by omega) hk (.inr ⟨rfl, rfl⟩)
  refine ⟨hr, ?_⟩
  unfold insN
  rw [if_pos hr, Fk_next N s0 k hw]
theorem Old.noneFk {N : List Nd} {s0 : (Int × Int) × Bool} (h : Old N s0) {w k : Nat} (hw : w < 2) (hk : k ≤ 12) : walkA (FkN N s0 w k) (idW w (k - 1), true) = [] := by
  refine walk_empty (h.okFk w hk).rooted (kids_noneU fun n hn q => ?_)
  by_cases hw0 : w = 0
  · subst hw0
    have hn' : n ∈ MgN N s0 k 0 := hn
    have e := (h.under hw).2 n hn' q
    rw [e] at hn'
    exact not_word h (i := k) (j := 0) (w := 0) (k := k - 1 + 1) (by unfold cntW; rw [if_pos rfl]; omega) hn'
  · obtain rfl : w = 1 := by omega
    have hn' : n ∈ MgN N s0 0 k := hn
    have e := (h.under hw).2 n hn' q
    rw [e] at hn'
    exact not_word h (i := 0) (j := k) (w := 1) (k := k - 1 + 1) (by unfold cntW; rw [if_neg (by decide)]; omega) hn'
structure Fwd (N : List Nd) (s0 : (Int × Int) × Bool) (at_ w k : Nat) : Prop where
  len : (wrN (FkN N s0 w k)).length = (wrN N).length + k
  place : placeN (FkN N s0 w k) ((at_ + k : Nat) : Int) = ((ndR s0 w k).side.1, (ndR s0 w k).side.2, 0)
theorem Old.fwd {N : List Nd} {at_ : Nat} (h : Old N (sideN N at_)) (hat : at_ ≤ (wrN N).length) {w : Nat} (hw : w < 2) : ∀ k, k < 12 → Fwd N (sideN N at_) at_ w k
  | 0, _ => by
    refine ⟨by rw [Fk_zero]; rfl, ?_⟩
    rw [Fk_zero, Nat.add_zero]
    have h1 := (place_ok h.ok hat).1
    unfold ndR sideN
    rw [← h1]
    rfl
  | k + 1, hk => by
    have ih := h.fwd hat hw k (by omega)
    have hr := (h.refFk hw (show k < 12 by omega)).1
    have hs : (ndR (sideN N at_) w k).side = ((placeN (FkN N (sideN N at_) w k) ((at_ + k : Nat) : Int)).1, (placeN (FkN N (sideN N at_) w k) ((at_ + k : Nat) : Int)).2.1) := by rw [ih.place]
    obtain ⟨h2, h3⟩ := place_found (h.okFk w (show k ≤ 12 by omega)) (k := at_ + k) (by rw [ih.len]; omega) hs hr
    rw [← Fk_next N (sideN N at_) k hw] at h2 h3
    refine ⟨by rw [h3, ih.len]; omega, ?_⟩
    have hs1 : (ndR (sideN N at_) w (k + 1)).side = (idW w k, true) := by unfold ndR; rw [if_neg (by omega)]; rfl
    rw [hs1]
    refine place_tailU (left_foundU (by omega) (by rw [show at_ + (k + 1) - 1 = at_ + k by omega, h2]; rfl)) ?_
    exact h.noneFk hw (k := k + 1) (by omega)
open Go Go.RowKit
section
variable {P : Program} {ops : Array Oper} {Q : Exit → Act → World → Prop} {md : Region.Mode} {T S : World → Prop} {D : Nat}
end
theorem str_cut (X : List Int) (i n : Nat) : (strOfNums X).extract i (i + n) = strOfNums ((X.drop i).take n) := by
  apply ByteArray.ext
  rw [ByteArray.data_extract]
  unfold strOfNums
  simp [List.extract_toArray, List.map_take, List.map_drop, List.extract_eq_take_drop]
theorem str_holds (A W B : List Int) : (strOfNums (A ++ W ++ B)).extract A.length (A.length + W.length) = strOfNums W := by
  rw [str_cut, List.append_assoc, List.drop_left, List.take_left]
theorem str_addU (a b : List Int) : strOfNums a ++ strOfNums b = strOfNums (a ++ b) := by
  apply ByteArray.ext
  simp [ByteArray.data_append, strOfNums]
set_option maxHeartbeats 4000000 in
theorem has_any (S T : ByteArray) (k n m : Nat) (hn : T.size = n) (hm : S.size = m) (hk : k + n ≤ m) (he : S.extract k (k + n) = T) (hm2 : m ≤ 100000) (w : World) :
    Calls Try.prog 11 #[.string S, .string T] w fun r w' => r = .returned (.bool true) ∧ Below w.heap.size w w' := by
  have HE := Veil.mk he
  clear he
  go_enter Try.func11, Try.ntmps11
  go_wp2_with fail
  go_loopw [5] (fun iv wr => ∃ i : Nat, iv = .int .i64 (i : Nat) ∧ i ≤ k ∧ Below w.heap.size w wr) (fun iv _ => k + 1 - (intOf iv).toNat)
  case atStart => exact ⟨0, rfl, Nat.zero_le _, Below.refl _ _⟩
  case round =>
    obtain ⟨i, rfl, hi, hB⟩ := hrel
    have hw0 : IntKind.i64.wrap ((i : Int) + (n : Int)) = (i : Int) + (n : Int) := by rw [IntKind.wrap_i64]; omega
    have hww : IntKind.i64.wrap ((i : Int) + 1) = (i : Int) + 1 := by rw [IntKind.wrap_i64]; omega
    have d1 : decide ((i : Int) + (n : Int) ≤ (m : Int)) = true := by simp; omega
    have l1 : (i : Int) + (n : Int) ≤ (m : Int) := by omega
    have l2 : (0 : Int) ≤ (i : Int) + (n : Int) := by omega
    have l3 : (0 : Int) ≤ (i : Int) := by omega
    have l4 : (i : Int) ≤ (i : Int) + (n : Int) := by omega
    have t1 : ((i : Int) + (n : Int)).toNat = i + n := by omega
    have t2 : ((i : Int)).toNat = i := Int.toNat_natCast i
    by_cases hq : S.extract i (i + n) = T
    · have hqb : ((S.extract i (i + n)).toList == T.toList) = true := by rw [hq]; exact beq_self_eq_true _
      clear hq
      go_wp2
      go_ret
      exact ⟨rfl, hB⟩
    · have hqb : ((S.extract i (i + n)).toList == T.toList) = false := by
        rw [beq_eq_false_iff_ne]
        intro h
        rw [ByteArray.toList_eq, ByteArray.toList_eq] at h
        exact hq (ByteArray.ext (Array.toList_inj.1 h))
      have hik : i < k := by
        rcases Nat.lt_or_ge i k with h | h
        · exact h
        · obtain rfl : i = k := by omega
          exact absurd HE.out hq
      clear hq
      go_wp2_with fail
      go_roundw
      case rel => exact ⟨i + 1, by push_cast; rfl, hik, hB⟩
      case measure => simp [intOf]; omega
def ndOf (N : List Nd) (x : Int × Int) : Nd := (N.find? (fun n => decide (n.id = x))).getD ⟨(0, 0), ((0, 0), false), 0⟩
def cF (N : List Nd) (x : Int × Int) : List Value := ndC (ndOf N x)
theorem OwnI.push {w : World} {base : Nat} {t : TypeId} {k : Nat} {v : Value} {L : List (List Value)} (h : OwnI w base t k v L) (st : TypeId) {z : Value} {by_ : Nat} (hst : Try.prog.underlying st = some (.slice t)) (hi : (Try.prog.info? t).map (fun i => (i.zero, i.size, i.bytes)) = some (some z, k, by_)) (hz : z.cells.size = k) (hk : 0 < k)
    (c : List Value) (hc : c.length = k) (h1 : ∀ u ∈ c, u.oneCell' = true) (hln : L.length ≤ 1000000) (hby : by_ ≤ 1000) (hbase : base ≤ w.heap.size) :
    ∃ x cp W, (Builtin.append_ #[st, st] st #[v, .slice (some ⟨w.heap.size, 0, none⟩) 1 1]).run Try.prog (w.alloc (.cells c.toArray t)) = .ok (.slice x (L.length + 1) cp) W ∧ OwnI W base t k (.slice x (L.length + 1) cp) (L ++ [c]) ∧ Turn (fun j => v.ownBlock = some j) w W ∧ ∀ g, (Value.slice x (L.length + 1) cp).ownBlock = some g → v.ownBlock = some g ∨ w.heap.size ≤ g := by
  have hal : Below w.heap.size w (w.alloc (.cells c.toArray t)) := (Below.refl _ _).alloc (Nat.le_refl _) _
  obtain ⟨v', W, hrun, ho, hg, hb⟩ := (h.far hal).app (P := Try.prog) st st hst hi hz hk c hc h1 w.heap.size (CellsAt.new w t c).wholeM hln hby (by rw [World.size_alloc]; omega)
  obtain ⟨x, cp, rfl⟩ := ho.isSlice
  rw [List.length_append, List.length_singleton] at hrun ho hb
  refine ⟨x, cp, W, hrun, ho, (Turn.of_below hal).trans (Turn.of_grown hg fun j hj => hj), fun g hgg => ?_⟩
  rcases hb with q | q
  · exact .inl (by rw [← q]; exact hgg)
  · rw [q] at hgg
    have := Option.some.inj hgg
    rw [World.size_alloc] at this
    exact .inr (by omega)
theorem below_setRowN {B : Nat} {a w : World} {g : Nat} (h : Below B a w) (hg : B ≤ g) (cs : Array Value) : Below B a (w.setRow g cs) := ⟨h.os, h.tape, h.output, by have := h.size; simp [World.setRow, World.putObj]; omega, fun k hk => (setRow_other _ _ _ _ (by omega)).trans (h.block k hk)⟩
structure Wk (N : List Nd) (w W : World) (b0 : Nat) (u p : Value) (M : List (Int × Int)) : Prop where
  own : OwnI W b0 80 6 p (M.map (cF N))
  turn : Turn (fun k => u.ownBlock = some k) w W
  blk : ∀ k, p.ownBlock = some k → u.ownBlock = some k ∨ w.heap.size ≤ k
theorem Wk.far {N : List Nd} {w W W' : World} {b0 : Nat} {u p : Value} {M : List (Int × Int)} (h : Wk N w W b0 u p M) (hb : Below W.heap.size W W') : Wk N w W' b0 u p M := ⟨h.own.far hb, h.turn.trans (Turn.of_below hb), h.blk⟩
theorem Wk.trans {N : List Nd} {w W W' : World} {b0 : Nat} {u p q : Value} {M M' : List (Int × Int)} (h : Wk N w W b0 u p M) (h' : Wk N W W' b0 p q M') : Wk N w W' b0 u q M' where
  own := h'.own
  turn := ⟨h'.turn.os.trans h.turn.os, h'.turn.tape.trans h.turn.tape, h'.turn.output.trans h.turn.output, Nat.le_trans h.turn.size h'.turn.size, fun k hk hn => by
    rw [h'.turn.block k (Nat.lt_of_lt_of_le hk h.turn.size) (fun e => by rcases h.blk k e with q | q; exact hn q; omega), h.turn.block k hk hn]⟩
  blk := fun k hk => by
    rcases h'.blk k hk with q | q
    · exact h.blk k q
    · exact .inr (Nat.le_trans h.turn.size q)
theorem Wk.keep {N : List Nd} {w W : World} {b0 : Nat} {u p : Value} {M : List (Int × Int)} (h : Wk N w W b0 u p M) {k : Nat} (hk : k < w.heap.size) (hn : u.ownBlock ≠ some k) : W.heap[k]? = w.heap[k]? := h.turn.block k hk hn
end Go.Proofs.Ytnmjplngbleopaa
