/- Od Cmp Rt -/
import Derived.Test.YtnmjplngbleopaaF01
import Derived.Maps.AppendAt
import Derived.RangeFuncNested
import Derived.RangeFuncCalls
import Derived.RangeFuncLeaves
import Derived.RangeFuncBound
import Derived.Shelf.Abstract
import Derived.Shelf.RegionOpen
import Derived.WalkKit
import Derived.OwnWalkIn
import Derived.TacticsInMore
import Derived.LoopNIn
import Derived.LoopIn
namespace Go.Proofs.Ytnmjplngbleopaa
open Go.RowKit
set_option maxRecDepth 20000
set_option linter.unusedSimpArgs false
def dotsC (L : List (Int × Int)) : List Value := (L.map fun d => dotC d.1 d.2).flatten
def OwnD (w : World) (base : Nat) (v : Value) (L : List (Int × Int)) : Prop := w.ownsRow base 32 2 v L.length (dotsC L)
theorem OwnD.nil (w : World) (base : Nat) : OwnD w base (.slice none 0 0) [] := World.ownsRow_nil w base 32 2
theorem OwnD.isSlice {w : World} {base : Nat} {v : Value} {L : List (Int × Int)} (h : OwnD w base v L) : ∃ x c, v = .slice x L.length c := by
  rcases h.2 with ⟨rfl, h0⟩ | ⟨g, cap, cur, rfl, _⟩
  · exact ⟨none, 0, by rw [h0]⟩
  · exact ⟨_, _, rfl⟩
theorem OwnD.congr {w w' : World} {base : Nat} {v : Value} {L : List (Int × Int)} (h : OwnD w base v L) (hk : ∀ g, v.ownBlock = some g → w'.heap[g]? = w.heap[g]?) : OwnD w' base v L := by
  refine ⟨h.1, ?_⟩
  rcases h.2 with h' | ⟨g, cap, cur, h1, h2, h3, h4⟩
  · exact .inl h'
  · exact .inr ⟨g, cap, cur, h1, h2, (hk g (by rw [h1]; rfl)).trans h3, h4⟩
theorem OwnD.blockLt {w : World} {base : Nat} {v : Value} {L : List (Int × Int)} (h : OwnD w base v L) (g : Nat) (hg : v.ownBlock = some g) : g < w.heap.size ∧ base ≤ g ∧ ∃ cur, w.heap[g]? = some (.cells cur 32 (0, 0)) := by
  rcases h.2 with ⟨rfl, _⟩ | ⟨g', cap, cur, rfl, h2, h3, _⟩
  · cases hg
  · obtain rfl : g' = g := by simpa [Value.ownBlock] using hg
    exact ⟨(Array.getElem?_eq_some_iff.1 h3).1, h2, cur, h3⟩
theorem dotsC_get (L : List (Int × Int)) (j : Nat) (hj : j < L.length) : ((dotsC L).drop (j * 2)).take 2 = dotC (L[j]).1 (L[j]).2 := by
  induction L generalizing j with
  | nil => simp at hj
  | cons e L ih =>
    have hcons : dotsC (e :: L) = dotC e.1 e.2 ++ dotsC L := by simp [dotsC]
    rw [hcons]
    cases j with
    | zero => rfl
    | succ j =>
      have := ih j (by simpa using hj)
      rw [show (j + 1) * 2 = (dotC e.1 e.2).length + j * 2 by simp [dotC]; omega, List.drop_length_add_append, this]
      rfl
theorem OwnD.at_ {w : World} {base : Nat} {x : Option Addr} {n c : Nat} {L : List (Int × Int)} (h : OwnD w base (.slice x n c) L) (j : Nat) (hj : j < L.length) : ∃ g, x = some ⟨g, 0, none⟩ ∧ n = L.length ∧ w.rangeAt g (j * 2) (dotC (L[j]).1 (L[j]).2) := by
  rcases h.2 with ⟨h1, h0⟩ | ⟨g, cap', cur, h1, _, hg, hc, hm, hs, ht⟩
  · omega
  · cases h1
    refine ⟨g, rfl, rfl, fun i v hv => ?_⟩
    have hi : i < 2 := by have := (List.getElem?_eq_some_iff.1 hv).1; simpa [dotC] using this
    rw [cell_of_row w g _ _ _ _ hg, ← Array.getElem?_toList]
    have e := dotsC_get L j hj
    rw [← ht] at e
    have hlt : j * 2 + i < L.length * 2 := by omega
    rw [← e, List.getElem?_take_of_lt hi, List.getElem?_drop, List.getElem?_take_of_lt hlt] at hv
    exact hv
structure Turn (p : Nat → Prop) (w w' : World) : Prop where
  os : w'.os = w.os
  tape : w'.tape = w.tape
  output : w'.output = w.output
  size : w.heap.size ≤ w'.heap.size
  block : ∀ k, k < w.heap.size → ¬ p k → w'.heap[k]? = w.heap[k]?
theorem Turn.refl (p : Nat → Prop) (w : World) : Turn p w w := ⟨rfl, rfl, rfl, Nat.le_refl _, fun _ _ _ => rfl⟩
theorem Turn.of_below {p : Nat → Prop} {w w' : World} (h : Below w.heap.size w w') : Turn p w w' := ⟨h.os, h.tape, h.output, h.size, fun k hk _ => h.block k hk⟩
theorem Turn.of_grown {p : Nat → Prop} {w w' : World} {r : Option Nat} (h : w.grownBy w' r) (hp : ∀ k, r = some k → p k) : Turn p w w' := ⟨h.os, h.tape, h.output, h.size, fun k hk hn => h.block k hk (fun e => hn (hp k e.symm))⟩
theorem Turn.of_setCell {p : Nat → Prop} (w : World) {a : Addr} (ha : p a.block) (u : Value) : Turn p w (w.setCell a u) := ⟨rfl, rfl, rfl, by simp [World.setCell], fun k _ hn => Below.heap_setCell w a u k (fun e => hn (by rw [e]; exact ha))⟩
theorem Turn.trans {p : Nat → Prop} {a b c : World} (h : Turn p a b) (k : Turn p b c) : Turn p a c :=
  ⟨k.os.trans h.os, k.tape.trans h.tape, k.output.trans h.output, Nat.le_trans h.size k.size, fun i hi hn => (k.block i (Nat.lt_of_lt_of_le hi h.size) hn).trans (h.block i hi hn)⟩
theorem Turn.mono {p q : Nat → Prop} {w w' : World} (h : Turn p w w') (hq : ∀ k, k < w.heap.size → p k → q k) : Turn q w w' := ⟨h.os, h.tape, h.output, h.size, fun k hk hn => h.block k hk (fun e => hn (hq k hk e))⟩
theorem Turn.below {p : Nat → Prop} {w w' : World} {B : Nat} (h : Turn p w w') (hB : B ≤ w.heap.size) (hp : ∀ k, p k → B ≤ k) : Below B w w' := ⟨h.os, h.tape, h.output, h.size, fun k hk => h.block k (by omega) (fun e => by have := hp k e; omega)⟩
def cmpI (a b : Int) : Int := if a < b then -1 else if b < a then 1 else 0
def cmpD (x y : Int × Int) : Int := if x.1 = y.1 then cmpI x.2 y.2 else cmpI x.1 y.1
theorem nanB_any (a : Int) (w : World) : Calls Try.prog 42 #[.int .u8 a] w fun e w' => e = .returned (.bool false) ∧ w' = w := by
  go_enter Try.func42, Try.ntmps42
  go_wp2
  go_ret
  exact ⟨rfl, rfl⟩
theorem nanU_any (a : Int) (w : World) : Calls Try.prog 43 #[.int .u32 a] w fun e w' => e = .returned (.bool false) ∧ w' = w := by
  go_enter Try.func43, Try.ntmps43
  go_wp2
  go_ret
  exact ⟨rfl, rfl⟩
theorem cmpB_any (a b : Int) (w : World) : Calls Try.prog 38 #[.int .u8 a, .int .u8 b] w fun e w' => e = .returned (.int .i64 (cmpI a b)) ∧ w' = w := by
  have hn := fun x => nanB_any x w
  have HC : Veil (cmpI a b = if a < b then -1 else if b < a then 1 else 0) := ⟨rfl⟩
  generalize cmpI a b = R at HC ⊢
  go_enter Try.func38, Try.ntmps38
  by_cases h1 : a < b
  · have HR : Veil (R = -1) := ⟨by rw [HC.out, if_pos h1]⟩
    go_wp2_with (go_at_call 42; refine (hn _).mono ?_; rintro e w' ⟨rfl, rfl⟩)
    go_ret
    exact ⟨by rw [HR.out]; rfl, rfl⟩
  · by_cases h2 : b < a
    · have HR : Veil (R = 1) := ⟨by rw [HC.out, if_neg h1, if_pos h2]⟩
      go_wp2_with (go_at_call 42; refine (hn _).mono ?_; rintro e w' ⟨rfl, rfl⟩)
      go_ret
      exact ⟨by rw [HR.out]; rfl, rfl⟩
    · have HR : Veil (R = 0) := ⟨by rw [HC.out, if_neg h1, if_neg h2]⟩
      go_wp2_with (go_at_call 42; refine (hn _).mono ?_; rintro e w' ⟨rfl, rfl⟩)
      go_ret
      exact ⟨by rw [HR.out]; rfl, rfl⟩
theorem cmpU_any (a b : Int) (w : World) : Calls Try.prog 39 #[.int .u32 a, .int .u32 b] w fun e w' => e = .returned (.int .i64 (cmpI a b)) ∧ w' = w := by
  have hn := fun x => nanU_any x w
  have HC : Veil (cmpI a b = if a < b then -1 else if b < a then 1 else 0) := ⟨rfl⟩
  generalize cmpI a b = R at HC ⊢
  go_enter Try.func39, Try.ntmps39
  by_cases h1 : a < b
  · have HR : Veil (R = -1) := ⟨by rw [HC.out, if_pos h1]⟩
    go_wp2_with (go_at_call 43; refine (hn _).mono ?_; rintro e w' ⟨rfl, rfl⟩)
    go_ret
    exact ⟨by rw [HR.out]; rfl, rfl⟩
  · by_cases h2 : b < a
    · have HR : Veil (R = 1) := ⟨by rw [HC.out, if_neg h1, if_pos h2]⟩
      go_wp2_with (go_at_call 43; refine (hn _).mono ?_; rintro e w' ⟨rfl, rfl⟩)
      go_ret
      exact ⟨by rw [HR.out]; rfl, rfl⟩
    · have HR : Veil (R = 0) := ⟨by rw [HC.out, if_neg h1, if_neg h2]⟩
      go_wp2_with (go_at_call 43; refine (hn _).mono ?_; rintro e w' ⟨rfl, rfl⟩)
      go_ret
      exact ⟨by rw [HR.out]; rfl, rfl⟩
open Go Go.RowKit
structure StaysT (T : Nat → Prop) (w w' : World) : Prop where
  os : w'.os = w.os
  tape : w'.tape = w.tape
  output : w'.output = w.output
  size : w.heap.size ≤ w'.heap.size
  block : ∀ k, T k → w'.heap[k]? = w.heap[k]?
structure MovesT (T : Nat → Prop) (w : World) (T' : Nat → Prop) (w' : World) : Prop where
  turn : Turn T w w'
  own : ∀ k, T' k → (T k ∨ w.heap.size ≤ k) ∧ k < w'.heap.size
theorem StaysT.of_below {T : Nat → Prop} {w w' : World} (h : Below w.heap.size w w') (hT : ∀ k, T k → k < w.heap.size) : StaysT T w w' := ⟨h.os, h.tape, h.output, h.size, fun k hk => h.block k (hT k hk)⟩
theorem StaysT.put {T : Nat → Prop} {w : World} {l : Nat} (o : Obj) (hT : ¬ T l) : StaysT T w (w.putObj l o) := ⟨rfl, rfl, rfl, by simp [World.putObj], fun k hk => World.putObj_heap_other (fun e => hT (e ▸ hk))⟩
theorem Turn.put {p : Nat → Prop} {w : World} {l : Nat} (o : Obj) (hp : p l) : Turn p w (w.putObj l o) := ⟨rfl, rfl, rfl, by simp [World.putObj], fun k _ hk => World.putObj_heap_other (fun e => hk (e ▸ hp))⟩
theorem MovesT.of_below {T : Nat → Prop} {w w' : World} (h : Below w.heap.size w w') (hT : ∀ k, T k → k < w.heap.size) : MovesT T w T w' := ⟨Turn.of_below h, fun k hk => ⟨.inl hk, Nat.lt_of_lt_of_le (hT k hk) h.size⟩⟩
theorem MovesT.trans {T T1 T2 : Nat → Prop} {w w1 w2 : World} (h : MovesT T w T1 w1) (k : MovesT T1 w1 T2 w2) : MovesT T w T2 w2 :=
  ⟨⟨k.turn.os.trans h.turn.os, k.turn.tape.trans h.turn.tape, k.turn.output.trans h.turn.output, Nat.le_trans h.turn.size k.turn.size, fun i hi hn => (k.turn.block i (Nat.lt_of_lt_of_le hi h.turn.size) (fun e => by rcases (h.own i e).1 with q | q; exact hn q; omega)).trans (h.turn.block i hi hn)⟩,
   fun i hi => ⟨by rcases (k.own i hi).1 with q | q; exact (h.own i q).1; exact .inr (Nat.le_trans h.turn.size q), (k.own i hi).2⟩⟩
def roundOut (R : Option Code → World → Prop) : Exit → Act → World → Prop
  | .normal, _, W => R none W
  | .ret, _, W => R (some .ret) W
  | .exit id, _, W => R (some (.exit id)) W
  | .goto t, _, W => R (some (.goto t)) W
  | _, _, _ => False
def SeqT {α : Type} (n : Nat) (P : Program) (gf : Nat) (lb : Array Value) (encs : α → Array Value) (Own Wr : Nat → Prop) (Post Postx : List α → World → Prop) (ok : α → Prop) (N : Nat) (w : World) : Prop :=
  ∀ (l : Nat) (T : Nat → Prop) (J Jx : (Nat → Prop) → List α → World → Prop) (W : World),
    Below w.heap.size w W → (∀ k, T k → ¬ Own k ∧ k < W.heap.size) →
    (∀ T s A B, J T s A → StaysT (fun k => T k ∨ (k < W.heap.size ∧ ¬ Wr k)) A B → J T s B) → (∀ T s A B, Jx T s A → StaysT (fun k => T k ∨ (k < W.heap.size ∧ ¬ Wr k)) A B → Jx T s B) →
    (∀ T pre x W1, J T pre W1 → ok x → pre.length < N → (∀ k, T k → k < W1.heap.size) → YieldAt Fence.wide (n - 1) P l (encs x) W1 fun e W' =>
      (e = .returned (.bool true) ∧ ∃ T', J T' (pre ++ [x]) W' ∧ MovesT T W1 T' W') ∨ (e = .returned (.bool false) ∧ ∃ T', Jx T' (pre ++ [x]) W' ∧ MovesT T W1 T' W')) →
    J T [] W →
    CallsIn Fence.wide n P gf (#[.func (.yield l) #[] #[]] ++ lb) W fun e W' => (∃ v, e = .returned v) ∧
      ((∃ xs T', Post xs W' ∧ J T' xs W' ∧ MovesT (fun k => T k ∨ Wr k) W T' W') ∨ (∃ xs T', Postx xs W' ∧ Jx T' xs W' ∧ MovesT (fun k => T k ∨ Wr k) W T' W'))
def HeldT (l D B0 : Nat) (T0 : Nat → Prop) (rc : Loop) (R : (Nat → Prop) → World → Prop) (Ti : Nat → Prop) (W : World) : Prop :=
  ∃ T, (∀ k, Ti k ↔ (T k ∨ k = l ∨ k = D)) ∧ R T W ∧ (∀ k, T k → T0 k ∨ B0 ≤ k) ∧ W.heap[l]? = some (.loop rc) ∧ W.heap[D]? = some (.deferred (some []))
theorem HeldT.stays {l D B0 : Nat} {T0 Z Z' : Nat → Prop} {rc : Loop} {R : (Nat → Prop) → World → Prop} {Ti : Nat → Prop} {A B : World} (hZ : ∀ k, Z k → Z' k) (hR : ∀ T, R T A → StaysT (fun k => T k ∨ Z k) A B → R T B) (h : HeldT l D B0 T0 rc R Ti A) (hs : StaysT (fun k => Ti k ∨ Z' k) A B) : HeldT l D B0 T0 rc R Ti B := by
  obtain ⟨T, hT, hr, h0, hl, hd⟩ := h
  exact ⟨T, hT, hR T hr ⟨hs.os, hs.tape, hs.output, hs.size, fun k hk => hs.block k (hk.elim (fun q => .inl ((hT k).2 (.inl q))) (fun q => .inr (hZ k q)))⟩, h0, (hs.block l (.inl ((hT l).2 (.inr (.inl rfl))))).trans hl, (hs.block D (.inl ((hT D).2 (.inr (.inr rfl))))).trans hd⟩
end Go.Proofs.Ytnmjplngbleopaa
