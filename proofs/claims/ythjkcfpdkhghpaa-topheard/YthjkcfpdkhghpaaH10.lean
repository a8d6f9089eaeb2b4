/- Od Rt -/
import Derived.Test.YthjkcfpdkhghpaaH01
import Derived.Maps.AppendAt
import Derived.RangeFuncNested
import Derived.RangeFuncCalls
import Derived.RangeFuncLeaves
import Derived.RangeFuncBound
import Derived.Shelf.Abstract
import Derived.Shelf.RegionOpen
import Derived.WalkKit
import Derived.OwnWalkIn
import Derived.TacticsInMore
import Derived.LoopNIn
import Derived.LoopIn
namespace Go.Proofs.Ythjkcfpdkhghpaa
open Go.RowKit
set_option maxRecDepth 20000
set_option linter.unusedSimpArgs false
def dotsC (L : List (Int × Int)) : List Value := (L.map fun d => dotC d.1 d.2).flatten
def OwnD (w : World) (base : Nat) (v : Value) (L : List (Int × Int)) : Prop := w.ownsRow base 32 2 v L.length (dotsC L)
theorem OwnD.nil (w : World) (base : Nat) : OwnD w base (.slice none 0 0) [] := World.ownsRow_nil w base 32 2
theorem OwnD.isSlice {w : World} {base : Nat} {v : Value} {L : List (Int × Int)} (h : OwnD w base v L) : ∃ x c, v = .slice x L.length c := by
  rcases h.2 with ⟨rfl, h0⟩ | ⟨g, cap, cur, rfl, _⟩
  · exact ⟨none, 0, by rw [h0]⟩
  · exact ⟨_, _, rfl⟩
theorem OwnD.congr {w w' : World} {base : Nat} {v : Value} {L : List (Int × Int)} (h : OwnD w base v L) (hk : ∀ g, v.ownBlock = some g → w'.heap[g]? = w.heap[g]?) : OwnD w' base v L := by
  refine ⟨h.1, ?_⟩
  rcases h.2 with h' | ⟨g, cap, cur, h1, h2, h3, h4⟩
  · exact .inl h'
  · exact .inr ⟨g, cap, cur, h1, h2, (hk g (by rw [h1]; rfl)).trans h3, h4⟩
theorem OwnD.blockLt {w : World} {base : Nat} {v : Value} {L : List (Int × Int)} (h : OwnD w base v L) (g : Nat) (hg : v.ownBlock = some g) : g < w.heap.size ∧ base ≤ g ∧ ∃ cur, w.heap[g]? = some (.cells cur 32 (0, 0)) := by
  rcases h.2 with ⟨rfl, _⟩ | ⟨g', cap, cur, rfl, h2, h3, _⟩
  · cases hg
  · obtain rfl : g' = g := by simpa [Value.ownBlock] using hg
    exact ⟨(Array.getElem?_eq_some_iff.1 h3).1, h2, cur, h3⟩
theorem dotsC_get (L : List (Int × Int)) (j : Nat) (hj : j < L.length) : ((dotsC L).drop (j * 2)).take 2 = dotC (L[j]).1 (L[j]).2 := by
  induction L generalizing j with
  | nil => simp at hj
  | cons e L ih =>
    have hcons : dotsC (e :: L) = dotC e.1 e.2 ++ dotsC L := by simp [dotsC]
    rw [hcons]
    cases j with
    | zero => rfl
    | succ j =>
      have := ih j (by simpa using hj)
      rw [show (j + 1) * 2 = (dotC e.1 e.2).length + j * 2 by simp [dotC]; omega, List.drop_length_add_append, this]
      rfl
theorem OwnD.at_ {w : World} {base : Nat} {x : Option Addr} {n c : Nat} {L : List (Int × Int)} (h : OwnD w base (.slice x n c) L) (j : Nat) (hj : j < L.length) : ∃ g, x = some ⟨g, 0, none⟩ ∧ n = L.length ∧ w.rangeAt g (j * 2) (dotC (L[j]).1 (L[j]).2) := by
  rcases h.2 with ⟨h1, h0⟩ | ⟨g, cap', cur, h1, _, hg, hc, hm, hs, ht⟩
  · omega
  · cases h1
    refine ⟨g, rfl, rfl, fun i v hv => ?_⟩
    have hi : i < 2 := by have := (List.getElem?_eq_some_iff.1 hv).1; simpa [dotC] using this
    rw [cell_of_row w g _ _ _ _ hg, ← Array.getElem?_toList]
    have e := dotsC_get L j hj
    rw [← ht] at e
    have hlt : j * 2 + i < L.length * 2 := by omega
    rw [← e, List.getElem?_take_of_lt hi, List.getElem?_drop, List.getElem?_take_of_lt hlt] at hv
    exact hv
structure Turn (p : Nat → Prop) (w w' : World) : Prop where
  os : w'.os = w.os
  tape : w'.tape = w.tape
  output : w'.output = w.output
  size : w.heap.size ≤ w'.heap.size
  block : ∀ k, k < w.heap.size → ¬ p k → w'.heap[k]? = w.heap[k]?
theorem Turn.refl (p : Nat → Prop) (w : World) : Turn p w w := ⟨rfl, rfl, rfl, Nat.le_refl _, fun _ _ _ => rfl⟩
theorem Turn.of_below {p : Nat → Prop} {w w' : World} (h : Below w.heap.size w w') : Turn p w w' := ⟨h.os, h.tape, h.output, h.size, fun k hk _ => h.block k hk⟩
theorem Turn.of_grown {p : Nat → Prop} {w w' : World} {r : Option Nat} (h : w.grownBy w' r) (hp : ∀ k, r = some k → p k) : Turn p w w' := ⟨h.os, h.tape, h.output, h.size, fun k hk hn => h.block k hk (fun e => hn (hp k e.symm))⟩
theorem Turn.of_setCell {p : Nat → Prop} (w : World) {a : Addr} (ha : p a.block) (u : Value) : Turn p w (w.setCell a u) := ⟨rfl, rfl, rfl, by simp [World.setCell], fun k _ hn => Below.heap_setCell w a u k (fun e => hn (by rw [e]; exact ha))⟩
theorem Turn.trans {p : Nat → Prop} {a b c : World} (h : Turn p a b) (k : Turn p b c) : Turn p a c :=
  ⟨k.os.trans h.os, k.tape.trans h.tape, k.output.trans h.output, Nat.le_trans h.size k.size, fun i hi hn => (k.block i (Nat.lt_of_lt_of_le hi h.size) hn).trans (h.block i hi hn)⟩
theorem Turn.mono {p q : Nat → Prop} {w w' : World} (h : Turn p w w') (hq : ∀ k, k < w.heap.size → p k → q k) : Turn q w w' := ⟨h.os, h.tape, h.output, h.size, fun k hk hn => h.block k hk (fun e => hn (hq k hk e))⟩
theorem Turn.below {p : Nat → Prop} {w w' : World} {B : Nat} (h : Turn p w w') (hB : B ≤ w.heap.size) (hp : ∀ k, p k → B ≤ k) : Below B w w' := ⟨h.os, h.tape, h.output, h.size, fun k hk => h.block k (by omega) (fun e => by have := hp k e; omega)⟩
open Go Go.RowKit
structure StaysT (T : Nat → Prop) (w w' : World) : Prop where
  os : w'.os = w.os
  tape : w'.tape = w.tape
  output : w'.output = w.output
  size : w.heap.size ≤ w'.heap.size
  block : ∀ k, T k → w'.heap[k]? = w.heap[k]?
structure MovesT (T : Nat → Prop) (w : World) (T' : Nat → Prop) (w' : World) : Prop where
  turn : Turn T w w'
  own : ∀ k, T' k → (T k ∨ w.heap.size ≤ k) ∧ k < w'.heap.size
theorem StaysT.of_below {T : Nat → Prop} {w w' : World} (h : Below w.heap.size w w') (hT : ∀ k, T k → k < w.heap.size) : StaysT T w w' := ⟨h.os, h.tape, h.output, h.size, fun k hk => h.block k (hT k hk)⟩
theorem StaysT.put {T : Nat → Prop} {w : World} {l : Nat} (o : Obj) (hT : ¬ T l) : StaysT T w (w.putObj l o) := ⟨rfl, rfl, rfl, by simp [World.putObj], fun k hk => World.putObj_heap_other (fun e => hT (e ▸ hk))⟩
theorem Turn.put {p : Nat → Prop} {w : World} {l : Nat} (o : Obj) (hp : p l) : Turn p w (w.putObj l o) := ⟨rfl, rfl, rfl, by simp [World.putObj], fun k _ hk => World.putObj_heap_other (fun e => hk (e ▸ hp))⟩
theorem MovesT.of_below {T : Nat → Prop} {w w' : World} (h : Below w.heap.size w w') (hT : ∀ k, T k → k < w.heap.size) : MovesT T w T w' := ⟨Turn.of_below h, fun k hk => ⟨.inl hk, Nat.lt_of_lt_of_le (hT k hk) h.size⟩⟩
theorem MovesT.trans {T T1 T2 : Nat → Prop} {w w1 w2 : World} (h : MovesT T w T1 w1) (k : MovesT T1 w1 T2 w2) : MovesT T w T2 w2 :=
  ⟨⟨k.turn.os.trans h.turn.os, k.turn.tape.trans h.turn.tape, k.turn.output.trans h.turn.output, Nat.le_trans h.turn.size k.turn.size, fun i hi hn => (k.turn.block i (Nat.lt_of_lt_of_le hi h.turn.size) (fun e => by rcases (h.own i e).1 with q | q; exact hn q; omega)).trans (h.turn.block i hi hn)⟩,
   fun i hi => ⟨by rcases (k.own i hi).1 with q | q; exact (h.own i q).1; exact .inr (Nat.le_trans h.turn.size q), (k.own i hi).2⟩⟩
def roundOut (R : Option Code → World → Prop) : Exit → Act → World → Prop
  | .normal, _, W => R none W
  | .ret, _, W => R (some .ret) W
  | .exit id, _, W => R (some (.exit id)) W
  | .goto t, _, W => R (some (.goto t)) W
  | _, _, _ => False
def SeqT {α : Type} (n : Nat) (P : Program) (gf : Nat) (lb : Array Value) (encs : α → Array Value) (Own Wr : Nat → Prop) (Post Postx : List α → World → Prop) (ok : α → Prop) (N : Nat) (w : World) : Prop :=
  ∀ (l : Nat) (T : Nat → Prop) (J Jx : (Nat → Prop) → List α → World → Prop) (W : World),
    Below w.heap.size w W → (∀ k, T k → ¬ Own k ∧ k < W.heap.size) →
    (∀ T s A B, J T s A → StaysT (fun k => T k ∨ (k < W.heap.size ∧ ¬ Wr k)) A B → J T s B) → (∀ T s A B, Jx T s A → StaysT (fun k => T k ∨ (k < W.heap.size ∧ ¬ Wr k)) A B → Jx T s B) →
    (∀ T pre x W1, J T pre W1 → ok x → pre.length < N → (∀ k, T k → k < W1.heap.size) → YieldAt Fence.wide (n - 1) P l (encs x) W1 fun e W' =>
      (e = .returned (.bool true) ∧ ∃ T', J T' (pre ++ [x]) W' ∧ MovesT T W1 T' W') ∨ (e = .returned (.bool false) ∧ ∃ T', Jx T' (pre ++ [x]) W' ∧ MovesT T W1 T' W')) →
    J T [] W →
    CallsIn Fence.wide n P gf (#[.func (.yield l) #[] #[]] ++ lb) W fun e W' => (∃ v, e = .returned v) ∧
      ((∃ xs T', Post xs W' ∧ J T' xs W' ∧ MovesT (fun k => T k ∨ Wr k) W T' W') ∨ (∃ xs T', Postx xs W' ∧ Jx T' xs W' ∧ MovesT (fun k => T k ∨ Wr k) W T' W'))
def HeldT (l D B0 : Nat) (T0 : Nat → Prop) (rc : Loop) (R : (Nat → Prop) → World → Prop) (Ti : Nat → Prop) (W : World) : Prop :=
  ∃ T, (∀ k, Ti k ↔ (T k ∨ k = l ∨ k = D)) ∧ R T W ∧ (∀ k, T k → T0 k ∨ B0 ≤ k) ∧ W.heap[l]? = some (.loop rc) ∧ W.heap[D]? = some (.deferred (some []))
theorem HeldT.stays {l D B0 : Nat} {T0 Z Z' : Nat → Prop} {rc : Loop} {R : (Nat → Prop) → World → Prop} {Ti : Nat → Prop} {A B : World} (hZ : ∀ k, Z k → Z' k) (hR : ∀ T, R T A → StaysT (fun k => T k ∨ Z k) A B → R T B) (h : HeldT l D B0 T0 rc R Ti A) (hs : StaysT (fun k => Ti k ∨ Z' k) A B) : HeldT l D B0 T0 rc R Ti B := by
  obtain ⟨T, hT, hr, h0, hl, hd⟩ := h
  exact ⟨T, hT, hR T hr ⟨hs.os, hs.tape, hs.output, hs.size, fun k hk => hs.block k (hk.elim (fun q => .inl ((hT k).2 (.inl q))) (fun q => .inr (hZ k q)))⟩, h0, (hs.block l (.inl ((hT l).2 (.inr (.inl rfl))))).trans hl, (hs.block D (.inl ((hT D).2 (.inr (.inr rfl))))).trans hd⟩
theorem wpIn_rangeT {α : Type} {n : Nat} {P : Program} {g : Operand} {ps : Array Tmp} {assign body : Code} {Q : Exit → Act → World → Prop} {a : Act} {w : World}
    (h1 : 1 ≤ n) {gf : Nat} {lb : Array Value} (hg : a.eval g = .func (.func gf) #[] lb) (eg : ∀ args w, (callFunc gf args).run P w = .ok (.enter gf args) w)
    {encs : α → Array Value} {Own Wr : Nat → Prop} {Post Postx : List α → World → Prop} {ok : α → Prop} {N : Nat} (hseq : SeqT (n - 1) P gf lb encs Own Wr Post Postx ok N w) (hps : ∀ x, (encs x).size = ps.size)
    (hPost : ∀ xs A B, Post xs A → StaysT Own A B → Post xs B) (hPostx : ∀ xs A B, Postx xs A → StaysT Own A B → Postx xs B)
    (T0 : Nat → Prop) (hT0 : ∀ k, T0 k → ¬ Own k ∧ k < w.heap.size) (hOwn : ∀ k, Own k → k < w.heap.size)
    (I : (Nat → Prop) → List α → World → Prop) (Ix : Code → (Nat → Prop) → List α → World → Prop) (hI : ∀ T s A B, I T s A → StaysT (fun k => T k ∨ (k < w.heap.size ∧ ¬ Wr k)) A B → I T s B) (hIx : ∀ c T s A B, Ix c T s A → StaysT (fun k => T k ∨ (k < w.heap.size ∧ ¬ Wr k)) A B → Ix c T s B) (h0 : I T0 [] w)
    (hround : ∀ (l : Nat) (r : Loop) (T : Nat → Prop) (pre : List α) (x : α) (W : World), I T pre W → ok x → pre.length < N → (∀ k, T k → k < W.heap.size) → (∀ k, T k → T0 k ∨ w.heap.size + 2 ≤ k) → W.heap[l]? = some (.loop r) →
      assign.wpIn (Fence.wide.inRound l) (n - 1 - 1) P (Exit.then (fun a' W' => Turn T W W' ∧
        body.wpIn (Fence.wide.inRound l) (n - 1 - 1) P (roundOut fun c W3 => ∃ T', (match c with | none => I T' (pre ++ [x]) W3 | some c => Ix c T' (pre ++ [x]) W3) ∧ MovesT T (W'.putObj l (.loop { r with state := .busy })) T' W3) a' (W'.putObj l (.loop { r with state := .busy }))) (fun _ _ _ => False))
        { tmps := (ps.zip (encs x)).foldl (fun t (p, v) => t.setIfInBounds p v) a.tmps, defers := [] } W)
    (hdone : ∀ (D : Nat) (xs : List α) (T : Nat → Prop) (W : World), w.heap.size ≤ D → Post xs W → I T xs W → W.heap[D]? = some (.deferred (some [])) → Turn (fun k => T0 k ∨ Wr k) w W → ¬ T D → Q .normal { a with defers := { target := .collected D, args := #[] } :: a.defers } W)
    (hstop : ∀ (D : Nat) (c : Code) (xs : List α) (T : Nat → Prop) (W : World), w.heap.size ≤ D → Postx xs W → Ix c T xs W → W.heap[D]? = some (.deferred (some [])) → Turn (fun k => T0 k ∨ Wr k) w W → ¬ T D → c.wpIn Fence.wide n P Q { a with defers := { target := .collected D, args := #[] } :: a.defers } W) :
    (Code.rangeFunc g ps assign body).wpIn Fence.wide n P Q a w := by
  refine wpIn_rangeFunc fun fn hfn => ?_
  obtain ⟨rec, hrec⟩ : ∃ rec : LoopState → Option Code → Loop, rec = fun st pe => { state := st, pending := pe, fn, tmps := a.tmps, params := ps, assign, body, defers := w.heap.size } := ⟨_, rfl⟩
  obtain ⟨W1, hW1⟩ : ∃ W1, (w.alloc (.deferred (some []))).alloc (.loop (rec .ready none)) = W1 := ⟨_, rfl⟩
  have hL1 : W1.heap[w.heap.size + 1]? = some (.loop (rec .ready none)) := by
    rw [← hW1]; have := World.alloc_heap_new (w.alloc (.deferred (some []))) (.loop (rec .ready none)); rwa [World.size_alloc] at this
  have hK1 : W1.heap[w.heap.size]? = some (.deferred (some [])) := by
    rw [← hW1]; exact (Below.heap_alloc _ _ _ (by simp)).trans (World.alloc_heap_new w _)
  have hb1 : Below w.heap.size w W1 := by rw [← hW1]; exact ((Below.refl _ w).alloc (Nat.le_refl _) _).alloc (by simp) _
  have hs1 : W1.heap.size = w.heap.size + 2 := by rw [← hW1]; simp
  refine ⟨w.heap.size + 1, [{ target := .collected w.heap.size, args := #[] }], W1, { target := .fn (.func gf) lb, args := #[.func (.yield (w.heap.size + 1)) #[] #[]] }, W1, gf, #[.func (.yield (w.heap.size + 1)) #[] #[]] ++ lb, W1, ?_, ?_, ?_, ?_, fun _ => h1, ?_⟩
  · rw [← hW1, hrec]; exact run_enterLoop_outer _ _ _ _ _
  · simp only [resolve, hg]; simp [go_sem]
  · intro f' _; trivial
  · simp [invoke, go_sem, eg]
  have hnT : ∀ T : Nat → Prop, (∀ k, T k → T0 k ∨ w.heap.size + 2 ≤ k) → ¬ T (w.heap.size + 1) ∧ ¬ T w.heap.size := fun T hT => ⟨fun q => by rcases hT _ q with e | e; have := (hT0 _ e).2; omega; omega, fun q => by rcases hT _ q with e | e; have := (hT0 _ e).2; omega; omega⟩
  refine (hseq (w.heap.size + 1) (fun k => T0 k ∨ k = w.heap.size + 1 ∨ k = w.heap.size)
    (fun Ti pre W => HeldT (w.heap.size + 1) w.heap.size (w.heap.size + 2) T0 (rec .ready none) (fun T W => I T pre W) Ti W)
    (fun Ti pre W => ∃ c, HeldT (w.heap.size + 1) w.heap.size (w.heap.size + 2) T0 (rec .done (some c)) (fun T W => Ix c T pre W) Ti W) W1 hb1
    (fun k hk => ?_) (fun T s A B h hs => h.stays (Z := fun k => k < w.heap.size ∧ ¬ Wr k) (fun k q => ⟨by omega, q.2⟩) (fun T' hr hq => hI _ _ _ _ hr hq) hs) (fun T s A B ⟨c, h⟩ hs => ⟨c, h.stays (Z := fun k => k < w.heap.size ∧ ¬ Wr k) (fun k q => ⟨by omega, q.2⟩) (fun T' hr hq => hIx _ _ _ _ _ hr hq) hs⟩) ?_
    ⟨T0, fun k => Iff.rfl, hI _ _ _ _ h0 (StaysT.of_below hb1 (fun k hk => hk.elim (fun q => (hT0 k q).2) (fun q => q.1))), fun k hk => .inl hk, hL1, hK1⟩).mono ?_
  · rcases hk with hk | rfl | rfl
    · exact ⟨(hT0 k hk).1, by have := (hT0 k hk).2; omega⟩
    · exact ⟨fun q => by have := hOwn _ q; omega, by omega⟩
    · exact ⟨fun q => by have := hOwn _ q; omega, by omega⟩
  · rintro Ti pre x W ⟨T, hT, hi, hgr, hl, hk⟩ hok hlen hTi
    have hlt : w.heap.size + 1 < W.heap.size := (Array.getElem?_eq_some_iff.1 hl).1
    obtain ⟨hn1, hn2⟩ := hnT T hgr
    have hy := run_yield (P := P) (args := encs x) hl (by rw [hrec]; exact hps x)
    rw [hrec] at hy
    refine ⟨fn, _, assign, body, hy, roundIn_of_wpIn hfn (wpIn_mono (hround _ _ T pre x W hi hok hlen (fun k hk' => hTi k ((hT k).2 (.inl hk'))) hgr hl) ?_)⟩
    clear hy
    intro e a' W' he
    cases e with
    | normal =>
      obtain ⟨ht, hbd⟩ := he
      have hl' := (ht.block _ hlt hn1).trans hl
      have hk' := (ht.block _ (by omega) hn2).trans hk
      have hlt' : w.heap.size + 1 < W'.heap.size := (Array.getElem?_eq_some_iff.1 hl').1
      refine ⟨_, run_beginRound hl' (by rw [hrec]), wpIn_mono hbd ?_⟩
      have hl2 : (W'.putObj (w.heap.size + 1) (.loop { rec .ready none with state := .busy })).heap[w.heap.size + 1]? = some (.loop { rec .ready none with state := .busy }) := World.putObj_heap_same hlt'
      have hk2 : (W'.putObj (w.heap.size + 1) (.loop { rec .ready none with state := .busy })).heap[w.heap.size]? = some (.deferred (some [])) := (World.putObj_heap_other (by omega)).trans hk'
      have hz2 : (W'.putObj (w.heap.size + 1) (.loop { rec .ready none with state := .busy })).heap.size = W'.heap.size := by simp [World.putObj]
      have fin : ∀ (jump : Option Code) (T' : Nat → Prop) (W3 : World), MovesT T (W'.putObj (w.heap.size + 1) (.loop { rec .ready none with state := .busy })) T' W3 →
          (Instr.endRound (w.heap.size + 1) jump).run P W3 = .ok (.bool jump.isNone) (W3.putObj (w.heap.size + 1) (.loop (rec (if jump.isNone then .ready else .done) jump))) ∧
          (∀ k, T' k → T0 k ∨ w.heap.size + 2 ≤ k) ∧
          (W3.putObj (w.heap.size + 1) (.loop (rec (if jump.isNone then .ready else .done) jump))).heap[w.heap.size + 1]? = some (.loop (rec (if jump.isNone then .ready else .done) jump)) ∧
          (W3.putObj (w.heap.size + 1) (.loop (rec (if jump.isNone then .ready else .done) jump))).heap[w.heap.size]? = some (.deferred (some [])) ∧
          StaysT (fun k => T' k ∨ (k < w.heap.size ∧ ¬ Wr k)) W3 (W3.putObj (w.heap.size + 1) (.loop (rec (if jump.isNone then .ready else .done) jump))) ∧
          MovesT Ti W (fun k => T' k ∨ k = w.heap.size + 1 ∨ k = w.heap.size) (W3.putObj (w.heap.size + 1) (.loop (rec (if jump.isNone then .ready else .done) jump))) := fun jump T' W3 hm => by
        have hl3 := (hm.turn.block _ (by rw [hz2]; exact hlt') hn1).trans hl2
        have hk3 := (hm.turn.block _ (by rw [hz2]; omega) hn2).trans hk2
        have hlt3 : w.heap.size + 1 < W3.heap.size := (Array.getElem?_eq_some_iff.1 hl3).1
        have hgr' : ∀ k, T' k → T0 k ∨ w.heap.size + 2 ≤ k := fun k hk => by
          rcases (hm.own k hk).1 with q | q
          · exact hgr k q
          · rw [hz2] at q; exact .inr (by omega)
        have := run_endRound (P := P) jump hl3
        rw [hrec] at this ⊢
        refine ⟨this, hgr', World.putObj_heap_same hlt3, (World.putObj_heap_other (by omega)).trans hk3, StaysT.put _ (fun q => q.elim (hnT T' hgr').1 (fun q => by omega)), ?_⟩
        have hTl : Ti (w.heap.size + 1) := (hT _).2 (.inr (.inl rfl))
        have t1 : Turn Ti W W' := ht.mono (fun k _ q => (hT k).2 (.inl q))
        have t2 := Turn.put (p := Ti) (w := W') (.loop { rec .ready none with state := .busy }) hTl
        rw [hrec] at t2
        have t3 := hm.turn.mono (q := Ti) (fun k _ q => (hT k).2 (.inl q))
        rw [hrec] at t3
        refine ⟨((t1.trans t2).trans t3).trans (Turn.put _ hTl), fun k hk => ?_⟩
        have hz : (W3.putObj (w.heap.size + 1) (.loop { state := if jump.isNone then .ready else .done, pending := jump, fn, tmps := a.tmps, params := ps, assign, body, defers := w.heap.size })).heap.size = W3.heap.size := by simp [World.putObj]
        rw [hz]
        rcases hk with hk | rfl | rfl
        · obtain ⟨q, q2⟩ := hm.own k hk
          refine ⟨?_, q2⟩
          rcases q with q | q
          · exact .inl ((hT k).2 (.inl q))
          · rw [hz2] at q; exact .inr (Nat.le_trans ht.size q)
        · exact ⟨.inl hTl, hlt3⟩
        · exact ⟨.inl ((hT _).2 (.inr (.inr rfl))), by omega⟩
      rintro e a3 W3 hp
      cases e with
      | normal =>
        obtain ⟨T', hi3, hm⟩ := hp
        obtain ⟨hr, hg', hl4, hk4, hst, hmv⟩ := fin none T' W3 hm
        exact ⟨_, _, hr, .inl ⟨rfl, _, ⟨T', fun k => Iff.rfl, hI _ _ _ _ hi3 hst, hg', hl4, hk4⟩, hmv⟩⟩
      | ret =>
        obtain ⟨T', hi3, hm⟩ := hp
        obtain ⟨hr, hg', hl4, hk4, hst, hmv⟩ := fin (some .ret) T' W3 hm
        exact ⟨_, _, hr, .inr ⟨rfl, _, ⟨.ret, T', fun k => Iff.rfl, hIx _ _ _ _ _ hi3 hst, hg', hl4, hk4⟩, hmv⟩⟩
      | exit id =>
        obtain ⟨T', hi3, hm⟩ := hp
        obtain ⟨hr, hg', hl4, hk4, hst, hmv⟩ := fin (some (.exit id)) T' W3 hm
        exact ⟨_, _, hr, .inr ⟨rfl, _, ⟨.exit id, T', fun k => Iff.rfl, hIx _ _ _ _ _ hi3 hst, hg', hl4, hk4⟩, hmv⟩⟩
      | goto t =>
        obtain ⟨T', hi3, hm⟩ := hp
        obtain ⟨hr, hg', hl4, hk4, hst, hmv⟩ := fin (some (.goto t)) T' W3 hm
        exact ⟨_, _, hr, .inr ⟨rfl, _, ⟨.goto t, T', fun k => Iff.rfl, hIx _ _ _ _ _ hi3 hst, hg', hl4, hk4⟩, hmv⟩⟩
      | panic ch => exact hp.elim
      | outgrown => exact hp.elim
    | ret => exact he.elim
    | exit id => exact he.elim
    | goto t => exact he.elim
    | panic ch => exact he.elim
    | outgrown => exact he.elim
  · have hend : ∀ (T : Nat → Prop) (W2 : World) (o : Obj), MovesT (fun k => (T0 k ∨ k = w.heap.size + 1 ∨ k = w.heap.size) ∨ Wr k) W1 T W2 → Turn (fun k => T0 k ∨ Wr k) w (W2.putObj (w.heap.size + 1) o) := fun T W2 o hm => by
      have t := hm.turn.trans (Turn.put (p := fun k => (T0 k ∨ k = w.heap.size + 1 ∨ k = w.heap.size) ∨ Wr k) o (.inl (.inr (.inl rfl))))
      refine ⟨t.os.trans hb1.os, t.tape.trans hb1.tape, t.output.trans hb1.output, Nat.le_trans hb1.size t.size, fun k hk hn => (t.block k (by omega) (fun q => ?_)).trans (hb1.block k hk)⟩
      rcases q with (q | q | q) | q
      · exact hn (.inl q)
      · omega
      · omega
      · exact hn (.inr q)
    have hOl : ¬ Own (w.heap.size + 1) := fun q => by have := hOwn _ q; omega
    rintro e W2 ⟨⟨v, rfl⟩, (⟨xs, T', hP, ⟨T, hT, hi, hgr, hl, hk⟩, hm⟩ | ⟨xs, T', hP, ⟨c, T, hT, hi, hgr, hl, hk⟩, hm⟩)⟩
    · exact ⟨none, _, by have := run_endLoop (P := P) hl (by rw [hrec]; simp); rw [hrec] at this; exact this, hdone _ xs T _ (Nat.le_refl _) (hPost _ _ _ hP (StaysT.put _ hOl)) (hI _ _ _ _ hi (StaysT.put _ (fun q => q.elim (hnT T hgr).1 (fun q => by omega)))) ((World.putObj_heap_other (by omega)).trans hk) (hend _ _ _ hm) (hnT T hgr).2⟩
    · exact ⟨some c, _, by have := run_endLoop (P := P) hl (by rw [hrec]; simp); rw [hrec] at this; exact this, hstop _ c xs T _ (Nat.le_refl _) (hPostx _ _ _ hP (StaysT.put _ hOl)) (hIx _ _ _ _ _ hi (StaysT.put _ (fun q => q.elim (hnT T hgr).1 (fun q => by omega)))) ((World.putObj_heap_other (by omega)).trans hk) (hend _ _ _ hm) (hnT T hgr).2⟩
end Go.Proofs.Ythjkcfpdkhghpaa
