/- A range over a function whose iterator and whose rounds both write: who owns which blocks. A region that draws its order, with a gate (Gate), where a round may be called in it: in the widest fence. slices.AppendSeq, slices.Collect at events and dots: whatever the iterator is, it may write. (Written by mkbc.py.) maps.Keys of what waits: whatever order, each dot once. -/
import Derived.RangeFuncNested
import Derived.RangeFuncCalls
import Derived.RangeFuncLeaves
import Derived.RangeFuncBound
import Derived.Shelf.Abstract
import Derived.Shelf.RegionOpen
import Derived.WalkKit
import Derived.OwnWalkIn
import Derived.TacticsInMore
import Derived.LoopNIn
import Derived.LoopIn
import Derived.Test.YtgmbmdmbnpkbbaaOd
import Derived.OrdersIn
import Derived.Test.YtgmbmdmbnpkbbaaMGateGate2
import Derived.Test.YtgmbmdmbnpkbbaaMGate3Gate4
import Derived.Test.YtgmbmdmbnpkbbaaMGxCv7BgBtOi
import Derived.Test.YtgmbmdmbnpkbbaaMCv4EvmCv5Cv6
import Derived.Sort.MapsRangeIn
import Derived.Shelf.AbstractIn
import Derived.RegionIn
import Derived.Test.YtgmbmdmbnpkbbaaBf1
namespace Go.Proofs.Ytgmbmdmbnpkbbaa
open Go Go.RowKit
set_option linter.unusedSimpArgs false

/-- The blocks of T are as they were. -/
structure StaysT (T : Nat → Prop) (w w' : World) : Prop where
  os : w'.os = w.os
  tape : w'.tape = w.tape
  output : w'.output = w.output
  size : w.heap.size ≤ w'.heap.size
  block : ∀ k, T k → w'.heap[k]? = w.heap[k]?
/-- Blocks that are not of T are as they were; what T has become is of it, or new. -/
structure MovesT (T : Nat → Prop) (w : World) (T' : Nat → Prop) (w' : World) : Prop where
  turn : Turn T w w'
  own : ∀ k, T' k → (T k ∨ w.heap.size ≤ k) ∧ k < w'.heap.size
theorem StaysT.of_turn {p T : Nat → Prop} {w w' : World} (h : Turn p w w') (hT : ∀ k, T k → ¬ p k ∧ k < w.heap.size) : StaysT T w w' := ⟨h.os, h.tape, h.output, h.size, fun k hk => h.block k (hT k hk).2 (hT k hk).1⟩
theorem StaysT.of_below {T : Nat → Prop} {w w' : World} (h : Below w.heap.size w w') (hT : ∀ k, T k → k < w.heap.size) : StaysT T w w' := ⟨h.os, h.tape, h.output, h.size, fun k hk => h.block k (hT k hk)⟩
theorem StaysT.put {T : Nat → Prop} {w : World} {l : Nat} (o : Obj) (hT : ¬ T l) : StaysT T w (w.putObj l o) := ⟨rfl, rfl, rfl, by simp [World.putObj], fun k hk => World.putObj_heap_other (fun e => hT (e ▸ hk))⟩
theorem Turn.put {p : Nat → Prop} {w : World} {l : Nat} (o : Obj) (hp : p l) : Turn p w (w.putObj l o) := ⟨rfl, rfl, rfl, by simp [World.putObj], fun k _ hk => World.putObj_heap_other (fun e => hk (e ▸ hp))⟩
theorem Turn.ofAlloc {p : Nat → Prop} (w : World) (o : Obj) : Turn p w (w.alloc o) := Turn.of_below ((Below.refl _ _).alloc (Nat.le_refl _) _)
theorem MovesT.of_below {T : Nat → Prop} {w w' : World} (h : Below w.heap.size w w') (hT : ∀ k, T k → k < w.heap.size) : MovesT T w T w' := ⟨Turn.of_below h, fun k hk => ⟨.inl hk, Nat.lt_of_lt_of_le (hT k hk) h.size⟩⟩
theorem MovesT.trans {T T1 T2 : Nat → Prop} {w w1 w2 : World} (h : MovesT T w T1 w1) (k : MovesT T1 w1 T2 w2) : MovesT T w T2 w2 :=
  ⟨⟨k.turn.os.trans h.turn.os, k.turn.tape.trans h.turn.tape, k.turn.output.trans h.turn.output, Nat.le_trans h.turn.size k.turn.size, fun i hi hn => (k.turn.block i (Nat.lt_of_lt_of_le hi h.turn.size) (fun e => by rcases (h.own i e).1 with q | q; exact hn q; omega)).trans (h.turn.block i hi hn)⟩,
   fun i hi => ⟨by rcases (k.own i hi).1 with q | q; exact (h.own i q).1; exact .inr (Nat.le_trans h.turn.size q), (k.own i hi).2⟩⟩
/-- What a round's end tells, by the way in which its body is left. -/
def roundOut (R : Option Code → World → Prop) : Exit → Act → World → Prop
  | .normal, _, W => R none W
  | .ret, _, W => R (some .ret) W
  | .exit id, _, W => R (some (.exit id)) W
  | .goto t, _, W => R (some (.goto t)) W
  | _, _, _ => False

/-- AN ITERATOR's CONTRACT: T are the blocks of the loop's own side, Own those of the iterator's, which the rounds leave alone; of what lay there ahead of the call the iterator writes Wr alone. -/
def SeqT {α : Type} (n : Nat) (P : Program) (gf : Nat) (lb : Array Value) (encs : α → Array Value) (Own Wr : Nat → Prop) (Post Postx : List α → World → Prop) (ok : α → Prop) (N : Nat) (w : World) : Prop :=
  ∀ (l : Nat) (T : Nat → Prop) (J Jx : (Nat → Prop) → List α → World → Prop) (W : World),
    Below w.heap.size w W → (∀ k, T k → ¬ Own k ∧ k < W.heap.size) →
    (∀ T s A B, J T s A → StaysT (fun k => T k ∨ (k < W.heap.size ∧ ¬ Wr k)) A B → J T s B) → (∀ T s A B, Jx T s A → StaysT (fun k => T k ∨ (k < W.heap.size ∧ ¬ Wr k)) A B → Jx T s B) →
    (∀ T pre x W1, J T pre W1 → ok x → pre.length < N → (∀ k, T k → k < W1.heap.size) → YieldAt Fence.wide (n - 1) P l (encs x) W1 fun e W' =>
      (e = .returned (.bool true) ∧ ∃ T', J T' (pre ++ [x]) W' ∧ MovesT T W1 T' W') ∨ (e = .returned (.bool false) ∧ ∃ T', Jx T' (pre ++ [x]) W' ∧ MovesT T W1 T' W')) →
    J T [] W →
    CallsIn Fence.wide n P gf (#[.func (.yield l) #[] #[]] ++ lb) W fun e W' => (∃ v, e = .returned v) ∧
      ((∃ xs T', Post xs W' ∧ J T' xs W' ∧ MovesT (fun k => T k ∨ Wr k) W T' W') ∨ (∃ xs T', Postx xs W' ∧ Jx T' xs W' ∧ MovesT (fun k => T k ∨ Wr k) W T' W'))

/-- The loop's side, with its record and its block for deferred calls. -/
def HeldT (l D B0 : Nat) (T0 : Nat → Prop) (rc : Loop) (R : (Nat → Prop) → World → Prop) (Ti : Nat → Prop) (W : World) : Prop :=
  ∃ T, (∀ k, Ti k ↔ (T k ∨ k = l ∨ k = D)) ∧ R T W ∧ (∀ k, T k → T0 k ∨ B0 ≤ k) ∧ W.heap[l]? = some (.loop rc) ∧ W.heap[D]? = some (.deferred (some []))
theorem HeldT.stays {l D B0 : Nat} {T0 Z Z' : Nat → Prop} {rc : Loop} {R : (Nat → Prop) → World → Prop} {Ti : Nat → Prop} {A B : World} (hZ : ∀ k, Z k → Z' k) (hR : ∀ T, R T A → StaysT (fun k => T k ∨ Z k) A B → R T B) (h : HeldT l D B0 T0 rc R Ti A) (hs : StaysT (fun k => Ti k ∨ Z' k) A B) : HeldT l D B0 T0 rc R Ti B := by
  obtain ⟨T, hT, hr, h0, hl, hd⟩ := h
  exact ⟨T, hT, hR T hr ⟨hs.os, hs.tape, hs.output, hs.size, fun k hk => hs.block k (hk.elim (fun q => .inl ((hT k).2 (.inl q))) (fun q => .inr (hZ k q)))⟩, h0, (hs.block l (.inl ((hT l).2 (.inr (.inl rfl))))).trans hl, (hs.block D (.inl ((hT D).2 (.inr (.inr rfl))))).trans hd⟩

theorem wpIn_rangeT {α : Type} {n : Nat} {P : Program} {g : Operand} {ps : Array Tmp} {assign body : Code} {Q : Exit → Act → World → Prop} {a : Act} {w : World}
    (h1 : 1 ≤ n) {gf : Nat} {lb : Array Value} (hg : a.eval g = .func (.func gf) #[] lb) (eg : ∀ args w, (callFunc gf args).run P w = .ok (.enter gf args) w)
    {encs : α → Array Value} {Own Wr : Nat → Prop} {Post Postx : List α → World → Prop} {ok : α → Prop} {N : Nat} (hseq : SeqT (n - 1) P gf lb encs Own Wr Post Postx ok N w) (hps : ∀ x, (encs x).size = ps.size)
    (hPost : ∀ xs A B, Post xs A → StaysT Own A B → Post xs B) (hPostx : ∀ xs A B, Postx xs A → StaysT Own A B → Postx xs B)
    (T0 : Nat → Prop) (hT0 : ∀ k, T0 k → ¬ Own k ∧ k < w.heap.size) (hOwn : ∀ k, Own k → k < w.heap.size)
    (I : (Nat → Prop) → List α → World → Prop) (Ix : Code → (Nat → Prop) → List α → World → Prop) (hI : ∀ T s A B, I T s A → StaysT (fun k => T k ∨ (k < w.heap.size ∧ ¬ Wr k)) A B → I T s B) (hIx : ∀ c T s A B, Ix c T s A → StaysT (fun k => T k ∨ (k < w.heap.size ∧ ¬ Wr k)) A B → Ix c T s B) (h0 : I T0 [] w)
    (hround : ∀ (l : Nat) (r : Loop) (T : Nat → Prop) (pre : List α) (x : α) (W : World), I T pre W → ok x → pre.length < N → (∀ k, T k → k < W.heap.size) → (∀ k, T k → T0 k ∨ w.heap.size + 2 ≤ k) → W.heap[l]? = some (.loop r) →
      assign.wpIn (Fence.wide.inRound l) (n - 1 - 1) P (Exit.then (fun a' W' => Turn T W W' ∧
        body.wpIn (Fence.wide.inRound l) (n - 1 - 1) P (roundOut fun c W3 => ∃ T', (match c with | none => I T' (pre ++ [x]) W3 | some c => Ix c T' (pre ++ [x]) W3) ∧ MovesT T (W'.putObj l (.loop { r with state := .busy })) T' W3) a' (W'.putObj l (.loop { r with state := .busy }))) (fun _ _ _ => False))
        { tmps := (ps.zip (encs x)).foldl (fun t (p, v) => t.setIfInBounds p v) a.tmps, defers := [] } W)
    (hdone : ∀ (D : Nat) (xs : List α) (T : Nat → Prop) (W : World), w.heap.size ≤ D → Post xs W → I T xs W → W.heap[D]? = some (.deferred (some [])) → Turn (fun k => T0 k ∨ Wr k) w W → ¬ T D → Q .normal { a with defers := { target := .collected D, args := #[] } :: a.defers } W)
    (hstop : ∀ (D : Nat) (c : Code) (xs : List α) (T : Nat → Prop) (W : World), w.heap.size ≤ D → Postx xs W → Ix c T xs W → W.heap[D]? = some (.deferred (some [])) → Turn (fun k => T0 k ∨ Wr k) w W → ¬ T D → c.wpIn Fence.wide n P Q { a with defers := { target := .collected D, args := #[] } :: a.defers } W) :
    (Code.rangeFunc g ps assign body).wpIn Fence.wide n P Q a w := by
  refine wpIn_rangeFunc fun fn hfn => ?_
  obtain ⟨rec, hrec⟩ : ∃ rec : LoopState → Option Code → Loop, rec = fun st pe => { state := st, pending := pe, fn, tmps := a.tmps, params := ps, assign, body, defers := w.heap.size } := ⟨_, rfl⟩
  obtain ⟨W1, hW1⟩ : ∃ W1, (w.alloc (.deferred (some []))).alloc (.loop (rec .ready none)) = W1 := ⟨_, rfl⟩
  have hL1 : W1.heap[w.heap.size + 1]? = some (.loop (rec .ready none)) := by
    rw [← hW1]; have := World.alloc_heap_new (w.alloc (.deferred (some []))) (.loop (rec .ready none)); rwa [World.size_alloc] at this
  have hK1 : W1.heap[w.heap.size]? = some (.deferred (some [])) := by
    rw [← hW1]; exact (Below.heap_alloc _ _ _ (by simp)).trans (World.alloc_heap_new w _)
  have hb1 : Below w.heap.size w W1 := by rw [← hW1]; exact ((Below.refl _ w).alloc (Nat.le_refl _) _).alloc (by simp) _
  have hs1 : W1.heap.size = w.heap.size + 2 := by rw [← hW1]; simp
  refine ⟨w.heap.size + 1, [{ target := .collected w.heap.size, args := #[] }], W1, { target := .fn (.func gf) lb, args := #[.func (.yield (w.heap.size + 1)) #[] #[]] }, W1, gf, #[.func (.yield (w.heap.size + 1)) #[] #[]] ++ lb, W1, ?_, ?_, ?_, ?_, fun _ => h1, ?_⟩
  · rw [← hW1, hrec]; exact run_enterLoop_outer _ _ _ _ _
  · simp only [resolve, hg]; simp [go_sem]
  · intro f' _; trivial
  · simp [invoke, go_sem, eg]
  have hnT : ∀ T : Nat → Prop, (∀ k, T k → T0 k ∨ w.heap.size + 2 ≤ k) → ¬ T (w.heap.size + 1) ∧ ¬ T w.heap.size := fun T hT => ⟨fun q => by rcases hT _ q with e | e; have := (hT0 _ e).2; omega; omega, fun q => by rcases hT _ q with e | e; have := (hT0 _ e).2; omega; omega⟩
  refine (hseq (w.heap.size + 1) (fun k => T0 k ∨ k = w.heap.size + 1 ∨ k = w.heap.size)
    (fun Ti pre W => HeldT (w.heap.size + 1) w.heap.size (w.heap.size + 2) T0 (rec .ready none) (fun T W => I T pre W) Ti W)
    (fun Ti pre W => ∃ c, HeldT (w.heap.size + 1) w.heap.size (w.heap.size + 2) T0 (rec .done (some c)) (fun T W => Ix c T pre W) Ti W) W1 hb1
    (fun k hk => ?_) (fun T s A B h hs => h.stays (Z := fun k => k < w.heap.size ∧ ¬ Wr k) (fun k q => ⟨by omega, q.2⟩) (fun T' hr hq => hI _ _ _ _ hr hq) hs) (fun T s A B ⟨c, h⟩ hs => ⟨c, h.stays (Z := fun k => k < w.heap.size ∧ ¬ Wr k) (fun k q => ⟨by omega, q.2⟩) (fun T' hr hq => hIx _ _ _ _ _ hr hq) hs⟩) ?_
    ⟨T0, fun k => Iff.rfl, hI _ _ _ _ h0 (StaysT.of_below hb1 (fun k hk => hk.elim (fun q => (hT0 k q).2) (fun q => q.1))), fun k hk => .inl hk, hL1, hK1⟩).mono ?_
  · rcases hk with hk | rfl | rfl
    · exact ⟨(hT0 k hk).1, by have := (hT0 k hk).2; omega⟩
    · exact ⟨fun q => by have := hOwn _ q; omega, by omega⟩
    · exact ⟨fun q => by have := hOwn _ q; omega, by omega⟩
  · rintro Ti pre x W ⟨T, hT, hi, hgr, hl, hk⟩ hok hlen hTi
    have hlt : w.heap.size + 1 < W.heap.size := (Array.getElem?_eq_some_iff.1 hl).1
    obtain ⟨hn1, hn2⟩ := hnT T hgr
    have hy := run_yield (P := P) (args := encs x) hl (by rw [hrec]; exact hps x)
    rw [hrec] at hy
    refine ⟨fn, _, assign, body, hy, roundIn_of_wpIn hfn (wpIn_mono (hround _ _ T pre x W hi hok hlen (fun k hk' => hTi k ((hT k).2 (.inl hk'))) hgr hl) ?_)⟩
    clear hy
    intro e a' W' he
    cases e with
    | normal =>
      obtain ⟨ht, hbd⟩ := he
      have hl' := (ht.block _ hlt hn1).trans hl
      have hk' := (ht.block _ (by omega) hn2).trans hk
      have hlt' : w.heap.size + 1 < W'.heap.size := (Array.getElem?_eq_some_iff.1 hl').1
      refine ⟨_, run_beginRound hl' (by rw [hrec]), wpIn_mono hbd ?_⟩
      have hl2 : (W'.putObj (w.heap.size + 1) (.loop { rec .ready none with state := .busy })).heap[w.heap.size + 1]? = some (.loop { rec .ready none with state := .busy }) := World.putObj_heap_same hlt'
      have hk2 : (W'.putObj (w.heap.size + 1) (.loop { rec .ready none with state := .busy })).heap[w.heap.size]? = some (.deferred (some [])) := (World.putObj_heap_other (by omega)).trans hk'
      have hz2 : (W'.putObj (w.heap.size + 1) (.loop { rec .ready none with state := .busy })).heap.size = W'.heap.size := by simp [World.putObj]
      have fin : ∀ (jump : Option Code) (T' : Nat → Prop) (W3 : World), MovesT T (W'.putObj (w.heap.size + 1) (.loop { rec .ready none with state := .busy })) T' W3 →
          (Instr.endRound (w.heap.size + 1) jump).run P W3 = .ok (.bool jump.isNone) (W3.putObj (w.heap.size + 1) (.loop (rec (if jump.isNone then .ready else .done) jump))) ∧
          (∀ k, T' k → T0 k ∨ w.heap.size + 2 ≤ k) ∧
          (W3.putObj (w.heap.size + 1) (.loop (rec (if jump.isNone then .ready else .done) jump))).heap[w.heap.size + 1]? = some (.loop (rec (if jump.isNone then .ready else .done) jump)) ∧
          (W3.putObj (w.heap.size + 1) (.loop (rec (if jump.isNone then .ready else .done) jump))).heap[w.heap.size]? = some (.deferred (some [])) ∧
          StaysT (fun k => T' k ∨ (k < w.heap.size ∧ ¬ Wr k)) W3 (W3.putObj (w.heap.size + 1) (.loop (rec (if jump.isNone then .ready else .done) jump))) ∧
          MovesT Ti W (fun k => T' k ∨ k = w.heap.size + 1 ∨ k = w.heap.size) (W3.putObj (w.heap.size + 1) (.loop (rec (if jump.isNone then .ready else .done) jump))) := fun jump T' W3 hm => by
        have hl3 := (hm.turn.block _ (by rw [hz2]; exact hlt') hn1).trans hl2
        have hk3 := (hm.turn.block _ (by rw [hz2]; omega) hn2).trans hk2
        have hlt3 : w.heap.size + 1 < W3.heap.size := (Array.getElem?_eq_some_iff.1 hl3).1
        have hgr' : ∀ k, T' k → T0 k ∨ w.heap.size + 2 ≤ k := fun k hk => by
          rcases (hm.own k hk).1 with q | q
          · exact hgr k q
          · rw [hz2] at q; exact .inr (by omega)
        have := run_endRound (P := P) jump hl3
        rw [hrec] at this ⊢
        refine ⟨this, hgr', World.putObj_heap_same hlt3, (World.putObj_heap_other (by omega)).trans hk3, StaysT.put _ (fun q => q.elim (hnT T' hgr').1 (fun q => by omega)), ?_⟩
        have hTl : Ti (w.heap.size + 1) := (hT _).2 (.inr (.inl rfl))
        have t1 : Turn Ti W W' := ht.mono (fun k _ q => (hT k).2 (.inl q))
        have t2 := Turn.put (p := Ti) (w := W') (.loop { rec .ready none with state := .busy }) hTl
        rw [hrec] at t2
        have t3 := hm.turn.mono (q := Ti) (fun k _ q => (hT k).2 (.inl q))
        rw [hrec] at t3
        refine ⟨((t1.trans t2).trans t3).trans (Turn.put _ hTl), fun k hk => ?_⟩
        have hz : (W3.putObj (w.heap.size + 1) (.loop { state := if jump.isNone then .ready else .done, pending := jump, fn, tmps := a.tmps, params := ps, assign, body, defers := w.heap.size })).heap.size = W3.heap.size := by simp [World.putObj]
        rw [hz]
        rcases hk with hk | rfl | rfl
        · obtain ⟨q, q2⟩ := hm.own k hk
          refine ⟨?_, q2⟩
          rcases q with q | q
          · exact .inl ((hT k).2 (.inl q))
          · rw [hz2] at q; exact .inr (Nat.le_trans ht.size q)
        · exact ⟨.inl hTl, hlt3⟩
        · exact ⟨.inl ((hT _).2 (.inr (.inr rfl))), by omega⟩
      rintro e a3 W3 hp
      cases e with
      | normal =>
        obtain ⟨T', hi3, hm⟩ := hp
        obtain ⟨hr, hg', hl4, hk4, hst, hmv⟩ := fin none T' W3 hm
        exact ⟨_, _, hr, .inl ⟨rfl, _, ⟨T', fun k => Iff.rfl, hI _ _ _ _ hi3 hst, hg', hl4, hk4⟩, hmv⟩⟩
      | ret =>
        obtain ⟨T', hi3, hm⟩ := hp
        obtain ⟨hr, hg', hl4, hk4, hst, hmv⟩ := fin (some .ret) T' W3 hm
        exact ⟨_, _, hr, .inr ⟨rfl, _, ⟨.ret, T', fun k => Iff.rfl, hIx _ _ _ _ _ hi3 hst, hg', hl4, hk4⟩, hmv⟩⟩
      | exit id =>
        obtain ⟨T', hi3, hm⟩ := hp
        obtain ⟨hr, hg', hl4, hk4, hst, hmv⟩ := fin (some (.exit id)) T' W3 hm
        exact ⟨_, _, hr, .inr ⟨rfl, _, ⟨.exit id, T', fun k => Iff.rfl, hIx _ _ _ _ _ hi3 hst, hg', hl4, hk4⟩, hmv⟩⟩
      | goto t =>
        obtain ⟨T', hi3, hm⟩ := hp
        obtain ⟨hr, hg', hl4, hk4, hst, hmv⟩ := fin (some (.goto t)) T' W3 hm
        exact ⟨_, _, hr, .inr ⟨rfl, _, ⟨.goto t, T', fun k => Iff.rfl, hIx _ _ _ _ _ hi3 hst, hg', hl4, hk4⟩, hmv⟩⟩
      | panic ch => exact hp.elim
      | outgrown => exact hp.elim
    | ret => exact he.elim
    | exit id => exact he.elim
    | goto t => exact he.elim
    | panic ch => exact he.elim
    | outgrown => exact he.elim
  · have hend : ∀ (T : Nat → Prop) (W2 : World) (o : Obj), MovesT (fun k => (T0 k ∨ k = w.heap.size + 1 ∨ k = w.heap.size) ∨ Wr k) W1 T W2 → Turn (fun k => T0 k ∨ Wr k) w (W2.putObj (w.heap.size + 1) o) := fun T W2 o hm => by
      have t := hm.turn.trans (Turn.put (p := fun k => (T0 k ∨ k = w.heap.size + 1 ∨ k = w.heap.size) ∨ Wr k) o (.inl (.inr (.inl rfl))))
      refine ⟨t.os.trans hb1.os, t.tape.trans hb1.tape, t.output.trans hb1.output, Nat.le_trans hb1.size t.size, fun k hk hn => (t.block k (by omega) (fun q => ?_)).trans (hb1.block k hk)⟩
      rcases q with (q | q | q) | q
      · exact hn (.inl q)
      · omega
      · omega
      · exact hn (.inr q)
    have hOl : ¬ Own (w.heap.size + 1) := fun q => by have := hOwn _ q; omega
    rintro e W2 ⟨⟨v, rfl⟩, (⟨xs, T', hP, ⟨T, hT, hi, hgr, hl, hk⟩, hm⟩ | ⟨xs, T', hP, ⟨c, T, hT, hi, hgr, hl, hk⟩, hm⟩)⟩
    · exact ⟨none, _, by have := run_endLoop (P := P) hl (by rw [hrec]; simp); rw [hrec] at this; exact this, hdone _ xs T _ (Nat.le_refl _) (hPost _ _ _ hP (StaysT.put _ hOl)) (hI _ _ _ _ hi (StaysT.put _ (fun q => q.elim (hnT T hgr).1 (fun q => by omega)))) ((World.putObj_heap_other (by omega)).trans hk) (hend _ _ _ hm) (hnT T hgr).2⟩
    · exact ⟨some c, _, by have := run_endLoop (P := P) hl (by rw [hrec]; simp); rw [hrec] at this; exact this, hstop _ c xs T _ (Nat.le_refl _) (hPostx _ _ _ hP (StaysT.put _ hOl)) (hIx _ _ _ _ _ hi (StaysT.put _ (fun q => q.elim (hnT T hgr).1 (fun q => by omega)))) ((World.putObj_heap_other (by omega)).trans hk) (hend _ _ _ hm) (hnT T hgr).2⟩
end Go.Proofs.Ytgmbmdmbnpkbbaa

namespace Go.Proofs.Ytgmbmdmbnpkbbaa
open Go Go.RowKit

section
variable {P : Program} {ops : Array Oper} {Q : Exit → Act → World → Prop} {md : Region.Mode} {S : World → Prop} {n : Nat}

theorem wpOpIn_yieldsIf {i : Nat} {o : Oper} {v : Value} {a : Act} (hi : ops[i]? = some o) (hy : YieldsIf P ops S o v a)
    {K : Act → World → Prop} {w : World} (hS : S w) (h : K (a.put o.dst v) w) : wpOpIn Fence.wide n P ops Q i K a w := by
  unfold Go.wpOpIn
  simp only [hi]
  rcases hy with ⟨hw, hv⟩ | ⟨hw, rfl⟩
  · simp only [hw, if_true, Oper.wpIn, show Fence.wide.round = none from rfl, Oper.semAt_none, hv w hS, Oper.uponIn]; exact ⟨fun _ _ => trivial, h⟩
  · simp only [hw, Bool.false_eq_true, if_false]; exact ⟨fun _ _ => trivial, h⟩
theorem wpOpIn_putIf {j : Nat} {oi oj : Oper} {v : Value} (hj : ops[j]? = some oj) (hap : oi.apart ops oj = true)
    (hsi : ∀ cs b, oi.op ≠ .select cs b) (hsj : ∀ cs b, oj.op ≠ .select cs b)
    (hQ : ∀ c a w, Q (.panic c) (a.put oi.dst v) w → Q (.panic c) a w) {K : Act → World → Prop} {a : Act} {w : World}
    (hy : YieldsIf P ops S oi v a) (h : wpOpIn Fence.wide n P ops Q j K (a.put oi.dst v) w) :
    wpOpIn Fence.wide n P ops Q j (fun a' w' => YieldsIf P ops S oi v a' ∧ K (a'.put oi.dst v) w') a w := by
  obtain ⟨h1, h2, h3⟩ := Oper.apart_spec hap
  have keep : ∀ (a : Act), YieldsIf P ops S oi v a → ∀ u, YieldsIf P ops S oi v (a.put oj.dst u) := fun a hy u =>
    hy.of_same (execOp_put oi hsi a oj.dst u h3) (wanted_put oi a oj.dst u h3)
  have keepD : ∀ d, YieldsIf P ops S oi v { a with defers := d :: a.defers } := fun d => hy.of_same rfl rfl
  have hro : Fence.wide.round = none := rfl
  unfold wpOpIn at *
  simp only [hj] at *
  rw [wanted_put oj a oi.dst v h1] at h
  split
  · rename_i hw
    simp only [hw, if_true] at h
    unfold Oper.wpIn at *
    refine ⟨fun _ _ => trivial, ?_⟩
    have h := h.2
    rw [hro, Oper.semAt_none, execOp_put oj hsj a oi.dst v h1] at h
    rw [hro, Oper.semAt_none]
    generalize (execOp a.eval oj).run P w = r at *
    cases r with
    | ok x w' =>
      cases x <;> simp only [Oper.uponIn] at h ⊢
      case value u => exact ⟨keep a hy u, by rw [← Act.put_comm a v u h2]; exact h⟩
      case skip => exact ⟨keep a hy _, by rw [← Act.put_comm a v undef h2]; exact h⟩
      case defer d =>
        refine ⟨keep _ (keepD d) _, ?_⟩
        rw [← Act.put_comm _ v undef h2, ← Act.put_defers]
        exact h
      case enter f args =>
        refine ⟨h.1, CallsIn.mono h.2 fun e w'' he => ?_⟩
        cases e with
        | returned u => exact ⟨keep a hy u, by rw [← Act.put_comm a v u h2]; exact he⟩
        | panicked c => exact hQ _ _ _ he
        | outgrown => exact he
      case row row args => exact ⟨h.1, RowsIn.mono h.2 fun u w'' he => ⟨keep a hy u, by rw [← Act.put_comm a v u h2]; exact he⟩⟩
      case round l f tmps assign body =>
        refine ⟨h.1, RoundIn.mono h.2 fun e w'' he => ?_⟩
        cases e with
        | returned u => exact ⟨keep a hy u, by rw [← Act.put_comm a v u h2]; exact he⟩
        | panicked c => exact hQ _ _ _ he
        | outgrown => exact he
    | halt x w' =>
      cases x <;> simp only [Oper.uponIn] at h ⊢
      case panic u => exact hQ _ _ _ h
  · rename_i hw
    simp only [hw] at h
    exact ⟨fun _ _ => trivial, keep a hy _, by rw [← Act.put_comm a v undef h2]; exact h.2⟩

def wpAnyI (P : Program) (n : Nat) (md : Region.Mode) (ops : Array Oper) (Q : Exit → Act → World → Prop) (S : World → Prop) : Nat → Array Bool → Act → World → Prop
  | 0, listed, a, w => Region.ready md ops listed = [] ∧ Q .normal a w
  | fuel + 1, listed, a, w =>
    (Region.ready md ops listed = [] → Q .normal a w) ∧
    ∀ i ∈ Region.ready md ops listed, wpOpIn Fence.wide n P ops Q i (fun a' w' => S w' ∧ wpAnyI P n md ops Q S fuel (listed.setIfInBounds i true) a' w') a w
theorem wpAnyIn_of_gateI : ∀ (fuel : Nat) (listed : Array Bool) (a : Act) (w : World), wpAnyI P n md ops Q S fuel listed a w → wpAnyIn Fence.wide n P md ops Q fuel listed a w
  | 0, _, _, _, h => h
  | fuel + 1, _, _, _, h => ⟨h.1, fun i hi => wpOpIn_mono (fun a' w' h' => wpAnyIn_of_gateI fuel _ a' w' h'.2) (h.2 i hi)⟩
theorem wpAnyI_first {i : Nat} {oi : Oper} {v : Value} (hi : ops[i]? = some oi) (hsel : ∀ (j : Nat) (o : Oper) cs b, ops[j]? = some o → o.op ≠ .select cs b)
    (hQ : ∀ c a w, Q (.panic c) (a.put oi.dst v) w → Q (.panic c) a w) :
    ∀ (fuel : Nat) (listed : Array Bool) (a : Act) (w : World),
      (∀ j oj, ops[j]? = some oj → j ≠ i → listed.getD j true = false → (∀ e ∈ oj.after, Region.binds md e = true → e.on ≠ i) → oi.apart ops oj = true) →
      i ∈ Region.ready md ops listed → YieldsIf P ops S oi v a → S w →
      wpAnyI P n md ops Q S fuel (listed.setIfInBounds i true) (a.put oi.dst v) w → wpAnyI P n md ops Q S (fuel + 1) listed a w := by
  intro fuel
  induction fuel with
  | zero =>
    intro listed a w _ hr hy hS H
    refine ⟨fun h => (by rw [h] at hr; cases hr), fun j hj => ?_⟩
    by_cases hji : j = i
    · subst hji; exact wpOpIn_yieldsIf hi hy hS ⟨hS, H⟩
    · have := ready_mono hj hji
      rw [H.1] at this
      cases this
  | succ fuel ih =>
    intro listed a w hfree hr hy hS H
    refine ⟨fun h => (by rw [h] at hr; cases hr), fun j hj => ?_⟩
    by_cases hji : j = i
    · subst hji; exact wpOpIn_yieldsIf hi hy hS ⟨hS, H⟩
    · have h1 := H.2 j (ready_mono hj hji)
      obtain ⟨hjun, oj, hoj, hall⟩ := mem_ready.1 hj
      have hnot : ∀ e ∈ oj.after, Region.binds md e = true → e.on ≠ i := fun e he hb heq => by
        have h1 := hall e he hb
        have h0 := (mem_ready.1 hr).1
        rw [heq] at h1
        rcases Nat.lt_or_ge i listed.size with h' | h'
        · simp [h'] at h0 h1; rw [h0] at h1; cases h1
        · simp [Array.getElem?_eq_none h'] at h1
      have h2 := wpOpIn_putIf hoj (hfree j oj hoj hji hjun hnot) (fun cs b => hsel i oi cs b hi) (fun cs b => hsel j oj cs b hoj) hQ hy h1
      have hfree' : ∀ k ok, ops[k]? = some ok → k ≠ i → (listed.setIfInBounds j true).getD k true = false →
          (∀ e ∈ ok.after, Region.binds md e = true → e.on ≠ i) → oi.apart ops ok = true := fun k ok hk hki hun hno => by
        refine hfree k ok hk hki ?_ hno
        by_cases hjk : j = k
        · subst hjk; exact hjun
        · rw [getD_set_ne true hjk] at hun; exact hun
      refine wpOpIn_mono (fun a' w' h3 => ?_) h2
      refine ⟨h3.2.1, ih (listed.setIfInBounds j true) a' w' hfree' (ready_mono hr (Ne.symm hji)) h3.1 h3.2.1 ?_⟩
      rw [Array.setIfInBounds_comm _ _ hji]
      exact h3.2.2
/-- Take first what yields in every world that meets S. -/
theorem wpAnyI_read {i : Nat} {oi : Oper} {v : Value} {fuel : Nat} {listed : Array Bool} {a : Act} {w : World} (hi : ops[i]? = some oi)
    (hs : Region.noSelect ops = true) (hf : Region.free md ops listed i = true) (hr : (Region.ready md ops listed).contains i = true)
    (hQ : ∀ c a w, Q (.panic c) (a.put oi.dst v) w → Q (.panic c) a w) (hS : S w) (hw : Region.wanted oi (yielded ops a.tmps) = true)
    (hy : ∀ w, S w → (execOp a.eval oi).run P w = .ok (.value v) w)
    (h : wpAnyI P n md ops Q S fuel (listed.setIfInBounds i true) (a.put oi.dst v) w) : wpAnyI P n md ops Q S (fuel + 1) listed a w :=
  wpAnyI_first hi (Region.noSelect_spec hs) hQ fuel listed a w (Region.free_spec hi hf) (by simpa using hr) (.inl ⟨hw, hy⟩) hS h
theorem wpAnyI_load {i : Nat} {dst : Option Tmp} {ty : TypeId} {x : Operand} {b o : Nat} {cs : List Value} {d : TypeDesc} {fuel : Nat} {listed : Array Bool} {a : Act} {w : World}
    (hop : (ops[i]?).map (fun o => (o.dst, o.op)) = some (dst, .load ty x)) (hw : (ops[i]?).map (fun o => Region.wanted o (yielded ops a.tmps)) = some true)
    (hs : Region.noSelect ops = true) (hf : Region.free md ops listed i = true) (hr : (Region.ready md ops listed).contains i = true)
    (hQ : ∀ c a w, Q (.panic c) (a.put dst (.agg cs.toArray)) w → Q (.panic c) a w) (hS : S w)
    (hx : a.eval x = .pointer (some ⟨b, o, none⟩)) (hc : ∀ w, S w → w.rangeAt b o cs) (hu : P.underlying ty = some d) (hd : d.isRow = true) (hi : (P.info? ty).map (·.size) = some cs.length)
    (h : wpAnyI P n md ops Q S fuel (listed.setIfInBounds i true) (a.put dst (.agg cs.toArray)) w) : wpAnyI P n md ops Q S (fuel + 1) listed a w := by
  cases ho : ops[i]? with
  | none => rw [ho] at hop; cases hop
  | some oi =>
    rw [ho] at hop hw
    simp only [Option.map_some, Option.some.injEq, Prod.mk.injEq] at hop hw
    obtain ⟨rfl, hop⟩ := hop
    exact wpAnyI_first ho (Region.noSelect_spec hs) hQ fuel listed a w (Region.free_spec ho hf) (by simpa using hr) (yieldsIf_load_mid hw ty x hop b o hx cs d hc hu hd hi) hS h
theorem wpAnyI_one {i : Nat} {o : Oper} {fuel : Nat} {listed : Array Bool} {a : Act} {w : World} (hi : ops[i]? = some o) (hr : Region.ready md ops listed = [i]) (hw : Region.wanted o (yielded ops a.tmps) = true)
    (h : ∀ K' : Act → World → Prop, Shut (∀ a w, S w → wpAnyI P n md ops Q S fuel (listed.setIfInBounds i true) a w → K' a w) → Oper.wpIn Fence.wide n P o a w K' Q) : wpAnyI P n md ops Q S (fuel + 1) listed a w :=
  ⟨fun h0 => (by rw [hr] at h0; cases h0), fun j hj => by
    rw [hr] at hj
    obtain rfl : j = i := by simpa using hj
    refine wpOpIn_step hi (fun K' hK => ?_)
    rw [if_pos hw]
    exact h K' (fun a w h1 h2 => hK a w ⟨h1, h2⟩)⟩
theorem wpAnyI_done {listed : Array Bool} {a : Act} {w : World} (hr : Region.ready md ops listed = []) (h : Q .normal a w) :
    ∀ fuel, wpAnyI P n md ops Q S fuel listed a w
  | 0 => ⟨hr, h⟩
  | _ + 1 => ⟨fun _ => h, by rw [hr]; simp⟩
theorem wpIn_region_gateI {id : Nat} {a : Act} {w : World} (S : World → Prop) (hm : P.follows .mixedOrders = true)
    (h : wpAnyI P n .any ops Q S ops.size (Array.replicate ops.size false) a w.drew) : (Code.region id ops true).wpIn Fence.wide n P Q a w :=
  wpIn_region_any hm (wpAnyIn_of_gateI _ _ _ _ h)
theorem exec_yield {o : Oper} {ρ : Operand → Value} {w : World} (f x : Operand) (ts : Array TypeId) (ho : o.op = .call { callee := .value f, args := #[x], argTypes := ts }) {l : Nat} (hf : ρ f = .func (.yield l) #[] #[]) {v : Value} (hx : ρ x = v) {fn tmps assign body}
    (hy : (Instr.yield l #[v]).run P w = .ok (.round l fn tmps assign body) w) : (execOp ρ o).run P w = .ok (.round l fn tmps assign body) w := by
  simp [execOp, ho, resolve, hf, hx, invoke, go_sem, hy]
/-- A walk that stops ahead of a region. -/
structure HoldAt (p : Prop) : Prop where
  out : p
theorem wpIn_halt {F : Fence} {id : Nat} {d : Bool} {a : Act} {w : World} (h : HoldAt ((Code.region id ops d).wpIn F n P Q a w)) : (Code.region id ops d).wpIn F n P Q a w := h.out
/-- 'yield(x)'. -/
theorem wpI_yield {o : Oper} {a : Act} {w : World} {K : Act → World → Prop} (f x : Operand) (ts : Array TypeId) (ho : o.op = .call { callee := .value f, args := #[x], argTypes := ts }) {l : Nat} (hf : a.eval f = .func (.yield l) #[] #[]) {v : Value} (hx : a.eval x = v) {R : Ending → World → Prop}
    (hY : YieldAt Fence.wide (n - 1) P l #[v] w R) (h : ∀ e w', R e w' → ∃ u, e = .returned u ∧ K (a.put o.dst u) w') : o.wpIn Fence.wide n P a w K Q := by
  obtain ⟨fn, tmps, assign, body, hy, hR⟩ := hY
  unfold Oper.wpIn
  refine ⟨fun _ _ => trivial, ?_⟩
  rw [show Fence.wide.round = none from rfl, Oper.semAt_none]
  rw [exec_yield f x ts ho hf hx hy]
  simp only [Oper.uponIn]
  refine ⟨(fun h => by cases h), hR.mono fun e w' he => ?_⟩
  obtain ⟨u, rfl, hk⟩ := h e w' he
  exact hk
/-- What is no round goes as everywhere. -/
theorem wpI_op {o : Oper} {a : Act} {w : World} {K : Act → World → Prop} (h : o.wp P a w K Q) : o.wpIn Fence.wide n P a w K Q := by
  refine ⟨fun _ _ => trivial, ?_⟩
  rw [show Fence.wide.round = none from rfl, Oper.semAt_none]
  unfold Oper.wp at h
  generalize (execOp a.eval o).run P w = r at h
  cases r with
  | ok x w' =>
    cases x with
    | value v => exact h
    | skip => exact h
    | defer d => exact h
    | enter f args => exact ⟨(fun h => by cases h), callsIn_wide.2 h⟩
    | row r args => exact ⟨(fun h => by cases h), fun c cs _ => let ⟨v, w', r, s⟩ := h c cs; ⟨v, w', r, stepsIn_wide.2 s⟩⟩
    | round l f t c d => exact h.elim
    | _ => exact h
  | halt x w' => cases x <;> exact h
theorem wpR_op' {l : Nat} {o : Oper} {a : Act} {w : World} {K : Act → World → Prop} (hd : ∀ c, o.op ≠ .defer c) (h : o.wp P a w K Q) : o.wpIn (Fence.wide.inRound l) n P a w K Q := by
  refine ⟨fun _ _ => trivial, ?_⟩
  rw [show (Fence.wide.inRound l).round = some l from rfl, Oper.semAt_some l _ _ hd]
  unfold Oper.wp at h
  generalize (execOp a.eval o).run P w = r at h
  cases r with
  | ok x w' =>
    cases x with
    | value v => exact h
    | skip => exact h
    | defer d => exact h
    | enter f args => exact ⟨(fun h => by cases h), CallsIn.inRound l (callsIn_wide.2 h)⟩
    | row r args => exact ⟨(fun h => by cases h), fun c cs _ => let ⟨v, w', r, s⟩ := h c cs; ⟨v, w', r, stepsIn_wide.2 s⟩⟩
    | round l f t c d => exact h.elim
    | _ => exact h
  | halt x w' => cases x <;> exact h
/-- A list of operations, in order, within a round: as everywhere. -/
theorem wpR_list {l : Nat} (hL : ¬ LetsOut Q) : ∀ (rest : List Oper) (a : Act) (w : World), (∀ o ∈ rest, ∀ c, o.op ≠ .defer c) → wpList P ops Q rest a w → wpListIn (Fence.wide.inRound l) n P ops Q rest a w
  | [], _, _, _, h => h
  | o :: rest, a, w, hd, h => by
    unfold wpList at h
    unfold wpListIn
    by_cases hw : Region.wanted o (yielded ops a.tmps) = true
    · rw [if_pos hw] at h ⊢
      rcases h with h | h
      · exact Oper.wpIn_mono (fun a w h => wpR_list hL rest a w (fun o ho => hd o (List.mem_cons_of_mem _ ho)) h) (wpR_op' (hd o List.mem_cons_self) h)
      · exact absurd h.2 hL
    · rw [if_neg hw] at h ⊢
      exact ⟨fun _ _ => trivial, wpR_list hL rest _ w (fun o ho => hd o (List.mem_cons_of_mem _ ho)) h⟩
theorem wpR_anyI {l : Nat} (hL : ¬ LetsOut Q) (hd : ∀ (j : Nat) (o : Oper), ops[j]? = some o → ∀ c, o.op ≠ .defer c) : ∀ (fuel : Nat) (listed : Array Bool) (a : Act) (w : World), wpAny P md ops Q fuel listed a w → wpAnyIn (Fence.wide.inRound l) n P md ops Q fuel listed a w
  | 0, _, _, _, h => h
  | fuel + 1, listed, a, w, h => ⟨h.1, fun i hi => by
    have h1 := h.2 i hi
    unfold wpOp at h1
    unfold wpOpIn
    cases ho : ops[i]? with
    | none =>
      simp only [ho] at h1
      exact wpR_anyI hL hd fuel _ a w h1
    | some o =>
      simp only [ho] at h1
      simp only
      by_cases hw : Region.wanted o (yielded ops a.tmps) = true
      · rw [if_pos hw] at h1 ⊢
        rcases h1 with h1 | h1
        · exact Oper.wpIn_mono (fun a w h => wpR_anyI hL hd fuel _ a w h) (wpR_op' (hd i o ho) h1)
        · exact absurd h1.2 hL
      · rw [if_neg hw] at h1 ⊢
        exact ⟨fun _ _ => trivial, wpR_anyI hL hd fuel _ _ w h1⟩⟩
theorem noDefer_ofI (h : (ops.all fun o => match o.op with | .defer _ => false | _ => true) = true) : ∀ (j : Nat) (o : Oper), ops[j]? = some o → ∀ c, o.op ≠ .defer c := fun j o ho c e => by
  have hm : o ∈ ops := Array.mem_of_getElem? ho
  have := (Array.all_eq_true_iff_forall_mem.1 h) o hm
  rw [e] at this
  cases this
/-- A region that draws its order, within a round; T is held all along. -/
theorem wpR_gateT {id l : Nat} {a : Act} {w : World} (T S : World → Prop) (D : Nat) (hm : P.follows .mixedOrders = true) (hL : ¬ LetsOut Q) (hd : (ops.all fun o => match o.op with | .defer _ => false | _ => true) = true)
    (h : wpAnyT P .any ops Q T S D ops.size (Array.replicate ops.size false) a w.drew) : (Code.region id ops true).wpIn (Fence.wide.inRound l) n P Q a w :=
  wpIn_region_any hm (wpR_anyI hL (noDefer_ofI hd) _ _ _ _ (wpAny_of_gateT _ _ _ _ h))
end
end Go.Proofs.Ytgmbmdmbnpkbbaa

namespace Go.Proofs.Ytgmbmdmbnpkbbaa
open Go.RowKit Go.Shelf
attribute [local go_sem] Oper.semAt_some
set_option maxRecDepth 20000
set_option linter.unusedSimpArgs false
theorem wpR_region {P : Program} {Q : Exit → Act → World → Prop} {n l id : Nat} {lst : List Oper} {a : Act} {w : World} (hL : ¬ LetsOut Q) (hd : (lst.all fun o => match o.op with | .defer _ => false | _ => true) = true) (h : wpList P lst.toArray Q lst a w) : (Code.region id lst.toArray false).wpIn (Fence.wide.inRound l) n P Q a w :=
  wpIn_region_lit (wpR_list hL _ _ _ (fun o ho c e => by have := (List.all_eq_true.1 hd) o ho; rw [e] at this; cases this) h)
theorem SeqT.later {α : Type} {n : Nat} {P : Program} {gf : Nat} {lb : Array Value} {encs : α → Array Value} {Own Wr : Nat → Prop} {Post Postx : List α → World → Prop} {ok : α → Prop} {N : Nat} {w w' : World} (h : SeqT n P gf lb encs Own Wr Post Postx ok N w) (hb : Below w.heap.size w w') : SeqT n P gf lb encs Own Wr Post Postx ok N w' :=
  fun l T J Jx W hW => h l T J Jx W (hb.trans (hW.mono hb.size))
theorem notOut_then {K : Act → World → Prop} {Q : Exit → Act → World → Prop} (h : ¬ LetsOut Q) : ¬ LetsOut (Exit.then K Q) := fun ⟨a, w, q⟩ => h ⟨a, w, q⟩
theorem notOut_false : ¬ LetsOut (fun _ _ _ => False) := fun ⟨_, _, q⟩ => q
theorem notOut_round (R : Option Code → World → Prop) : ¬ LetsOut (roundOut R) := fun ⟨_, _, q⟩ => q
end Go.Proofs.Ytgmbmdmbnpkbbaa

namespace Go.Proofs.Ytgmbmdmbnpkbbaa
open Go.RowKit Go.Shelf
attribute [local go_sem] Oper.semAt_some
set_option maxRecDepth 20000
set_option linter.unusedSimpArgs false
theorem ranges_congr {H : Type} {P : Program} {k : TypeId} {R : Value → Option (DataW H × List MemPlace)} {w w' : World} {b r n : Nat} {D : DataW H} {left : Lit → Bool} {cnt : Nat}
    (h : w.ranges P k R b r n D left cnt) (hb' : w'.heap[b]? = w.heap[b]?) (hr' : w'.heap[r]? = w.heap[r]?) : w'.ranges P k R b r n D left cnt := by
  obtain ⟨es, clock, since, seen, c0, hb, F, hs, hD, hr, rest⟩ := h
  exact ⟨es, clock, since, seen, c0, hb'.trans hb, F, hs, hD, hr'.trans hr, rest⟩
/-- As MovesT, where the blocks from W's end to m are the iterator's own. -/
structure MovesA (T : Nat → Prop) (w : World) (m : Nat) (T' : Nat → Prop) (w' : World) : Prop where
  turn : Turn T w w'
  own : ∀ k, T' k → (T k ∨ m ≤ k) ∧ k < w'.heap.size
/-- The dots ps have come; those that are left are to come. -/
structure CollD (L : List Ev) (left : Lit → Bool) (ps : List (Int × Int)) : Prop where
  nodup : ps.Nodup
  iff : ∀ a s, okD a s → ((a, s) ∈ ps ↔ ((lookE L (a, s)).isSome = true ∧ left (dotLit a s) = false))
  ok : ∀ d ∈ ps, okD d.1 d.2
theorem dotLit_same {a s a' s' : Int} (h : okD a s) (h' : okD a' s') : (dotLit a s).sameKey (dotLit a' s') = true ↔ (a, s) = (a', s') := by
  constructor
  · intro q
    have e : dotLit a s = dotLit a' s' := by
      unfold dotLit at q ⊢
      simpa [Lit.sameKey] using q
    obtain ⟨rfl, rfl⟩ := dotLit_inj h h' e
    rfl
  · intro q
    injection q with q1 q2
    subst q1 q2
    unfold dotLit
    simp [Lit.sameKey]
theorem CollD.step {L : List Ev} {left : Lit → Bool} {ps : List (Int × Int)} (h : CollD L left ps) {a s : Int} (ho : okD a s) (hl : left (dotLit a s) = true) (hs : (lookE L (a, s)).isSome = true) : CollD L (fun z => left z && !z.sameKey (dotLit a s)) (ps ++ [(a, s)]) := by
  refine ⟨?_, fun a' s' ho' => ?_, fun d hd => ?_⟩
  · refine List.nodup_append.2 ⟨h.nodup, by simp, fun x hx y hy e => ?_⟩
    rw [List.mem_singleton.1 hy] at e
    rw [e] at hx
    have := ((h.iff a s ho).1 hx).2
    rw [hl] at this; cases this
  · have hk := dotLit_same ho' ho
    rw [List.mem_append, List.mem_singleton, h.iff a' s' ho']
    by_cases q : (a', s') = (a, s)
    · injection q with q1 q2
      subst q1 q2
      have e : (dotLit a' s').sameKey (dotLit a' s') = true := hk.2 rfl
      simp [hs, e]
    · have e : (dotLit a' s').sameKey (dotLit a s) = false := by
        cases e : (dotLit a' s').sameKey (dotLit a s) with
        | false => rfl
        | true => exact absurd (hk.1 e) q
      simp only [e, Bool.not_false, Bool.and_true]
      constructor
      · rintro (r | r)
        · exact r
        · exact absurd r q
      · exact .inl
  · rcases List.mem_append.1 hd with q | q
    · exact h.ok d q
    · rw [List.mem_singleton.1 q]; exact ho
theorem nodup_dots {L : List Ev} (hs : sortedE L) : (L.map Ev.dot).Nodup := by
  unfold List.Nodup
  rw [List.pairwise_map]
  exact hs.imp fun h => ltD_ne h
theorem CollD.perm {L : List Ev} {left : Lit → Bool} {ps : List (Int × Int)} (h : CollD L left ps) (hs : sortedE L) (hok : ∀ e ∈ L, e.Ok) (hl : ∀ k, left k = false) : ps.Perm (L.map Ev.dot) := by
  refine (List.perm_ext_iff_of_nodup h.nodup (nodup_dots hs)).2 fun d => ?_
  constructor
  · intro hd
    have := ((h.iff d.1 d.2 (h.ok d hd)).1 hd).1
    obtain ⟨e, he⟩ := Option.isSome_iff_exists.1 this
    obtain ⟨h1, h2⟩ := lookE_mem he
    exact List.mem_map.2 ⟨e, h1, h2⟩
  · intro hd
    obtain ⟨e, he, rfl⟩ := List.mem_map.1 hd
    exact (h.iff e.da e.ds (hok e he).dot).2 ⟨by rw [show (e.da, e.ds) = e.dot from rfl, lookE_some hs he]; rfl, hl _⟩
end Go.Proofs.Ytgmbmdmbnpkbbaa
