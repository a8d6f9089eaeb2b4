/- A range over a function whose loop variable is laid into a block of its own in each round; no round leaves early. -/
import Derived.RangeFuncFrom
import Derived.RangeFuncCalls
import Derived.RangeFuncLeaves
import Derived.Test.YtgeiiadlchimhaaDoorPg
namespace Go.Proofs.YtgeiiadlchimhaaDoor
open Go Go.RowKit

theorem wpIn_rangeFresh {α : Type} {n : Nat} {P : Program} {g : Operand} {ps : Array Tmp} {assign body : Code} {Q : Exit → Act → World → Prop} {a : Act} {w : World}
    (h1 : 1 ≤ n) {gf : Nat} {lb : Array Value} (hg : a.eval g = .func (.func gf) #[] lb) (eg : ∀ args w, (callFunc gf args).run P w = .ok (.enter gf args) w)
    {encs : α → Array Value} {Kp : World → World → Prop} {S Sp : List α → Prop} {N : Nat} (hseq : SeqStopsK Fence.wide (n - 1) P gf lb encs Kp S Sp N w) (hps : ∀ x, (encs x).size = ps.size)
    (I : List α → World → Prop) (hI : OwnFrom w.heap.size I) (h0 : I [] w)
    (hround : ∀ (l : Nat) (r : Loop) (pre : List α) (x : α) (W : World), w.heap.size ≤ l → I pre W → pre.length < N → W.heap[l]? = some (.loop r) →
      assign.wpIn (Fence.wide.inRound l) (n - 1 - 1) P (Exit.then (fun a' W' => KeepsOthers W W' ∧
        body.wpIn (Fence.wide.inRound l) (n - 1 - 1) P (fun e _ W3 => e = .normal ∧ KeepsOthers (W'.putObj l (.loop { r with state := .busy })) W3 ∧ (∀ o, Kp W (W3.putObj l o)) ∧ I (pre ++ [x]) W3) a' (W'.putObj l (.loop { r with state := .busy }))) (fun _ _ _ => False))
        { tmps := (ps.zip (encs x)).foldl (fun t (p, v) => t.setIfInBounds p v) a.tmps, defers := [] } W)
    (hdone : ∀ (D : Nat) (xs : List α) (W : World), w.heap.size ≤ D → S xs → I xs W → W.heap[D]? = some (.deferred (some [])) → Q .normal { a with defers := { target := .collected D, args := #[] } :: a.defers } W) :
    (Code.rangeFunc g ps assign body).wpIn Fence.wide n P Q a w := by
  refine wpIn_rangeFunc fun fn hfn => ?_
  -- the record of the loop, as it lies between two rounds
  let rdy : Loop := { state := .ready, pending := none, fn, tmps := a.tmps, params := ps, assign, body, defers := w.heap.size }
  have hA : ((w.alloc (.deferred (some []))).alloc (.loop rdy)).heap[w.heap.size + 1]? = some (.loop rdy) := by
    have := World.alloc_heap_new (w.alloc (.deferred (some []))) (.loop rdy)
    rwa [World.size_alloc] at this
  have hB : ((w.alloc (.deferred (some []))).alloc (.loop rdy)).heap[w.heap.size]? = some (.deferred (some [])) := (Below.heap_alloc _ _ _ (by simp)).trans (World.alloc_heap_new w _)
  have hw : Below w.heap.size w ((w.alloc (.deferred (some []))).alloc (.loop rdy)) := ((Below.refl _ w).alloc (Nat.le_refl _) _).alloc (by simp) _
  have hsz : ((w.alloc (.deferred (some []))).alloc (.loop rdy)).heap.size = w.heap.size + 1 + 1 := by simp
  refine ⟨w.heap.size + 1, [{ target := .collected w.heap.size, args := #[] }], (w.alloc (.deferred (some []))).alloc (.loop rdy), { target := .fn (.func gf) lb, args := #[.func (.yield (w.heap.size + 1)) #[] #[]] }, (w.alloc (.deferred (some []))).alloc (.loop rdy), gf, #[.func (.yield (w.heap.size + 1)) #[] #[]] ++ lb, (w.alloc (.deferred (some []))).alloc (.loop rdy), run_enterLoop_outer _ _ _ _ _, ?_, ?_, ?_, fun _ => h1, ?_⟩
  · simp only [resolve, hg]; simp [go_sem]
  · intro f' _; trivial
  · simp [invoke, go_sem, eg]
  refine (hseq (w.heap.size + 1) (fun pre W => I pre W ∧ W.heap[w.heap.size + 1]? = some (.loop rdy) ∧ W.heap[w.heap.size]? = some (.deferred (some []))) (fun _ _ => False) _ hw
    (fun s A B row hs hg' hr => ?_) (fun _ _ _ _ hs _ _ => hs) ?_ ⟨hI.alloc _ (hI.alloc _ h0), hA, hB⟩).mono ?_
  · have hk : ∀ (k : Nat) (o : Obj), A.heap[k]? = some o → o.isWalk = false → B.heap[k]? = some o := fun k o hko ho => by
      rw [← hko]
      refine hg'.block k (Array.getElem?_eq_some_iff.1 hko).1 (fun e => ?_)
      obtain ⟨_, o', ho', hw'⟩ := hr k e.symm
      rw [hko] at ho'
      cases ho'
      rw [ho] at hw'
      cases hw'
    exact ⟨hI s A B row hs.1 hg' (fun r e => by obtain ⟨h1, o, h2, h3⟩ := hr r e; exact ⟨by rw [hsz] at h1; omega, o, h2, Obj.not_cells_of_walk h3⟩), hk _ _ hs.2.1 rfl, hk _ _ hs.2.2 rfl⟩
  · rintro pre x W ⟨hi, hl, hk⟩ hlen
    have hy := run_yield (P := P) (args := encs x) hl (hps x)
    refine ⟨fn, _, assign, body, hy, roundIn_of_wpIn hfn (wpIn_mono (hround _ rdy pre x W (by omega) hi hlen hl) ?_)⟩
    intro e a' W' he
    cases e with
    | normal =>
      obtain ⟨hko, hbd⟩ := he
      have hl' := hko.same _ _ hl rfl
      have hk' := hko.same _ _ hk rfl
      refine ⟨_, run_beginRound hl' rfl, wpIn_mono hbd ?_⟩
      rintro e a3 W3 ⟨rfl, hk3, hkp, hi3⟩
      have hlt : w.heap.size + 1 < W'.heap.size := (Array.getElem?_eq_some_iff.1 hl').1
      have hl3 := hk3.same _ _ (World.putObj_heap_same (o := .loop { rdy with state := .busy }) hlt) rfl
      have hd3 := hk3.same _ _ ((World.putObj_heap_other (by omega)).trans hk') rfl
      refine ⟨_, _, run_endRound none hl3, .inl ⟨rfl, ⟨hI.putObj _ hi3 (by omega) hl3 rfl, ?_, (World.putObj_heap_other (by omega)).trans hd3⟩, hkp _⟩⟩
      exact World.putObj_heap_same (Array.getElem?_eq_some_iff.1 hl3).1
    | ret => exact he.elim
    | exit id => exact he.elim
    | goto t => exact he.elim
    | panic ch => exact he.elim
    | outgrown => exact he.elim
  · rintro e W2 ⟨⟨v, rfl⟩, (⟨xs, hS, hi, hl, hk⟩ | ⟨pre, _, h⟩)⟩
    · exact ⟨none, _, run_endLoop hl (by simp [rdy]), hdone _ xs _ (Nat.le_refl _) hS (hI.putObj _ hi (by omega) hl rfl) ((World.putObj_heap_other (by omega)).trans hk)⟩
    · exact h.elim
end Go.Proofs.YtgeiiadlchimhaaDoor
