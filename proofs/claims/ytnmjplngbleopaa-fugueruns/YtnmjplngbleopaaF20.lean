/- Rtl -/
import Derived.Test.YtnmjplngbleopaaF06
namespace Go.Proofs.Ytnmjplngbleopaa
open Go Go.RowKit
set_option linter.unusedSimpArgs false
theorem wpIn_rangeTl {α : Type} {n : Nat} {P : Program} {g : Operand} {ps : Array Tmp} {assign body : Code} {Q : Exit → Act → World → Prop} {a : Act} {w : World}
    (h1 : 1 ≤ n) {gf : Nat} {lb : Array Value} (hg : a.eval g = .func (.func gf) #[] lb) (eg : ∀ args w, (callFunc gf args).run P w = .ok (.enter gf args) w)
    {encs : α → Array Value} {Own Wr : Nat → Prop} {Post Postx : List α → World → Prop} {ok : α → Prop} {N : Nat} (hseq : SeqT (n - 1) P gf lb encs Own Wr Post Postx ok N w) (hps : ∀ x, (encs x).size = ps.size)
    (hPost : ∀ xs A B, Post xs A → StaysT Own A B → Post xs B) (hPostx : ∀ xs A B, Postx xs A → StaysT Own A B → Postx xs B)
    (T0 : Nat → Prop) (hT0 : ∀ k, T0 k → ¬ Own k ∧ k < w.heap.size) (hOwn : ∀ k, Own k → k < w.heap.size)
    (I : (Nat → Prop) → List α → World → Prop) (Ix : Code → (Nat → Prop) → List α → World → Prop) (hI : ∀ T s A B, I T s A → StaysT (fun k => T k ∨ (k < w.heap.size ∧ ¬ Wr k)) A B → I T s B) (hIx : ∀ c T s A B, Ix c T s A → StaysT (fun k => T k ∨ (k < w.heap.size ∧ ¬ Wr k)) A B → Ix c T s B) (h0 : I T0 [] w)
    (hround : ∀ (l : Nat) (r : Loop) (T : Nat → Prop) (pre : List α) (x : α) (W : World), I T pre W → ok x → pre.length < N → (∀ k, T k → k < W.heap.size) → (∀ k, T k → T0 k ∨ w.heap.size + 2 ≤ k) → W.heap[l]? = some (.loop r) → l = w.heap.size + 1 →
      assign.wpIn (Fence.wide.inRound l) (n - 1 - 1) P (Exit.then (fun a' W' => Turn T W W' ∧
        body.wpIn (Fence.wide.inRound l) (n - 1 - 1) P (roundOut fun c W3 => ∃ T', (match c with | none => I T' (pre ++ [x]) W3 | some c => Ix c T' (pre ++ [x]) W3) ∧ MovesT T (W'.putObj l (.loop { r with state := .busy })) T' W3) a' (W'.putObj l (.loop { r with state := .busy }))) (fun _ _ _ => False))
        { tmps := (ps.zip (encs x)).foldl (fun t (p, v) => t.setIfInBounds p v) a.tmps, defers := [] } W)
    (hdone : ∀ (D : Nat) (xs : List α) (T : Nat → Prop) (W : World), w.heap.size ≤ D → Post xs W → I T xs W → W.heap[D]? = some (.deferred (some [])) → Turn (fun k => T0 k ∨ Wr k) w W → ¬ T D → Q .normal { a with defers := { target := .collected D, args := #[] } :: a.defers } W)
    (hstop : ∀ (D : Nat) (c : Code) (xs : List α) (T : Nat → Prop) (W : World), w.heap.size ≤ D → Postx xs W → Ix c T xs W → W.heap[D]? = some (.deferred (some [])) → Turn (fun k => T0 k ∨ Wr k) w W → ¬ T D → c.wpIn Fence.wide n P Q { a with defers := { target := .collected D, args := #[] } :: a.defers } W) :
    (Code.rangeFunc g ps assign body).wpIn Fence.wide n P Q a w := by
  refine wpIn_rangeFunc fun fn hfn => ?_
  obtain ⟨rec, hrec⟩ : ∃ rec : LoopState → Option Code → Loop, rec = fun st pe => { state := st, pending := pe, fn, tmps := a.tmps, params := ps, assign, body, defers := w.heap.size } := ⟨_, rfl⟩
  obtain ⟨W1, hW1⟩ : ∃ W1, (w.alloc (.deferred (some []))).alloc (.loop (rec .ready none)) = W1 := ⟨_, rfl⟩
  have hL1 : W1.heap[w.heap.size + 1]? = some (.loop (rec .ready none)) := by
    rw [← hW1]; have := World.alloc_heap_new (w.alloc (.deferred (some []))) (.loop (rec .ready none)); rwa [World.size_alloc] at this
  have hK1 : W1.heap[w.heap.size]? = some (.deferred (some [])) := by
    rw [← hW1]; exact (Below.heap_alloc _ _ _ (by simp)).trans (World.alloc_heap_new w _)
  have hb1 : Below w.heap.size w W1 := by rw [← hW1]; exact ((Below.refl _ w).alloc (Nat.le_refl _) _).alloc (by simp) _
  have hs1 : W1.heap.size = w.heap.size + 2 := by rw [← hW1]; simp
  refine ⟨w.heap.size + 1, [{ target := .collected w.heap.size, args := #[] }], W1, { target := .fn (.func gf) lb, args := #[.func (.yield (w.heap.size + 1)) #[] #[]] }, W1, gf, #[.func (.yield (w.heap.size + 1)) #[] #[]] ++ lb, W1, ?_, ?_, ?_, ?_, fun _ => h1, ?_⟩
  · rw [← hW1, hrec]; exact run_enterLoop_outer _ _ _ _ _
  · simp only [resolve, hg]; simp [go_sem]
  · intro f' _; trivial
  · simp [invoke, go_sem, eg]
  have hnT : ∀ T : Nat → Prop, (∀ k, T k → T0 k ∨ w.heap.size + 2 ≤ k) → ¬ T (w.heap.size + 1) ∧ ¬ T w.heap.size := fun T hT => ⟨fun q => by rcases hT _ q with e | e; have := (hT0 _ e).2; omega; omega, fun q => by rcases hT _ q with e | e; have := (hT0 _ e).2; omega; omega⟩
  refine (hseq (w.heap.size + 1) (fun k => T0 k ∨ k = w.heap.size + 1 ∨ k = w.heap.size)
    (fun Ti pre W => HeldT (w.heap.size + 1) w.heap.size (w.heap.size + 2) T0 (rec .ready none) (fun T W => I T pre W) Ti W)
    (fun Ti pre W => ∃ c, HeldT (w.heap.size + 1) w.heap.size (w.heap.size + 2) T0 (rec .done (some c)) (fun T W => Ix c T pre W) Ti W) W1 hb1
    (fun k hk => ?_) (fun T s A B h hs => h.stays (Z := fun k => k < w.heap.size ∧ ¬ Wr k) (fun k q => ⟨by omega, q.2⟩) (fun T' hr hq => hI _ _ _ _ hr hq) hs) (fun T s A B ⟨c, h⟩ hs => ⟨c, h.stays (Z := fun k => k < w.heap.size ∧ ¬ Wr k) (fun k q => ⟨by omega, q.2⟩) (fun T' hr hq => hIx _ _ _ _ _ hr hq) hs⟩) ?_
    ⟨T0, fun k => Iff.rfl, hI _ _ _ _ h0 (StaysT.of_below hb1 (fun k hk => hk.elim (fun q => (hT0 k q).2) (fun q => q.1))), fun k hk => .inl hk, hL1, hK1⟩).mono ?_
  · rcases hk with hk | rfl | rfl
    · exact ⟨(hT0 k hk).1, by have := (hT0 k hk).2; omega⟩
    · exact ⟨fun q => by have := hOwn _ q; omega, by omega⟩
    · exact ⟨fun q => by have := hOwn _ q; omega, by omega⟩
  · rintro Ti pre x W ⟨T, hT, hi, hgr, hl, hk⟩ hok hlen hTi
    have hlt : w.heap.size + 1 < W.heap.size := (Array.getElem?_eq_some_iff.1 hl).1
    obtain ⟨hn1, hn2⟩ := hnT T hgr
    have hy := run_yield (P := P) (args := encs x) hl (by rw [hrec]; exact hps x)
    rw [hrec] at hy
    refine ⟨fn, _, assign, body, hy, roundIn_of_wpIn hfn (wpIn_mono (hround _ _ T pre x W hi hok hlen (fun k hk' => hTi k ((hT k).2 (.inl hk'))) hgr hl rfl) ?_)⟩
    clear hy
    intro e a' W' he
    cases e with
    | normal =>
      obtain ⟨ht, hbd⟩ := he
      have hl' := (ht.block _ hlt hn1).trans hl
      have hk' := (ht.block _ (by omega) hn2).trans hk
      have hlt' : w.heap.size + 1 < W'.heap.size := (Array.getElem?_eq_some_iff.1 hl').1
      refine ⟨_, run_beginRound hl' (by rw [hrec]), wpIn_mono hbd ?_⟩
      have hl2 : (W'.putObj (w.heap.size + 1) (.loop { rec .ready none with state := .busy })).heap[w.heap.size + 1]? = some (.loop { rec .ready none with state := .busy }) := World.putObj_heap_same hlt'
      have hk2 : (W'.putObj (w.heap.size + 1) (.loop { rec .ready none with state := .busy })).heap[w.heap.size]? = some (.deferred (some [])) := (World.putObj_heap_other (by omega)).trans hk'
      have hz2 : (W'.putObj (w.heap.size + 1) (.loop { rec .ready none with state := .busy })).heap.size = W'.heap.size := by simp [World.putObj]
      have fin : ∀ (jump : Option Code) (T' : Nat → Prop) (W3 : World), MovesT T (W'.putObj (w.heap.size + 1) (.loop { rec .ready none with state := .busy })) T' W3 →
          (Instr.endRound (w.heap.size + 1) jump).run P W3 = .ok (.bool jump.isNone) (W3.putObj (w.heap.size + 1) (.loop (rec (if jump.isNone then .ready else .done) jump))) ∧
          (∀ k, T' k → T0 k ∨ w.heap.size + 2 ≤ k) ∧
          (W3.putObj (w.heap.size + 1) (.loop (rec (if jump.isNone then .ready else .done) jump))).heap[w.heap.size + 1]? = some (.loop (rec (if jump.isNone then .ready else .done) jump)) ∧
          (W3.putObj (w.heap.size + 1) (.loop (rec (if jump.isNone then .ready else .done) jump))).heap[w.heap.size]? = some (.deferred (some [])) ∧
          StaysT (fun k => T' k ∨ (k < w.heap.size ∧ ¬ Wr k)) W3 (W3.putObj (w.heap.size + 1) (.loop (rec (if jump.isNone then .ready else .done) jump))) ∧
          MovesT Ti W (fun k => T' k ∨ k = w.heap.size + 1 ∨ k = w.heap.size) (W3.putObj (w.heap.size + 1) (.loop (rec (if jump.isNone then .ready else .done) jump))) := fun jump T' W3 hm => by
        have hl3 := (hm.turn.block _ (by rw [hz2]; exact hlt') hn1).trans hl2
        have hk3 := (hm.turn.block _ (by rw [hz2]; omega) hn2).trans hk2
        have hlt3 : w.heap.size + 1 < W3.heap.size := (Array.getElem?_eq_some_iff.1 hl3).1
        have hgr' : ∀ k, T' k → T0 k ∨ w.heap.size + 2 ≤ k := fun k hk => by
          rcases (hm.own k hk).1 with q | q
          · exact hgr k q
          · rw [hz2] at q; exact .inr (by omega)
        have := run_endRound (P := P) jump hl3
        rw [hrec] at this ⊢
        refine ⟨this, hgr', World.putObj_heap_same hlt3, (World.putObj_heap_other (by omega)).trans hk3, StaysT.put _ (fun q => q.elim (hnT T' hgr').1 (fun q => by omega)), ?_⟩
        have hTl : Ti (w.heap.size + 1) := (hT _).2 (.inr (.inl rfl))
        have t1 : Turn Ti W W' := ht.mono (fun k _ q => (hT k).2 (.inl q))
        have t2 := Turn.put (p := Ti) (w := W') (.loop { rec .ready none with state := .busy }) hTl
        rw [hrec] at t2
        have t3 := hm.turn.mono (q := Ti) (fun k _ q => (hT k).2 (.inl q))
        rw [hrec] at t3
        refine ⟨((t1.trans t2).trans t3).trans (Turn.put _ hTl), fun k hk => ?_⟩
        have hz : (W3.putObj (w.heap.size + 1) (.loop { state := if jump.isNone then .ready else .done, pending := jump, fn, tmps := a.tmps, params := ps, assign, body, defers := w.heap.size })).heap.size = W3.heap.size := by simp [World.putObj]
        rw [hz]
        rcases hk with hk | rfl | rfl
        · obtain ⟨q, q2⟩ := hm.own k hk
          refine ⟨?_, q2⟩
          rcases q with q | q
          · exact .inl ((hT k).2 (.inl q))
          · rw [hz2] at q; exact .inr (Nat.le_trans ht.size q)
        · exact ⟨.inl hTl, hlt3⟩
        · exact ⟨.inl ((hT _).2 (.inr (.inr rfl))), by omega⟩
      rintro e a3 W3 hp
      cases e with
      | normal =>
        obtain ⟨T', hi3, hm⟩ := hp
        obtain ⟨hr, hg', hl4, hk4, hst, hmv⟩ := fin none T' W3 hm
        exact ⟨_, _, hr, .inl ⟨rfl, _, ⟨T', fun k => Iff.rfl, hI _ _ _ _ hi3 hst, hg', hl4, hk4⟩, hmv⟩⟩
      | ret =>
        obtain ⟨T', hi3, hm⟩ := hp
        obtain ⟨hr, hg', hl4, hk4, hst, hmv⟩ := fin (some .ret) T' W3 hm
        exact ⟨_, _, hr, .inr ⟨rfl, _, ⟨.ret, T', fun k => Iff.rfl, hIx _ _ _ _ _ hi3 hst, hg', hl4, hk4⟩, hmv⟩⟩
      | exit id =>
        obtain ⟨T', hi3, hm⟩ := hp
        obtain ⟨hr, hg', hl4, hk4, hst, hmv⟩ := fin (some (.exit id)) T' W3 hm
        exact ⟨_, _, hr, .inr ⟨rfl, _, ⟨.exit id, T', fun k => Iff.rfl, hIx _ _ _ _ _ hi3 hst, hg', hl4, hk4⟩, hmv⟩⟩
      | goto t =>
        obtain ⟨T', hi3, hm⟩ := hp
        obtain ⟨hr, hg', hl4, hk4, hst, hmv⟩ := fin (some (.goto t)) T' W3 hm
        exact ⟨_, _, hr, .inr ⟨rfl, _, ⟨.goto t, T', fun k => Iff.rfl, hIx _ _ _ _ _ hi3 hst, hg', hl4, hk4⟩, hmv⟩⟩
      | panic ch => exact hp.elim
      | outgrown => exact hp.elim
    | ret => exact he.elim
    | exit id => exact he.elim
    | goto t => exact he.elim
    | panic ch => exact he.elim
    | outgrown => exact he.elim
  · have hend : ∀ (T : Nat → Prop) (W2 : World) (o : Obj), MovesT (fun k => (T0 k ∨ k = w.heap.size + 1 ∨ k = w.heap.size) ∨ Wr k) W1 T W2 → Turn (fun k => T0 k ∨ Wr k) w (W2.putObj (w.heap.size + 1) o) := fun T W2 o hm => by
      have t := hm.turn.trans (Turn.put (p := fun k => (T0 k ∨ k = w.heap.size + 1 ∨ k = w.heap.size) ∨ Wr k) o (.inl (.inr (.inl rfl))))
      refine ⟨t.os.trans hb1.os, t.tape.trans hb1.tape, t.output.trans hb1.output, Nat.le_trans hb1.size t.size, fun k hk hn => (t.block k (by omega) (fun q => ?_)).trans (hb1.block k hk)⟩
      rcases q with (q | q | q) | q
      · exact hn (.inl q)
      · omega
      · omega
      · exact hn (.inr q)
    have hOl : ¬ Own (w.heap.size + 1) := fun q => by have := hOwn _ q; omega
    rintro e W2 ⟨⟨v, rfl⟩, (⟨xs, T', hP, ⟨T, hT, hi, hgr, hl, hk⟩, hm⟩ | ⟨xs, T', hP, ⟨c, T, hT, hi, hgr, hl, hk⟩, hm⟩)⟩
    · exact ⟨none, _, by have := run_endLoop (P := P) hl (by rw [hrec]; simp); rw [hrec] at this; exact this, hdone _ xs T _ (Nat.le_refl _) (hPost _ _ _ hP (StaysT.put _ hOl)) (hI _ _ _ _ hi (StaysT.put _ (fun q => q.elim (hnT T hgr).1 (fun q => by omega)))) ((World.putObj_heap_other (by omega)).trans hk) (hend _ _ _ hm) (hnT T hgr).2⟩
    · exact ⟨some c, _, by have := run_endLoop (P := P) hl (by rw [hrec]; simp); rw [hrec] at this; exact this, hstop _ c xs T _ (Nat.le_refl _) (hPostx _ _ _ hP (StaysT.put _ hOl)) (hIx _ _ _ _ _ hi (StaysT.put _ (fun q => q.elim (hnT T hgr).1 (fun q => by omega)))) ((World.putObj_heap_other (by omega)).trans hk) (hend _ _ _ hm) (hnT T hgr).2⟩
end Go.Proofs.Ytnmjplngbleopaa
