/- Tp3 -/
import Derived.Test.YthjkcfpdkhghpaaH41
import Derived.Test.YthjkcfpdkhghpaaH22
import Derived.Test.YthjkcfpdkhghpaaH39
import Derived.Test.YthjkcfpdkhghpaaH27
import Derived.Test.YthjkcfpdkhghpaaH09
namespace Go.Proofs.Ythjkcfpdkhghpaa
open Go.RowKit Go.Shelf
set_option maxRecDepth 20000
set_option linter.unusedSimpArgs false
theorem EvsAt.rngT {w : World} {x : Option Addr} {len cap : Nat} {ds : List Ev} (h : EvsAt w x len cap ds) (k : Nat) (hk : k < ds.length) : ∃ b off, x = some ⟨b, off, none⟩ ∧ w.rangeAt b (off + k * 17) ds[k].cells := by
  rcases h.at_ with h0 | ⟨b, off, hx, hc⟩
  · have := h.len_eq; omega
  · exact ⟨b, off, hx, fun i v hv => hc k hk i v hv⟩
theorem EvsAt.cutT {w : World} {x : Option Addr} {len cap : Nat} {ds : List Ev} (h : EvsAt w x len cap ds) (n : Nat) (hn : n ≤ len) : EvsAt w x n cap (ds.take n) := by
  have hl := h.len_eq
  refine ⟨by rw [List.length_take]; omega, by have := h.le; omega, h.top, ?_, fun d hd => h.ok d (List.mem_of_mem_take hd)⟩
  rcases h.at_ with h0 | ⟨b, off, hx, hc⟩
  · left; omega
  · right
    refine ⟨b, off, hx, fun j hj i v hv => hc j (by rw [List.length_take] at hj; omega) i v ?_⟩
    rw [List.getElem_take] at hv; exact hv
theorem RunX.sum {S : List Int} {X : List Ev} (h : RunX S X) : sumS S = (X.length : Int) := by
  induction h with
  | nil => rfl
  | snoc h he hr ih =>
    obtain ⟨a0, a8⟩ := ready_author he hr
    rw [sumS_inc h.len a0 a8, ih, List.length_append, List.length_singleton]
    push_cast; rfl
structure Hp4 where
  Ha : Nat
  ba : Nat
  Hb : Nat
  bb : Nat
  R1 : Nat
  c1 : Nat
  n1 : Nat
  R2 : Nat
  c2 : Nat
  n2 : Nat
  B1 : Nat
  B2 : Nat
structure HrI (w W : World) (p : Hp4) (V1 V2 : (Int × Int) × Bool → Value) (S : List Int) (L : List Ev) (T : List Int) (M X Y : List Ev) : Prop where
  bA : BufC W p.Ha p.ba S L
  bB : BufC W p.Hb p.bb T M
  t1 : TreeAt W p.B1 p.R1 p.c1 p.n1 (treeX X) V1
  t2 : TreeAt W p.B2 p.R2 p.c2 p.n2 (treeX Y) V2
  d1 : ∀ q, treeP p.R1 p.c1 p.n1 V1 q → ¬ treeP p.R2 p.c2 p.n2 V2 q ∧ (q ≠ p.Ha ∧ q ≠ p.ba ∧ q ≠ p.Hb ∧ q ≠ p.bb) ∧ w.heap.size ≤ q
  d2 : ∀ q, treeP p.R2 p.c2 p.n2 V2 q → (q ≠ p.Ha ∧ q ≠ p.ba ∧ q ≠ p.Hb ∧ q ≠ p.bb) ∧ w.heap.size ≤ q
  d3 : p.Ha ≠ p.Hb ∧ p.Ha ≠ p.bb ∧ p.ba ≠ p.Hb ∧ p.ba ≠ p.bb
  low : w.heap.size ≤ p.Ha ∧ w.heap.size ≤ p.ba ∧ w.heap.size ≤ p.Hb ∧ w.heap.size ≤ p.bb
  base : p.B1 ≤ W.heap.size ∧ p.B2 ≤ W.heap.size
  below : Below w.heap.size w W
section
variable {w W W' : World} {p : Hp4} {V1 V2 V' : (Int × Int) × Bool → Value} {S S2 : List Int} {L L2 : List Ev} {T : List Int} {M X Y : List Ev}
theorem HrI.far (h : HrI w W p V1 V2 S L T M X Y) (hb : Below W.heap.size W W') : HrI w W' p V1 V2 S L T M X Y :=
  ⟨h.bA.far hb, h.bB.far hb, h.t1.far hb, h.t2.far hb, h.d1, h.d2, h.d3, h.low, ⟨Nat.le_trans h.base.1 hb.size, Nat.le_trans h.base.2 hb.size⟩, h.below.trans (hb.mono h.below.size)⟩
theorem HrI.putA (h : HrI w W p V1 V2 S L T M X Y) (hC : BufC W' p.Ha p.ba S2 L2) (ht : Turn (fun k => k = p.ba ∨ k = p.Ha) W W') : HrI w W' p V1 V2 S2 L2 T M X Y := by
  obtain ⟨e1, e2, e3, e4⟩ := h.d3
  have hk : ∀ k, k < W.heap.size → k ≠ p.Ha → k ≠ p.ba → W'.heap[k]? = W.heap[k]? := fun k hk h1 h2 => ht.block k hk (fun q => q.elim h2 h1)
  refine ⟨hC, h.bB.congr (hk _ h.bB.cells.lt (Ne.symm e1) (Ne.symm e3)) (hk _ h.bB.wait.lt (Ne.symm e2) (Ne.symm e4)), h.t1.congr fun k q => ?_, h.t2.congr fun k q => ?_, h.d1, h.d2, h.d3, h.low, ⟨Nat.le_trans h.base.1 ht.size, Nat.le_trans h.base.2 ht.size⟩, h.below.trans (ht.below h.below.size fun k q => ?_)⟩
  · have := (h.d1 k q).2.1
    exact hk k (h.t1.blockLt k q) this.1 this.2.1
  · have := (h.d2 k q).1
    exact hk k (h.t2.blockLt k q) this.1 this.2.1
  · have := h.low
    rcases q with rfl | rfl <;> omega
theorem HrI.putB (h : HrI w W p V1 V2 S L T M X Y) (hC : BufC W' p.Hb p.bb S2 L2) (ht : Turn (fun k => k = p.bb ∨ k = p.Hb) W W') : HrI w W' p V1 V2 S L S2 L2 X Y := by
  obtain ⟨e1, e2, e3, e4⟩ := h.d3
  have hk : ∀ k, k < W.heap.size → k ≠ p.Hb → k ≠ p.bb → W'.heap[k]? = W.heap[k]? := fun k hk h1 h2 => ht.block k hk (fun q => q.elim h2 h1)
  refine ⟨h.bA.congr (hk _ h.bA.cells.lt e1 e2) (hk _ h.bA.wait.lt e3 e4), hC, h.t1.congr fun k q => ?_, h.t2.congr fun k q => ?_, h.d1, h.d2, h.d3, h.low, ⟨Nat.le_trans h.base.1 ht.size, Nat.le_trans h.base.2 ht.size⟩, h.below.trans (ht.below h.below.size fun k q => ?_)⟩
  · have := (h.d1 k q).2.1
    exact hk k (h.t1.blockLt k q) this.2.2.1 this.2.2.2
  · have := (h.d2 k q).1
    exact hk k (h.t2.blockLt k q) this.2.2.1 this.2.2.2
  · have := h.low
    rcases q with rfl | rfl <;> omega
theorem HrI.ins1 (h : HrI w W p V1 V2 S L T M X Y) {xs : List Ev} (hT : TreeAt W' p.B1 p.R1 p.c1 p.n1 (xs.foldl effN (treeX X)) V') (ht : TreeTo p.R1 p.c1 p.n1 V1 V' W W') : HrI w W' p V' V2 S L T M (X ++ xs) Y := by
  have hk : ∀ k, k < W.heap.size → ¬ treeP p.R1 p.c1 p.n1 V1 k → W'.heap[k]? = W.heap[k]? := fun k hk h1 => ht.turn.block k hk h1
  have l1 := h.bA.cells.lt
  have l2 := h.bA.wait.lt
  have l3 := h.bB.cells.lt
  have l4 := h.bB.wait.lt
  refine ⟨h.bA.congr (hk _ l1 fun q => (h.d1 _ q).2.1.1 rfl) (hk _ l2 fun q => (h.d1 _ q).2.1.2.1 rfl), h.bB.congr (hk _ l3 fun q => (h.d1 _ q).2.1.2.2.1 rfl) (hk _ l4 fun q => (h.d1 _ q).2.1.2.2.2 rfl), by rw [treeX_app]; exact hT, h.t2.congr fun k q => hk k (h.t2.blockLt k q) fun r => (h.d1 k r).1 q, fun k q => ?_, h.d2, h.d3, h.low, ⟨Nat.le_trans h.base.1 ht.turn.size, Nat.le_trans h.base.2 ht.turn.size⟩, h.below.trans (ht.turn.below h.below.size fun k q => (h.d1 k q).2.2)⟩
  rcases ht.own k q with r | r
  · exact h.d1 k r
  · exact ⟨fun s => by have := h.t2.blockLt k s; omega, ⟨by omega, by omega, by omega, by omega⟩, by have := h.below.size; omega⟩
theorem HrI.ins2 (h : HrI w W p V1 V2 S L T M X Y) {ys : List Ev} (hT : TreeAt W' p.B2 p.R2 p.c2 p.n2 (ys.foldl effN (treeX Y)) V') (ht : TreeTo p.R2 p.c2 p.n2 V2 V' W W') : HrI w W' p V1 V' S L T M X (Y ++ ys) := by
  have hk : ∀ k, k < W.heap.size → ¬ treeP p.R2 p.c2 p.n2 V2 k → W'.heap[k]? = W.heap[k]? := fun k hk h1 => ht.turn.block k hk h1
  have l1 := h.bA.cells.lt
  have l2 := h.bA.wait.lt
  have l3 := h.bB.cells.lt
  have l4 := h.bB.wait.lt
  refine ⟨h.bA.congr (hk _ l1 fun q => (h.d2 _ q).1.1 rfl) (hk _ l2 fun q => (h.d2 _ q).1.2.1 rfl), h.bB.congr (hk _ l3 fun q => (h.d2 _ q).1.2.2.1 rfl) (hk _ l4 fun q => (h.d2 _ q).1.2.2.2 rfl), h.t1.congr fun k q => hk k (h.t1.blockLt k q) (h.d1 k q).1, by rw [treeX_app]; exact hT, fun k q => ⟨fun r => ?_, (h.d1 k q).2⟩, fun k q => ?_, h.d3, h.low, ⟨Nat.le_trans h.base.1 ht.turn.size, Nat.le_trans h.base.2 ht.turn.size⟩, h.below.trans (ht.turn.below h.below.size fun k q => (h.d2 k q).2)⟩
  · rcases ht.own k r with s | s
    · exact (h.d1 k q).1 s
    · have := h.t1.blockLt k q; omega
  · rcases ht.own k q with r | r
    · exact h.d2 k r
    · exact ⟨⟨by omega, by omega, by omega, by omega⟩, by have := h.below.size; omega⟩
end
end Go.Proofs.Ythjkcfpdkhghpaa
