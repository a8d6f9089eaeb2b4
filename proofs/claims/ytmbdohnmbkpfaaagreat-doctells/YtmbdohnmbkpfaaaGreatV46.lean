/- De21 -/
import Derived.Test.YtmbdohnmbkpfaaaGreatV44
namespace Go.Proofs.YtmbdohnmbkpfaaaGreat
open Go.RowKit Go.Shelf
set_option maxRecDepth 20000
set_option linter.unusedSimpArgs false
structure RoI (w : World) (B : Nat) (Ec : List Value) (st : Ds) (D Q : Nat) (s : Ds) (K : List (Nat × List Value)) (W : World) : Prop where
 both : BothD B W s st D Q K
 below : Below w.heap.size w W
 edit : CellsAt W w.heap.size 56 Ec
 size : B ≤ W.heap.size
theorem RoI.far {w : World} {B : Nat} {Ec : List Value} {st : Ds} {D Q : Nat} {s : Ds} {K : List (Nat × List Value)} {W W' : World} (h : RoI w B Ec st D Q s K W) (hb : Below W.heap.size W W') : RoI w B Ec st D Q s K W' :=
 ⟨h.both.far hb, h.below.trans (hb.mono h.below.size), h.edit.farM hb, Nat.le_trans h.size hb.size⟩
theorem RoI.keep {w : World} {B : Nat} {Ec : List Value} {st : Ds} {D Q : Nat} {s : Ds} {K : List (Nat × List Value)} {W W' : World} (h : RoI w B Ec st D Q s K W) (hb : Below W.heap.size W W') {b : Nat} {cs : List Value} (hc : CellsAt W' b 44 cs) (hl : W.heap.size ≤ b) : RoI w B Ec st D Q s ((b, cs) :: K) W' :=
 ⟨h.both.keep hb hc hl, h.below.trans (hb.mono h.below.size), h.edit.farM hb, Nat.le_trans h.size hb.size⟩
theorem RoI.store {w : World} {B : Nat} {Ec : List Value} {st : Ds} {D Q : Nat} {s : Ds} {K : List (Nat × List Value)} {W : World} (h : RoI w B Ec st D Q s K W) (cs : List Value) : RoI w B Ec st D Q s ((W.heap.size, cs) :: K) ((W.alloc (.cells zC.toArray 44)).setRow W.heap.size cs.toArray) :=
 h.keep (below_setRow ((Below.refl _ _).alloc (Nat.le_refl _) _) (Nat.le_refl _) _) ((CellsAt.new W 44 zC).setRow cs) (Nat.le_refl _)
theorem RoI.apply {w : World} {B : Nat} {Ec : List Value} {st : Ds} {D Q : Nat} {s : Ds} {K : List (Nat × List Value)} {W : World} (hw : w.heap.size < B) (h : RoI w B Ec st D Q s K W) {e : Ev} (he : e.Ok) (hr : refD s e = 0) :
    Calls Tryz.prog 18 #[.pointer (some ⟨D, 0, none⟩), .agg e.cells.toArray] W fun r w' => r = .returned (.int .i64 0) ∧ RoI w B Ec st D Q (apS s e) K w' := by
 refine (h.both.applyD he h.size).mono ?_
 rintro r w' ⟨h1, h2, h3⟩
 rw [hr] at h1
 rw [show doS s e = apS s e from if_pos hr] at h2
 exact ⟨h1, ⟨h2, h.below.trans (h3.mono (Nat.le_of_lt hw)), h.edit.congr (h3.block _ hw), Nat.le_trans h.size h3.size⟩⟩
end Go.Proofs.YtmbdohnmbkpfaaaGreat
