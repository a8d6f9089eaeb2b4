/- Structs all of whose fields are given: what is built is the parts, one behind the other; nothing of one program. -/
import Derived.Test.YthodlbkgggaibaaBg
import Derived.Test.YthodlbkgggaibaaGx
namespace Go.Proofs.Ythodlbkgggaibaa
open Go.RowKit
set_option maxRecDepth 20000
set_option linter.unusedSimpArgs false

/-- The parts L (the field's number, its value, its cells) lie one behind the other from off on. -/
def Tiles (place : Nat → Option (Nat × Nat)) : Nat → List (Nat × Value × List Value) → Prop
  | _, [] => True
  | off, x :: L => place x.1 = some (off, x.2.2.length) ∧ x.2.1.cells = x.2.2.toArray ∧ Tiles place (off + x.2.2.length) L
def tileL (L : List (Nat × Value × List Value)) : List Value := (L.map (·.2.2)).flatten
theorem tileL_cons (x : Nat × Value × List Value) (L : List (Nat × Value × List Value)) : tileL (x :: L) = x.2.2 ++ tileL L := by simp [tileL]
theorem fill_tile (place : Nat → Option (Nat × Nat)) : ∀ (L : List (Nat × Value × List Value)) (done tail : List Value), Tiles place done.length L → tail.length = (tileL L).length →
    Instr.fill place (done ++ tail).toArray (L.map fun x => (x.1, x.2.1)) = some (done ++ tileL L).toArray
  | [], done, tail, _, hl => by
    have : tail = [] := List.length_eq_zero_iff.1 (by simpa [tileL] using hl)
    rw [this]; simp [Instr.fill, tileL]
  | x :: L, done, tail, hT, hl => by
    obtain ⟨h1, h2, h3⟩ := hT
    rw [tileL_cons, List.length_append] at hl
    rw [List.map_cons, fill_cons place (done ++ tail) x.2.2 x.1 done.length x.2.2.length x.2.1 _ h1 h2 rfl (by rw [List.length_append]; omega)]
    rw [List.take_left, List.drop_length_add_append, fill_tile place L (done ++ x.2.2) (tail.drop x.2.2.length) (by rw [List.length_append]; exact h3) (by rw [List.length_drop]; omega), tileL_cons, List.append_assoc]
theorem built_tile {P : Program} {t : TypeId} {fields : Array Field} {n : Nat} {places : List (Nat × Nat)} (hz : (P.info? t).map (fun i => i.zero.map (·.cells.size)) = some (some n)) (hu : P.underlying t = some (.struct fields)) (hp : fields.toList.mapM (fun f => (P.info? f.type).map fun i => (f.offset, i.size)) = some places)
    (L : List (Nat × Value × List Value)) (hT : Tiles (places.toArray[·]?) 0 L) (hn : n = (tileL L).length) (w : World) : (Instr.build t (L.map fun x => (x.1, x.2.1)).toArray).run P w = .ok (.agg (tileL L).toArray) w := by
  refine run_build w _ _ _ ?_
  unfold Program.built
  cases hi : P.info? t with
  | none => simp [hi] at hz
  | some it =>
    cases hq : it.zero with
    | none => simp [hi, hq] at hz
    | some zv =>
      have hs : zv.cells.size = n := by simpa [hi, hq] using hz
      simp only [hu, hp, hq]
      have := fill_tile (places.toArray[·]?) L [] zv.cells.toList hT (by rw [Array.length_toList, hs, hn])
      rw [List.nil_append, List.nil_append] at this
      simpa using this
theorem execBuildT {P : Program} {o : Oper} {ev : Operand → Value} {w : World} {v : Value} (t : TypeId) (parts : Array (Nat × Operand)) (ho : o.op = .build t parts) (vs : Array (Nat × Value)) (hv : (parts.map fun (i, x) => (i, ev x)) = vs) (h : (Instr.build t vs).run P w = .ok v w) :
    (execOp ev o).run P w = .ok (.value v) w := by
  unfold execOp
  simp only [ho, hv, Sem.run_bind, Sem.run_pure, Result.andThen_ok, h]
theorem wpList_bldgT {P : Program} {ops : Array Oper} {rest : List Oper} {o : Oper} {a : Act} {w : World} {Q : Exit → Act → World → Prop} (hw : Region.wanted o (yielded ops a.tmps) = true) (t : TypeId) (parts : Array (Nat × Operand)) (ho : o.op = .build t parts) (vals : Array (Nat × Value)) (hv : (parts.map fun (i, x) => (i, a.eval x)) = vals) (v : Value) (hrun : (Instr.build t vals).run P w = .ok v w)
    (h : wpList P ops Q rest (a.put o.dst v) w) : wpList P ops Q (o :: rest) a w :=
  wpList_step fun K hK => by
    rw [if_pos hw]
    exact wpx_bld t parts ho vals hv v hrun (hK _ _ h)
theorem wpList_eqgT {P : Program} {ops : Array Oper} {rest : List Oper} {o : Oper} {a : Act} {w : World} {Q : Exit → Act → World → Prop} (hw : Region.wanted o (yielded ops a.tmps) = true) (op : BinOp) (t u : TypeId) (x y : Operand) (ho : o.op = .binOp op t x y u) (xv yv v : Value) (hx : a.eval x = xv) (hy : a.eval y = yv) (hgd : (eqGuard op t x y xv yv).run P w = .ok () w) (hrun : (binOp op t xv yv).run P w = .ok v w)
    (h : wpList P ops Q rest (a.put o.dst v) w) : wpList P ops Q (o :: rest) a w :=
  wpList_step fun K hK => by
    rw [if_pos hw]
    unfold Oper.wp execOp
    simp only [ho, hx, hy, Sem.run_bind, hgd, hrun, Result.andThen_ok, Sem.run_pure]
    exact hK _ _ h
end Go.Proofs.Ythodlbkgggaibaa

