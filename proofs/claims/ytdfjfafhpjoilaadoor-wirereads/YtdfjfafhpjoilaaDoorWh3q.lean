/- Heads: two that are the same compared (Wh3 without the bytes). -/
import Derived.Test.YtdfjfafhpjoilaaDoorHr
import Derived.Test.YtdfjfafhpjoilaaDoorRg
import Derived.Laws.StructEq
namespace Go.Proofs.YtdfjfafhpjoilaaDoor
open Go.RowKit
set_option maxRecDepth 20000
set_option linter.unusedSimpArgs false

theorem sizeHead : (Tryd.prog.info? 35).map (·.size) = some 33 := by kernel_rfl
theorem hds_split (l : List (Int × List Int)) (j : Nat) (hj : j < l.length) : l = l.take j ++ l[j] :: l.drop (j + 1) := by
  rw [List.getElem_cons_drop, List.take_append_drop]
theorem eqItems_self {P : Program} (w : World) (d : Nat) (e : TypeId) (c : Nat) (xs : Array Value) : ∀ is : List Nat, (∀ i ∈ is, ∃ a, (part e xs (i * c)).run P w = .ok a w ∧ (Op.equalIn d e a a).run P w = .ok true w) → (Op.eqItems d e c xs xs is).run P w = .ok true w
  | [], _ => by simp [Op.eqItems]
  | i :: is, h => by
    obtain ⟨a, h1, h2⟩ := h i (by simp)
    have ih := eqItems_self w d e c xs is (fun j hj => h j (by simp [hj]))
    simp only [Op.eqItems, Sem.run_bind, h1, h2, Result.andThen_ok]
    simpa using ih
theorem part_mid {P : Program} (w : World) (t : TypeId) (n : Nat) (d : TypeDesc) (cs : List Value) (off : Nat) (hu : P.underlying t = some d) (hd : (match d with | .struct _ | .array _ _ => true | _ => false) = true) (hi : (P.info? t).map (·.size) = some n) :
    (part t cs.toArray off).run P w = .ok (.agg ((cs.drop off).take n).toArray) w := by
  cases hq : P.info? t with
  | none => simp [hq] at hi
  | some i =>
    have hs : i.size = n := by simpa [hq] using hi
    cases d <;> simp_all [part, isAgg, run_underlying hu, sizeOf, typeInfo, List.extract]
theorem key_same (d : Nat) (s : List Int) (hs : s.length = 32) (wx : World) : (Op.equalIn (d + 1 + 1) 27 (.agg (byC s).toArray) (.agg (byC s).toArray)).run Tryd.prog wx = .ok true wx := by
  have := run_equalIn_rows (P := Tryd.prog) wx d .u8 s s Tryd.underlying27 Tryd.underlying5 (by kernel_rfl) (by kernel_rfl) hs hs
  rw [beq_self_eq_true] at this
  exact this
theorem eqFields_two {P : Program} (w : World) (d : Nat) (xs : Array Value) (t1 t2 : TypeId) (o1 o2 : Nat) (a b : Value) (h1 : (part t1 xs o1).run P w = .ok a w) (h2 : (part t2 xs o2).run P w = .ok b w)
    (e1 : (Op.equalIn d t1 a a).run P w = .ok true w) (e2 : (Op.equalIn d t2 b b).run P w = .ok true w) : ∀ L : List Field, L.map (fun f => (f.name != "_", f.type, f.offset)) = [(true, t1, o1), (true, t2, o2)] → (Op.eqFields d xs xs L).run P w = .ok true w
  | [], hf => by simp at hf
  | [_], hf => by simp at hf
  | _ :: _ :: _ :: _, hf => by simp at hf
  | [f, g], hf => by
    simp only [List.map_cons, List.map_nil, List.cons.injEq, Prod.mk.injEq, and_true, bne_iff_ne, ne_eq] at hf
    obtain ⟨⟨q1, q2, q3⟩, p1, p2, p3⟩ := hf
    simp only [Op.eqFields, q1, q2, q3, p1, p2, p3, ne_eq, not_false_eq_true, if_true, Sem.run_bind, h1, h2, e1, e2, Result.andThen_ok, Bool.not_true, Bool.false_eq_true, if_false, Sem.run_pure]
theorem head_fields : (Tryd.prog.fieldsOf 35).toList.map (fun f => (f.name != "_", f.type, f.offset)) = [(true, 23, 0), (true, 27, 1)] := by kernel_rfl
theorem head_under : Tryd.prog.underlying 35 = some (.struct (Tryd.prog.fieldsOf 35)) := by kernel_rfl
theorem head_held : Tryd.prog.stoodInHeld 35 = false := by kernel_rfl
theorem head_same (d : Nat) (h : Int × List Int) (hh : h.2.length = 32) (wx : World) : (Op.equalIn (d + 1 + 1 + 1) 35 (.agg (hdC h).toArray) (.agg (hdC h).toArray)).run Tryd.prog wx = .ok true wx := by
  have hk := key_same d h.2 hh wx
  have hp : (part 27 (hdC h).toArray 1).run Tryd.prog wx = .ok (.agg (byC h.2).toArray) wx := by
    rw [part_mid wx 27 32 _ (hdC h) 1 Tryd.underlying27 rfl sizeKey32]
    rw [show ((hdC h).drop 1).take 32 = byC h.2 from List.take_of_length_le (by simp [hdC, byC_length, hh])]
  have hp0 : (part 23 (hdC h).toArray 0).run Tryd.prog wx = .ok (.int .u32 h.1) wx := by
    simp [part, isAgg, run_underlying Tryd.underlying23, hdC]
  have he := run_equalIn_int (P := Tryd.prog) wx (d + 1) 23 .u32 .u32 h.1 h.1 Tryd.underlying23
  rw [beq_self_eq_true] at he
  rw [run_equalIn_struct wx _ 35 _ _ head_under head_held]
  exact eqFields_two wx _ _ _ _ _ _ _ _ hp0 hp he hk _ head_fields
theorem head_info : (Tryd.prog.info? 35).isSome = true := by kernel_rfl
theorem head_cells : Tryd.prog.cellsOf 35 = 33 := by kernel_rfl
theorem keyCells8 : Tryd.prog.cellsOf 5 = 1 := by kernel_rfl
theorem keyInfo8 : (Tryd.prog.info? 5).isSome = true := by kernel_rfl
theorem heads_same (l : List (Int × List Int)) (hl : hdOk l) (h8 : l.length = 8) (wx : World) : (binOp BinOp.eql 36 (.agg (hdsC l).toArray) (.agg (hdsC l).toArray)).run Tryd.prog wx = .ok (.bool true) wx := by
  rw [run_eql_struct]
  obtain ⟨i, hi⟩ := Option.isSome_iff_exists.1 head_info
  have hc := head_cells
  rw [run_equalIn_array wx 9999 _ _ Tryd.underlying36 hi, hc, eqItems_self wx 9999 35 33 (hdsC l).toArray (List.range 8) (fun j hj => by
    have hj8 := List.mem_range.1 hj
    refine ⟨.agg (hdC (l[j]'(by omega))).toArray, ?_, head_same 9996 _ (hl _ (List.getElem_mem _)) wx⟩
    rw [part_mid wx 35 33 _ (hdsC l) (j * 33) Tryd.underlying35 rfl sizeHead]
    have := hds_part (l.take j) (l[j]'(by omega)) (l.drop (j + 1)) j (fun x hx => hl x (List.mem_of_mem_take hx)) (by rw [List.length_take]; omega) (hl _ (List.getElem_mem _))
    rw [← hds_split l j (by omega)] at this
    rw [this])]
  rfl
end Go.Proofs.YtdfjfafhpjoilaaDoor
