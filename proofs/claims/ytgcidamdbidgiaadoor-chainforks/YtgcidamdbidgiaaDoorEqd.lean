/- Dots, keys, wraps: two of them compared. -/
import Derived.Test.YtgcidamdbidgiaaDoorMEv0Wr2Wr3Wr4Fd
import Derived.Test.YtgcidamdbidgiaaDoorMGateGate2Gate5Gd
import Derived.Laws.StructEq
namespace Go.Proofs.YtgcidamdbidgiaaDoor
open Go.RowKit
set_option maxRecDepth 20000
set_option linter.unusedSimpArgs false

theorem part_midE {P : Program} (w : World) (t : TypeId) (n : Nat) (d : TypeDesc) (cs : List Value) (off : Nat) (hu : P.underlying t = some d) (hd : (match d with | .struct _ | .array _ _ => true | _ => false) = true) (hi : (P.info? t).map (·.size) = some n) :
    (part t cs.toArray off).run P w = .ok (.agg ((cs.drop off).take n).toArray) w := by
  cases hq : P.info? t with
  | none => simp [hq] at hi
  | some i =>
    have hs : i.size = n := by simpa [hq] using hi
    cases d <;> simp_all [part, isAgg, run_underlying hu, sizeOf, typeInfo, List.extract]
theorem part_one {P : Program} (w : World) (t : TypeId) (k : IntKind) (cs : List Value) (off : Nat) (v : Value) (hu : P.underlying t = some (.int k)) (hv : cs[off]? = some v) : (part t cs.toArray off).run P w = .ok v w := by
  simp [part, isAgg, run_underlying hu, hv]
theorem eqFields_2 {P : Program} (w : World) (d : Nat) (xs ys : Array Value) (t1 t2 : TypeId) (o1 o2 : Nat) (a1 b1 a2 b2 : Value) (r1 r2 : Bool) (h1 : (part t1 xs o1).run P w = .ok a1 w) (k1 : (part t1 ys o1).run P w = .ok b1 w) (h2 : (part t2 xs o2).run P w = .ok a2 w) (k2 : (part t2 ys o2).run P w = .ok b2 w)
    (e1 : (Op.equalIn d t1 a1 b1).run P w = .ok r1 w) (e2 : (Op.equalIn d t2 a2 b2).run P w = .ok r2 w) : ∀ L : List Field, L.map (fun f => (f.name != "_", f.type, f.offset)) = [(true, t1, o1), (true, t2, o2)] → (Op.eqFields d xs ys L).run P w = .ok (r1 && r2) w
  | [], hf => by simp at hf
  | [_], hf => by simp at hf
  | _ :: _ :: _ :: _, hf => by simp at hf
  | [f, g], hf => by
    simp only [List.map_cons, List.map_nil, List.cons.injEq, Prod.mk.injEq, and_true, bne_iff_ne, ne_eq] at hf
    obtain ⟨⟨q1, q2, q3⟩, p1, p2, p3⟩ := hf
    cases r1 <;> cases r2 <;> simp only [Op.eqFields, q1, q2, q3, p1, p2, p3, ne_eq, not_false_eq_true, if_true, Sem.run_bind, h1, h2, k1, k2, e1, e2, Result.andThen_ok, Bool.not_true, Bool.not_false, Bool.false_eq_true, if_false, Sem.run_pure, Bool.and_true, Bool.and_false]
theorem eqFields_3 {P : Program} (w : World) (d : Nat) (xs ys : Array Value) (t1 t2 t3 : TypeId) (o1 o2 o3 : Nat) (a1 b1 a2 b2 a3 b3 : Value) (r1 r2 r3 : Bool) (h1 : (part t1 xs o1).run P w = .ok a1 w) (k1 : (part t1 ys o1).run P w = .ok b1 w) (h2 : (part t2 xs o2).run P w = .ok a2 w) (k2 : (part t2 ys o2).run P w = .ok b2 w) (h3 : (part t3 xs o3).run P w = .ok a3 w) (k3 : (part t3 ys o3).run P w = .ok b3 w)
    (e1 : (Op.equalIn d t1 a1 b1).run P w = .ok r1 w) (e2 : (Op.equalIn d t2 a2 b2).run P w = .ok r2 w) (e3 : (Op.equalIn d t3 a3 b3).run P w = .ok r3 w) : ∀ L : List Field, L.map (fun f => (f.name != "_", f.type, f.offset)) = [(true, t1, o1), (true, t2, o2), (true, t3, o3)] → (Op.eqFields d xs ys L).run P w = .ok (r1 && r2 && r3) w
  | [], hf => by simp at hf
  | [_], hf => by simp at hf
  | [_, _], hf => by simp at hf
  | _ :: _ :: _ :: _ :: _, hf => by simp at hf
  | [f, g, i], hf => by
    simp only [List.map_cons, List.map_nil, List.cons.injEq, Prod.mk.injEq, and_true, bne_iff_ne, ne_eq] at hf
    obtain ⟨⟨q1, q2, q3⟩, ⟨p1, p2, p3⟩, s1, s2, s3⟩ := hf
    cases r1 <;> cases r2 <;> cases r3 <;> simp only [Op.eqFields, q1, q2, q3, p1, p2, p3, s1, s2, s3, ne_eq, not_false_eq_true, if_true, Sem.run_bind, h1, h2, h3, k1, k2, k3, e1, e2, e3, Result.andThen_ok, Bool.not_true, Bool.not_false, Bool.false_eq_true, if_false, Sem.run_pure, Bool.and_true, Bool.and_false]
theorem dot_fields : (Tryd.prog.fieldsOf 32).toList.map (fun f => (f.name != "_", f.type, f.offset)) = [(true, 5, 0), (true, 30, 1)] := by kernel_rfl
theorem dot_under : Tryd.prog.underlying 32 = some (.struct (Tryd.prog.fieldsOf 32)) := by kernel_rfl
theorem dot_held : Tryd.prog.stoodInHeld 32 = false := by kernel_rfl
theorem dot_eqIn (d : Nat) (a s a' s' : Int) (wx : World) : (Op.equalIn (d + 1 + 1) 32 (.agg (dotC a s).toArray) (.agg (dotC a' s').toArray)).run Tryd.prog wx = .ok ((a == a') && (s == s')) wx := by
  rw [run_equalIn_struct wx _ 32 _ _ dot_under dot_held]
  exact eqFields_2 wx _ _ _ _ _ _ _ (.int .u8 a) (.int .u8 a') (.int .u32 s) (.int .u32 s') _ _ (part_one wx _ _ (dotC a s) 0 _ Tryd.underlying5 rfl) (part_one wx _ _ (dotC a' s') 0 _ Tryd.underlying5 rfl) (part_one wx _ _ (dotC a s) 1 _ Tryd.underlying30 rfl) (part_one wx _ _ (dotC a' s') 1 _ Tryd.underlying30 rfl)
    (run_equalIn_int wx d 5 .u8 .u8 a a' Tryd.underlying5) (run_equalIn_int wx d 30 .u32 .u32 s s' Tryd.underlying30) _ dot_fields
theorem dot_eql (a s a' s' : Int) (wx : World) : (binOp BinOp.eql 32 (.agg (dotC a s).toArray) (.agg (dotC a' s').toArray)).run Tryd.prog wx = .ok (.bool ((a == a') && (s == s'))) wx := by
  rw [run_eql_struct, dot_eqIn 9998]; rfl
theorem dot_neq (a s a' s' : Int) (wx : World) : (binOp BinOp.neq 32 (.agg (dotC a s).toArray) (.agg (dotC a' s').toArray)).run Tryd.prog wx = .ok (.bool (!((a == a') && (s == s')))) wx := by
  rw [run_neq_struct, dot_eqIn 9998]; rfl
theorem cells8 : Tryd.prog.cellsOf 5 = 1 := by kernel_rfl
theorem info8 : (Tryd.prog.info? 5).isSome = true := by kernel_rfl
theorem key_eqIn (d : Nat) (l m : List Int) (hl : l.length = 32) (hm : m.length = 32) (wx : World) : (Op.equalIn (d + 1 + 1) 34 (.agg (l.map (Value.int .u8)).toArray) (.agg (m.map (Value.int .u8)).toArray)).run Tryd.prog wx = .ok (l == m) wx :=
  run_equalIn_rows wx d .u8 l m Tryd.underlying34 Tryd.underlying5 cells8 info8 hl hm
theorem key_eql (l m : List Int) (hl : l.length = 32) (hm : m.length = 32) (wx : World) : (binOp BinOp.eql 34 (.agg (l.map (Value.int .u8)).toArray) (.agg (m.map (Value.int .u8)).toArray)).run Tryd.prog wx = .ok (.bool (l == m)) wx := by
  rw [run_eql_struct, key_eqIn 9998 l m hl hm]; rfl
theorem key_neq (l m : List Int) (hl : l.length = 32) (hm : m.length = 32) (wx : World) : (binOp BinOp.neq 34 (.agg (l.map (Value.int .u8)).toArray) (.agg (m.map (Value.int .u8)).toArray)).run Tryd.prog wx = .ok (.bool (!(l == m))) wx := by
  rw [run_neq_struct, key_eqIn 9998 l m hl hm]; rfl
theorem wrap_fields : (Tryd.prog.fieldsOf 100).toList.map (fun f => (f.name != "_", f.type, f.offset)) = [(true, 5, 0), (true, 32, 1), (true, 98, 3)] := by kernel_rfl
theorem wrap_under : Tryd.prog.underlying 100 = some (.struct (Tryd.prog.fieldsOf 100)) := by kernel_rfl
theorem wrap_held : Tryd.prog.stoodInHeld 100 = false := by kernel_rfl
theorem sizeData : (Tryd.prog.info? 98).map (·.size) = some 48 := by kernel_rfl
def wpEq (e f : Wp) : Bool := (e.too == f.too) && ((e.ea == f.ea) && (e.es == f.es)) && (e.data == f.data)
theorem wpEq_iff (e f : Wp) : wpEq e f = true ↔ e = f := by
  obtain ⟨a, b, c, d⟩ := e
  obtain ⟨a', b', c', d'⟩ := f
  unfold wpEq
  simp only [Bool.and_eq_true, beq_iff_eq, Wp.mk.injEq, and_assoc]
theorem wrap_eqIn (e f : Wp) (he : e.data.length = 48) (hf : f.data.length = 48) (wx : World) : (Op.equalIn 10000 100 (.agg e.cells.toArray) (.agg f.cells.toArray)).run Tryd.prog wx = .ok (wpEq e f) wx := by
  obtain ⟨_, q1, q2, q3, _⟩ := wp_parts e he
  obtain ⟨_, p1, p2, p3, _⟩ := wp_parts f hf
  have s1 := part_midE wx 32 2 _ e.cells 1 Tryd.underlying32 rfl sizeDot
  have s2 := part_midE wx 32 2 _ f.cells 1 Tryd.underlying32 rfl sizeDot
  have s3 := part_midE wx 98 48 _ e.cells 3 Tryd.underlying98 rfl sizeData
  have s4 := part_midE wx 98 48 _ f.cells 3 Tryd.underlying98 rfl sizeData
  rw [q2] at s1
  rw [p2] at s2
  rw [q3] at s3
  rw [p3] at s4
  rw [run_equalIn_struct wx 9999 100 _ _ wrap_under wrap_held]
  exact eqFields_3 wx _ _ _ _ _ _ _ _ _ (.int .u8 e.too) (.int .u8 f.too) _ _ _ _ _ _ _ (part_one wx _ _ e.cells 0 _ Tryd.underlying5 q1) (part_one wx _ _ f.cells 0 _ Tryd.underlying5 p1) s1 s2 s3 s4
    (run_equalIn_int wx 9998 5 .u8 .u8 e.too f.too Tryd.underlying5) (dot_eqIn 9997 _ _ _ _ wx) (run_equalIn_rows wx 9997 .u8 e.data f.data Tryd.underlying98 Tryd.underlying5 cells8 info8 he hf) _ wrap_fields
theorem wrap_neq (e f : Wp) (he : e.data.length = 48) (hf : f.data.length = 48) (wx : World) : (binOp BinOp.neq 100 (.agg e.cells.toArray) (.agg f.cells.toArray)).run Tryd.prog wx = .ok (.bool (!(wpEq e f))) wx := by
  rw [run_neq_struct, wrap_eqIn e f he hf]; rfl
end Go.Proofs.YtgcidamdbidgiaaDoor
