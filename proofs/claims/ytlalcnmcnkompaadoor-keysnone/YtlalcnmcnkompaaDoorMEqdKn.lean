/- Dots, keys, wraps: two of them compared. keys: what each call answers on no ring. -/
import Derived.Test.YtlalcnmcnkompaaDoorMAn2Ev0
import Derived.Test.YtlalcnmcnkompaaDoorMGate2Pa
import Derived.Laws.StructEq
import Derived.Test.YtlalcnmcnkompaaDoorMEvmKz3
namespace Go.Proofs.YtlalcnmcnkompaaDoor
open Go.RowKit
set_option maxRecDepth 20000
set_option linter.unusedSimpArgs false

theorem part_midE {P : Program} (w : World) (t : TypeId) (n : Nat) (d : TypeDesc) (cs : List Value) (off : Nat) (hu : P.underlying t = some d) (hd : (match d with | .struct _ | .array _ _ => true | _ => false) = true) (hi : (P.info? t).map (·.size) = some n) :
    (part t cs.toArray off).run P w = .ok (.agg ((cs.drop off).take n).toArray) w := by
  cases hq : P.info? t with
  | none => simp [hq] at hi
  | some i =>
    have hs : i.size = n := by simpa [hq] using hi
    cases d <;> simp_all [part, isAgg, run_underlying hu, sizeOf, typeInfo, List.extract]
theorem part_one {P : Program} (w : World) (t : TypeId) (k : IntKind) (cs : List Value) (off : Nat) (v : Value) (hu : P.underlying t = some (.int k)) (hv : cs[off]? = some v) : (part t cs.toArray off).run P w = .ok v w := by
  simp [part, isAgg, run_underlying hu, hv]
theorem eqFields_2 {P : Program} (w : World) (d : Nat) (xs ys : Array Value) (t1 t2 : TypeId) (o1 o2 : Nat) (a1 b1 a2 b2 : Value) (r1 r2 : Bool) (h1 : (part t1 xs o1).run P w = .ok a1 w) (k1 : (part t1 ys o1).run P w = .ok b1 w) (h2 : (part t2 xs o2).run P w = .ok a2 w) (k2 : (part t2 ys o2).run P w = .ok b2 w)
    (e1 : (Op.equalIn d t1 a1 b1).run P w = .ok r1 w) (e2 : (Op.equalIn d t2 a2 b2).run P w = .ok r2 w) : ∀ L : List Field, L.map (fun f => (f.name != "_", f.type, f.offset)) = [(true, t1, o1), (true, t2, o2)] → (Op.eqFields d xs ys L).run P w = .ok (r1 && r2) w
  | [], hf => by simp at hf
  | [_], hf => by simp at hf
  | _ :: _ :: _ :: _, hf => by simp at hf
  | [f, g], hf => by
    simp only [List.map_cons, List.map_nil, List.cons.injEq, Prod.mk.injEq, and_true, bne_iff_ne, ne_eq] at hf
    obtain ⟨⟨q1, q2, q3⟩, p1, p2, p3⟩ := hf
    cases r1 <;> cases r2 <;> simp only [Op.eqFields, q1, q2, q3, p1, p2, p3, ne_eq, not_false_eq_true, if_true, Sem.run_bind, h1, h2, k1, k2, e1, e2, Result.andThen_ok, Bool.not_true, Bool.not_false, Bool.false_eq_true, if_false, Sem.run_pure, Bool.and_true, Bool.and_false]
theorem eqFields_3 {P : Program} (w : World) (d : Nat) (xs ys : Array Value) (t1 t2 t3 : TypeId) (o1 o2 o3 : Nat) (a1 b1 a2 b2 a3 b3 : Value) (r1 r2 r3 : Bool) (h1 : (part t1 xs o1).run P w = .ok a1 w) (k1 : (part t1 ys o1).run P w = .ok b1 w) (h2 : (part t2 xs o2).run P w = .ok a2 w) (k2 : (part t2 ys o2).run P w = .ok b2 w) (h3 : (part t3 xs o3).run P w = .ok a3 w) (k3 : (part t3 ys o3).run P w = .ok b3 w)
    (e1 : (Op.equalIn d t1 a1 b1).run P w = .ok r1 w) (e2 : (Op.equalIn d t2 a2 b2).run P w = .ok r2 w) (e3 : (Op.equalIn d t3 a3 b3).run P w = .ok r3 w) : ∀ L : List Field, L.map (fun f => (f.name != "_", f.type, f.offset)) = [(true, t1, o1), (true, t2, o2), (true, t3, o3)] → (Op.eqFields d xs ys L).run P w = .ok (r1 && r2 && r3) w
  | [], hf => by simp at hf
  | [_], hf => by simp at hf
  | [_, _], hf => by simp at hf
  | _ :: _ :: _ :: _ :: _, hf => by simp at hf
  | [f, g, i], hf => by
    simp only [List.map_cons, List.map_nil, List.cons.injEq, Prod.mk.injEq, and_true, bne_iff_ne, ne_eq] at hf
    obtain ⟨⟨q1, q2, q3⟩, ⟨p1, p2, p3⟩, s1, s2, s3⟩ := hf
    cases r1 <;> cases r2 <;> cases r3 <;> simp only [Op.eqFields, q1, q2, q3, p1, p2, p3, s1, s2, s3, ne_eq, not_false_eq_true, if_true, Sem.run_bind, h1, h2, h3, k1, k2, k3, e1, e2, e3, Result.andThen_ok, Bool.not_true, Bool.not_false, Bool.false_eq_true, if_false, Sem.run_pure, Bool.and_true, Bool.and_false]
theorem dot_fields : (Tryd.prog.fieldsOf 36).toList.map (fun f => (f.name != "_", f.type, f.offset)) = [(true, 5, 0), (true, 34, 1)] := by kernel_rfl
theorem dot_under : Tryd.prog.underlying 36 = some (.struct (Tryd.prog.fieldsOf 36)) := by kernel_rfl
theorem dot_held : Tryd.prog.stoodInHeld 36 = false := by kernel_rfl
theorem dot_eqIn (d : Nat) (a s a' s' : Int) (wx : World) : (Op.equalIn (d + 1 + 1) 36 (.agg (dotC a s).toArray) (.agg (dotC a' s').toArray)).run Tryd.prog wx = .ok ((a == a') && (s == s')) wx := by
  rw [run_equalIn_struct wx _ 36 _ _ dot_under dot_held]
  exact eqFields_2 wx _ _ _ _ _ _ _ (.int .u8 a) (.int .u8 a') (.int .u32 s) (.int .u32 s') _ _ (part_one wx _ _ (dotC a s) 0 _ Tryd.underlying5 rfl) (part_one wx _ _ (dotC a' s') 0 _ Tryd.underlying5 rfl) (part_one wx _ _ (dotC a s) 1 _ Tryd.underlying34 rfl) (part_one wx _ _ (dotC a' s') 1 _ Tryd.underlying34 rfl)
    (run_equalIn_int wx d 5 .u8 .u8 a a' Tryd.underlying5) (run_equalIn_int wx d 34 .u32 .u32 s s' Tryd.underlying34) _ dot_fields
theorem dot_eql (a s a' s' : Int) (wx : World) : (binOp BinOp.eql 36 (.agg (dotC a s).toArray) (.agg (dotC a' s').toArray)).run Tryd.prog wx = .ok (.bool ((a == a') && (s == s'))) wx := by
  rw [run_eql_struct, dot_eqIn 9998]; rfl
theorem dot_neq (a s a' s' : Int) (wx : World) : (binOp BinOp.neq 36 (.agg (dotC a s).toArray) (.agg (dotC a' s').toArray)).run Tryd.prog wx = .ok (.bool (!((a == a') && (s == s')))) wx := by
  rw [run_neq_struct, dot_eqIn 9998]; rfl
theorem cells8 : Tryd.prog.cellsOf 5 = 1 := by kernel_rfl
theorem info8 : (Tryd.prog.info? 5).isSome = true := by kernel_rfl
theorem key_eqIn (d : Nat) (l m : List Int) (hl : l.length = 32) (hm : m.length = 32) (wx : World) : (Op.equalIn (d + 1 + 1) 23 (.agg (l.map (Value.int .u8)).toArray) (.agg (m.map (Value.int .u8)).toArray)).run Tryd.prog wx = .ok (l == m) wx :=
  run_equalIn_rows wx d .u8 l m Tryd.underlying23 Tryd.underlying5 cells8 info8 hl hm
theorem key_eql (l m : List Int) (hl : l.length = 32) (hm : m.length = 32) (wx : World) : (binOp BinOp.eql 23 (.agg (l.map (Value.int .u8)).toArray) (.agg (m.map (Value.int .u8)).toArray)).run Tryd.prog wx = .ok (.bool (l == m)) wx := by
  rw [run_eql_struct, key_eqIn 9998 l m hl hm]; rfl
theorem key_neq (l m : List Int) (hl : l.length = 32) (hm : m.length = 32) (wx : World) : (binOp BinOp.neq 23 (.agg (l.map (Value.int .u8)).toArray) (.agg (m.map (Value.int .u8)).toArray)).run Tryd.prog wx = .ok (.bool (!(l == m))) wx := by
  rw [run_neq_struct, key_eqIn 9998 l m hl hm]; rfl
theorem wrap_fields : (Tryd.prog.fieldsOf 39).toList.map (fun f => (f.name != "_", f.type, f.offset)) = [(true, 5, 0), (true, 36, 1), (true, 37, 3)] := by kernel_rfl
theorem wrap_under : Tryd.prog.underlying 39 = some (.struct (Tryd.prog.fieldsOf 39)) := by kernel_rfl
theorem wrap_held : Tryd.prog.stoodInHeld 39 = false := by kernel_rfl
theorem sizeData : (Tryd.prog.info? 37).map (·.size) = some 48 := by kernel_rfl
def wpEq (e f : Wp) : Bool := (e.too == f.too) && ((e.ea == f.ea) && (e.es == f.es)) && (e.data == f.data)
theorem wpEq_iff (e f : Wp) : wpEq e f = true ↔ e = f := by
  obtain ⟨a, b, c, d⟩ := e
  obtain ⟨a', b', c', d'⟩ := f
  unfold wpEq
  simp only [Bool.and_eq_true, beq_iff_eq, Wp.mk.injEq, and_assoc]
theorem wrap_eqIn (e f : Wp) (he : e.data.length = 48) (hf : f.data.length = 48) (wx : World) : (Op.equalIn 10000 39 (.agg e.cells.toArray) (.agg f.cells.toArray)).run Tryd.prog wx = .ok (wpEq e f) wx := by
  obtain ⟨_, q1, q2, q3, _⟩ := wp_parts e he
  obtain ⟨_, p1, p2, p3, _⟩ := wp_parts f hf
  have s1 := part_midE wx 36 2 _ e.cells 1 Tryd.underlying36 rfl sizeDot
  have s2 := part_midE wx 36 2 _ f.cells 1 Tryd.underlying36 rfl sizeDot
  have s3 := part_midE wx 37 48 _ e.cells 3 Tryd.underlying37 rfl sizeData
  have s4 := part_midE wx 37 48 _ f.cells 3 Tryd.underlying37 rfl sizeData
  rw [q2] at s1
  rw [p2] at s2
  rw [q3] at s3
  rw [p3] at s4
  rw [run_equalIn_struct wx 9999 39 _ _ wrap_under wrap_held]
  exact eqFields_3 wx _ _ _ _ _ _ _ _ _ (.int .u8 e.too) (.int .u8 f.too) _ _ _ _ _ _ _ (part_one wx _ _ e.cells 0 _ Tryd.underlying5 q1) (part_one wx _ _ f.cells 0 _ Tryd.underlying5 p1) s1 s2 s3 s4
    (run_equalIn_int wx 9998 5 .u8 .u8 e.too f.too Tryd.underlying5) (dot_eqIn 9997 _ _ _ _ wx) (run_equalIn_rows wx 9997 .u8 e.data f.data Tryd.underlying37 Tryd.underlying5 cells8 info8 he hf) _ wrap_fields
theorem wrap_neq (e f : Wp) (he : e.data.length = 48) (hf : f.data.length = 48) (wx : World) : (binOp BinOp.neq 39 (.agg e.cells.toArray) (.agg f.cells.toArray)).run Tryd.prog wx = .ok (.bool (!(wpEq e f))) wx := by
  rw [run_neq_struct, wrap_eqIn e f he hf]; rfl
end Go.Proofs.YtlalcnmcnkompaaDoor

namespace Go.Proofs.YtlalcnmcnkompaaDoor
open Go.RowKit
set_option maxRecDepth 20000
set_option linter.unusedSimpArgs false

def z32 : List Int := List.replicate 32 0
theorem zkey_built (w : World) : (Instr.build 23 #[]).run Tryd.prog w = .ok (.agg (row .u8 z32)) w := by kernel_rfl
theorem zdot_built (w : World) : (Instr.build 36 #[]).run Tryd.prog w = .ok (.agg (dotC 0 0).toArray) w := by kernel_rfl

set_option maxHeartbeats 1000000 in
theorem nOwn (w : World) :
    Calls Tryd.prog 12 #[.pointer none] w fun e w' => e = .returned (.int .u8 0) ∧ Below w.heap.size w w' := by
  go_enter Tryd.func12, Tryd.ntmps12
  go_wp2
  go_ret
  exact ⟨rfl, Below.refl _ _⟩
set_option maxHeartbeats 1000000 in
theorem nAdd (a s : Int) (k : List Int) (w : World) :
    Calls Tryd.prog 17 #[.pointer none, .agg (dotC a s).toArray, .agg (row .u8 k)] w fun e w' => e = .returned (.int .i64 1) ∧ Below w.heap.size w w' := by
  go_enter Tryd.func17, Tryd.ntmps17
  go_wp2
  go_ret
  exact ⟨rfl, ((Below.refl _ _).alloc (Nat.le_refl _) _).alloc (by simp) _⟩
set_option maxHeartbeats 1000000 in
theorem nEpochs (w : World) :
    Calls Tryd.prog 25 #[.pointer none] w fun e w' => e = .returned (.slice none 0 0) ∧ Below w.heap.size w w' := by
  go_enter Tryd.func25, Tryd.ntmps25
  go_wp2
  go_ret
  exact ⟨rfl, Below.refl _ _⟩
set_option maxHeartbeats 1000000 in
theorem nFork (w : World) :
    Calls Tryd.prog 27 #[.pointer none] w fun e w' => e = .returned (.pointer none) ∧ Below w.heap.size w w' := by
  go_enter Tryd.func27, Tryd.ntmps27
  go_wp2
  go_ret
  exact ⟨rfl, Below.refl _ _⟩
set_option maxHeartbeats 1000000 in
theorem nRefuse (o : Int) (w : World) :
    Calls Tryd.prog 31 #[.pointer none, .int .u8 o] w fun e w' => e = .returned (.int .i64 1) ∧ Below w.heap.size w w' := by
  go_enter Tryd.func31, Tryd.ntmps31
  go_wp2
  go_ret
  exact ⟨rfl, Below.refl _ _⟩
set_option maxHeartbeats 1000000 in
theorem nPair (p q : Int) (w : World) :
    Calls Tryd.prog 13 #[.pointer none, .int .u8 p, .int .u8 q] w fun e w' => e = .returned (.agg (row .u8 z32)) ∧ Below w.heap.size w w' := by
  obtain ⟨Z, hZl, hZ, hZb⟩ : ∃ Z : List Int, Z.length = 32 ∧ z32 = Z ∧ ∀ wx, (Instr.build 23 #[]).run Tryd.prog wx = .ok (.agg (row .u8 Z)) wx := ⟨_, rfl, rfl, zkey_built⟩
  have HZb := Veil.mk hZb
  have hB : Below w.heap.size w (w.alloc (.cells (row .u8 z32) 23)) := (Below.refl _ _).alloc (Nat.le_refl _) _
  have hr0 := Holds.new w .u8 23 z32
  skip
  rw [hZ]
  clear hZb
  go_enter Tryd.func13, Tryd.ntmps13
  go_upto_region 1 with fail
  refine forget (p := fun y => Code.wp _ _ _ _ y) (fun W => Below w.heap.size w W ∧ Holds W (w.heap.size) .u8 23 Z) ⟨hB, by rw [← hZ]; exact hr0⟩ ?_
  clear hB hr0 hZ
  rintro W ⟨hB, hr0⟩
  go_wp2_with (first
    | (refine wpList_bldx rfl 23 _ rfl #[] (by first | rfl | kernel_rfl) _ (HZb.out _) ?_)
    | (refine wpList_st rfl 23 _ _ rfl _ rfl rfl hr0 (by rw [hZl]; exact sizeKeyD) rfl ?_))
  refine bodyPost_ret (results_holds (Tryd.results13) _ rfl (hr0.setRow _) Tryd.underlying23 sizeKeyD hZl) rfl ⟨rfl, ?_⟩
  exact below_setRow hB (by omega) _
set_option maxHeartbeats 1000000 in
theorem nMac (p : Int) (w : World) :
    Calls Tryd.prog 15 #[.pointer none, .int .u8 p] w fun e w' => e = .returned (.agg (row .u8 z32)) ∧ Below w.heap.size w w' := by
  obtain ⟨Z, hZl, hZ, hZb⟩ : ∃ Z : List Int, Z.length = 32 ∧ z32 = Z ∧ ∀ wx, (Instr.build 23 #[]).run Tryd.prog wx = .ok (.agg (row .u8 Z)) wx := ⟨_, rfl, rfl, zkey_built⟩
  have HZb := Veil.mk hZb
  have hB : Below w.heap.size w (w.alloc (.cells (row .u8 z32) 23)) := (Below.refl _ _).alloc (Nat.le_refl _) _
  have hr0 := Holds.new w .u8 23 z32
  skip
  rw [hZ]
  clear hZb
  go_enter Tryd.func15, Tryd.ntmps15
  go_upto_region 1 with fail
  refine forget (p := fun y => Code.wp _ _ _ _ y) (fun W => Below w.heap.size w W ∧ Holds W (w.heap.size) .u8 23 Z) ⟨hB, by rw [← hZ]; exact hr0⟩ ?_
  clear hB hr0 hZ
  rintro W ⟨hB, hr0⟩
  go_wp2_with (first
    | (refine wpList_bldx rfl 23 _ rfl #[] (by first | rfl | kernel_rfl) _ (HZb.out _) ?_)
    | (refine wpList_st rfl 23 _ _ rfl _ rfl rfl hr0 (by rw [hZl]; exact sizeKeyD) rfl ?_))
  refine bodyPost_ret (results_holds (Tryd.results15) _ rfl (hr0.setRow _) Tryd.underlying23 sizeKeyD hZl) rfl ⟨rfl, ?_⟩
  exact below_setRow hB (by omega) _
set_option maxHeartbeats 1000000 in
theorem nKey (a s : Int) (w : World) :
    Calls Tryd.prog 19 #[.pointer none, .agg (dotC a s).toArray] w fun e w' => e = .returned (.tuple #[.agg (row .u8 z32), .bool false]) ∧ Below w.heap.size w w' := by
  obtain ⟨Z, hZl, hZ, hZb⟩ : ∃ Z : List Int, Z.length = 32 ∧ z32 = Z ∧ ∀ wx, (Instr.build 23 #[]).run Tryd.prog wx = .ok (.agg (row .u8 Z)) wx := ⟨_, rfl, rfl, zkey_built⟩
  have HZb := Veil.mk hZb
  have hB : Below w.heap.size w ((w.alloc (.cells (dotC a s).toArray 36)).alloc (.cells (row .u8 z32) 23)) := ((Below.refl _ _).alloc (Nat.le_refl _) _).alloc (by simp) _
  have hr0 := Holds.new (w.alloc (.cells (dotC a s).toArray 36)) .u8 23 z32
  rw [World.size_alloc] at hr0
  rw [hZ]
  clear hZb
  go_enter Tryd.func19, Tryd.ntmps19
  go_upto_region 1 with fail
  refine forget (p := fun y => Code.wp _ _ _ _ y) (fun W => Below w.heap.size w W ∧ Holds W (w.heap.size + 1) .u8 23 Z) ⟨hB, by rw [← hZ]; exact hr0⟩ ?_
  clear hB hr0 hZ
  rintro W ⟨hB, hr0⟩
  go_wp2_with (first
    | (refine wpList_bldx rfl 23 _ rfl #[] (by first | rfl | kernel_rfl) _ (HZb.out _) ?_)
    | (refine wpList_st rfl 23 _ _ rfl _ rfl rfl hr0 (by rw [hZl]; exact sizeKeyD) rfl ?_))
  refine bodyPost_ret (results_ct (Tryd.results19) _ rfl rfl (hr0.setRow Z).cellsAt Tryd.underlying23 rfl (by rw [List.length_map, hZl]; exact sizeKeyD)) rfl ⟨rfl, ?_⟩
  exact below_setRow hB (by omega) _
set_option maxHeartbeats 1000000 in
theorem nFrame (a s p : Int) (w : World) :
    Calls Tryd.prog 26 #[.pointer none, .agg (dotC a s).toArray, .int .u8 p] w fun e w' => e = .returned (.tuple #[.agg (row .u8 z32), .int .i64 1]) ∧ Below w.heap.size w w' := by
  obtain ⟨Z, hZl, hZ, hZb⟩ : ∃ Z : List Int, Z.length = 32 ∧ z32 = Z ∧ ∀ wx, (Instr.build 23 #[]).run Tryd.prog wx = .ok (.agg (row .u8 Z)) wx := ⟨_, rfl, rfl, zkey_built⟩
  have HZb := Veil.mk hZb
  have hB : Below w.heap.size w ((w.alloc (.cells (dotC a s).toArray 36)).alloc (.cells (row .u8 z32) 23)) := ((Below.refl _ _).alloc (Nat.le_refl _) _).alloc (by simp) _
  have hr0 := Holds.new (w.alloc (.cells (dotC a s).toArray 36)) .u8 23 z32
  rw [World.size_alloc] at hr0
  rw [hZ]
  clear hZb
  go_enter Tryd.func26, Tryd.ntmps26
  go_upto_region 1 with fail
  refine forget (p := fun y => Code.wp _ _ _ _ y) (fun W => Below w.heap.size w W ∧ Holds W (w.heap.size + 1) .u8 23 Z) ⟨hB, by rw [← hZ]; exact hr0⟩ ?_
  clear hB hr0 hZ
  rintro W ⟨hB, hr0⟩
  go_wp2_with (first
    | (refine wpList_bldx rfl 23 _ rfl #[] (by first | rfl | kernel_rfl) _ (HZb.out _) ?_)
    | (refine wpList_st rfl 23 _ _ rfl _ rfl rfl hr0 (by rw [hZl]; exact sizeKeyD) rfl ?_))
  refine bodyPost_ret (results_ct (Tryd.results26) _ rfl rfl (hr0.setRow Z).cellsAt Tryd.underlying23 rfl (by rw [List.length_map, hZl]; exact sizeKeyD)) rfl ⟨rfl, ?_⟩
  exact below_setRow hB (by omega) _
set_option maxHeartbeats 1000000 in
theorem nHas (a s : Int) (w : World) :
    Calls Tryd.prog 20 #[.pointer none, .agg (dotC a s).toArray] w fun e w' => e = .returned (.bool false) ∧ Below w.heap.size w w' := by
  have hB : Below w.heap.size w (w.alloc (.cells (dotC a s).toArray 36)) := (Below.refl _ _).alloc (Nat.le_refl _) _
  have hd0 := CellsAt.new w 36 (dotC a s)
  have rD := hd0.range 0 2
  rw [show ((dotC a s).drop 0).take 2 = dotC a s from rfl] at rD
  have hk := nKey a s (w.alloc (.cells (dotC a s).toArray 36))
  obtain ⟨Z, hZl, hZ⟩ : ∃ Z : List Int, Z.length = 32 ∧ z32 = Z := ⟨_, rfl, rfl⟩
  rw [hZ] at hk
  clear hZ
  go_enter Tryd.func20, Tryd.ntmps20
  go_wp2_with (first
    | (refine wpList_ldv rfl 36 _ rfl _ _ rfl (dotC a s) rD Tryd.underlying36 rfl sizeDotK ?_)
    | (go_at_call 19; refine hk.mono ?_; rintro e w1 ⟨rfl, hb1⟩; have hA1 := Holds.new w1 .u8 23 (List.replicate 32 0))
    | (refine wpList_st rfl 23 _ _ rfl _ rfl rfl hA1 (by rw [hZl]; exact sizeKeyD) (by rw [hZl]; rfl) ?_))
  go_ret
  have hB1 := hB.trans (hb1.mono hB.size)
  exact ⟨rfl, below_setRow (hB1.alloc hB1.size _) hB1.size _⟩
set_option maxHeartbeats 1000000 in
theorem nUnwrap (p : Int) (E : Wp) (w : World) :
    Calls Tryd.prog 21 #[.pointer none, .int .u8 p, .agg E.cells.toArray] w fun e w' => e = .returned (.int .i64 1) ∧ Below w.heap.size w w' := by
  have hB : Below w.heap.size w (w.alloc (.cells E.cells.toArray 39)) := (Below.refl _ _).alloc (Nat.le_refl _) _
  have hr := nRefuse p (w.alloc (.cells E.cells.toArray 39))
  go_enter Tryd.func21, Tryd.ntmps21
  go_wp2_with (go_at_call 31; refine hr.mono ?_; rintro e w1 ⟨rfl, hb1⟩)
  go_ret
  exact ⟨rfl, hB.trans (hb1.mono hB.size)⟩
set_option maxHeartbeats 4000000 in
theorem nWrap (t a s : Int) (w : World) :
    Calls Tryd.prog 18 #[.pointer none, .int .u8 t, .agg (dotC a s).toArray] w fun e w' => e = .returned (.tuple #[.agg wz.cells.toArray, .int .i64 1]) ∧ Below w.heap.size w w' := by
  obtain ⟨Z, hZl, hZ1, hZ, hZb⟩ : ∃ Z : List Value, Z.length = 51 ∧ (∀ u ∈ Z, u.oneCell' = true) ∧ wz.cells = Z ∧ ∀ wx, (Instr.build 39 #[]).run Tryd.prog wx = .ok (.agg Z.toArray) wx := ⟨_, rfl, wp_cells_one wz, rfl, wz_built⟩
  have HZb := Veil.mk hZb
  have hB : Below w.heap.size w ((w.alloc (.cells (dotC a s).toArray 36)).alloc (.cells wz.cells.toArray 39)) := ((Below.refl _ _).alloc (Nat.le_refl _) _).alloc (by simp) _
  have hr0 := CellsAt.new (w.alloc (.cells (dotC a s).toArray 36)) 39 wz.cells
  rw [World.size_alloc] at hr0
  rw [hZ]
  clear hZb
  go_enter Tryd.func18, Tryd.ntmps18
  go_upto_region 1 with fail
  refine forget (p := fun y => Code.wp _ _ _ _ y) (fun W => Below w.heap.size w W ∧ CellsAt W (w.heap.size + 1) 39 Z) ⟨hB, by rw [← hZ]; exact hr0⟩ ?_
  clear hB hr0 hZ
  rintro W ⟨hB, hr0⟩
  have hf := nRefuse t W
  have HR : Veil (∀ W1, Below W.heap.size W W1 → CellsAt W1 (w.heap.size + 1) 39 Z) := ⟨fun W1 hb => hr0.congr (hb.block _ hr0.lt)⟩
  go_wp2_with (first
    | (go_at_call 31; refine hf.mono ?_; rintro e w1 ⟨rfl, hb1⟩; have hr1 := HR.out w1 hb1)
    | (refine wpList_bldx rfl 39 _ rfl #[] (by first | rfl | kernel_rfl) _ (HZb.out _) ?_)
    | (refine wpList_stv rfl 39 _ _ rfl _ rfl rfl hr1 (by rw [hZl]; exact sizeWrapK) rfl hZ1 ?_))
  refine bodyPost_ret (results_ct (Tryd.results18) _ rfl rfl (hr1.setRow Z) Tryd.underlying39 rfl (by rw [hZl]; exact sizeWrapK)) rfl ⟨rfl, ?_⟩
  exact below_setRow (hB.trans (hb1.mono hB.size)) (by omega) _
set_option maxHeartbeats 1000000 in
theorem nNow (w : World) :
    Calls Tryd.prog 24 #[.pointer none] w fun e w' => e = .returned (.tuple #[.agg (dotC 0 0).toArray, .bool false]) ∧ Below w.heap.size w w' := by
  have hB : Below w.heap.size w (w.alloc (.cells (dotC 0 0).toArray 36)) := (Below.refl _ _).alloc (Nat.le_refl _) _
  have hr0 := CellsAt.new w 36 (dotC 0 0)
  go_enter Tryd.func24, Tryd.ntmps24
  go_upto_region 1 with fail
  refine forget (p := fun y => Code.wp _ _ _ _ y) (fun W => Below w.heap.size w W ∧ CellsAt W w.heap.size 36 (dotC 0 0)) ⟨hB, hr0⟩ ?_
  clear hB hr0
  rintro W ⟨hB, hr0⟩
  have HBZ := Veil.mk zdot_built
  go_wp2_with (first
    | (refine wpList_bldx rfl 36 _ rfl #[] (by first | rfl | kernel_rfl) _ (HBZ.out _) ?_)
    | (refine wpList_stv rfl 36 _ _ rfl _ rfl rfl hr0 sizeDotK rfl (dot_oneK 0 0) ?_))
  refine bodyPost_ret (results_ct (Tryd.results24) _ rfl rfl (hr0.setRow (dotC 0 0)) Tryd.underlying36 rfl sizeDotK) rfl ⟨rfl, ?_⟩
  exact below_setRow hB (Nat.le_refl _) _
end Go.Proofs.YtlalcnmcnkompaaDoor
