/- Dots, keys, wraps: two of them compared. Which events are right: 'noMember', 'noText', 'rightDot' of causal. A guarded load of many cells, the guard on; a key's size. -/
import Derived.Test.YtgmbmdmbnpkbbaaEv0
import Derived.Test.YtgmbmdmbnpkbbaaMGateGate2
import Derived.Laws.StructEq
import Derived.Test.YtgmbmdmbnpkbbaaMMpCv1
namespace Go.Proofs.Ytgmbmdmbnpkbbaa
open Go.RowKit
set_option maxRecDepth 20000
set_option linter.unusedSimpArgs false

theorem part_midE {P : Program} (w : World) (t : TypeId) (n : Nat) (d : TypeDesc) (cs : List Value) (off : Nat) (hu : P.underlying t = some d) (hd : (match d with | .struct _ | .array _ _ => true | _ => false) = true) (hi : (P.info? t).map (·.size) = some n) :
    (part t cs.toArray off).run P w = .ok (.agg ((cs.drop off).take n).toArray) w := by
  cases hq : P.info? t with
  | none => simp [hq] at hi
  | some i =>
    have hs : i.size = n := by simpa [hq] using hi
    cases d <;> simp_all [part, isAgg, run_underlying hu, sizeOf, typeInfo, List.extract]
theorem part_one {P : Program} (w : World) (t : TypeId) (k : IntKind) (cs : List Value) (off : Nat) (v : Value) (hu : P.underlying t = some (.int k)) (hv : cs[off]? = some v) : (part t cs.toArray off).run P w = .ok v w := by
  simp [part, isAgg, run_underlying hu, hv]
theorem eqFields_2 {P : Program} (w : World) (d : Nat) (xs ys : Array Value) (t1 t2 : TypeId) (o1 o2 : Nat) (a1 b1 a2 b2 : Value) (r1 r2 : Bool) (h1 : (part t1 xs o1).run P w = .ok a1 w) (k1 : (part t1 ys o1).run P w = .ok b1 w) (h2 : (part t2 xs o2).run P w = .ok a2 w) (k2 : (part t2 ys o2).run P w = .ok b2 w)
    (e1 : (Op.equalIn d t1 a1 b1).run P w = .ok r1 w) (e2 : (Op.equalIn d t2 a2 b2).run P w = .ok r2 w) : ∀ L : List Field, L.map (fun f => (f.name != "_", f.type, f.offset)) = [(true, t1, o1), (true, t2, o2)] → (Op.eqFields d xs ys L).run P w = .ok (r1 && r2) w
  | [], hf => by simp at hf
  | [_], hf => by simp at hf
  | _ :: _ :: _ :: _, hf => by simp at hf
  | [f, g], hf => by
    simp only [List.map_cons, List.map_nil, List.cons.injEq, Prod.mk.injEq, and_true, bne_iff_ne, ne_eq] at hf
    obtain ⟨⟨q1, q2, q3⟩, p1, p2, p3⟩ := hf
    cases r1 <;> cases r2 <;> simp only [Op.eqFields, q1, q2, q3, p1, p2, p3, ne_eq, not_false_eq_true, if_true, Sem.run_bind, h1, h2, k1, k2, e1, e2, Result.andThen_ok, Bool.not_true, Bool.not_false, Bool.false_eq_true, if_false, Sem.run_pure, Bool.and_true, Bool.and_false]
theorem eqFields_3 {P : Program} (w : World) (d : Nat) (xs ys : Array Value) (t1 t2 t3 : TypeId) (o1 o2 o3 : Nat) (a1 b1 a2 b2 a3 b3 : Value) (r1 r2 r3 : Bool) (h1 : (part t1 xs o1).run P w = .ok a1 w) (k1 : (part t1 ys o1).run P w = .ok b1 w) (h2 : (part t2 xs o2).run P w = .ok a2 w) (k2 : (part t2 ys o2).run P w = .ok b2 w) (h3 : (part t3 xs o3).run P w = .ok a3 w) (k3 : (part t3 ys o3).run P w = .ok b3 w)
    (e1 : (Op.equalIn d t1 a1 b1).run P w = .ok r1 w) (e2 : (Op.equalIn d t2 a2 b2).run P w = .ok r2 w) (e3 : (Op.equalIn d t3 a3 b3).run P w = .ok r3 w) : ∀ L : List Field, L.map (fun f => (f.name != "_", f.type, f.offset)) = [(true, t1, o1), (true, t2, o2), (true, t3, o3)] → (Op.eqFields d xs ys L).run P w = .ok (r1 && r2 && r3) w
  | [], hf => by simp at hf
  | [_], hf => by simp at hf
  | [_, _], hf => by simp at hf
  | _ :: _ :: _ :: _ :: _, hf => by simp at hf
  | [f, g, i], hf => by
    simp only [List.map_cons, List.map_nil, List.cons.injEq, Prod.mk.injEq, and_true, bne_iff_ne, ne_eq] at hf
    obtain ⟨⟨q1, q2, q3⟩, ⟨p1, p2, p3⟩, s1, s2, s3⟩ := hf
    cases r1 <;> cases r2 <;> cases r3 <;> simp only [Op.eqFields, q1, q2, q3, p1, p2, p3, s1, s2, s3, ne_eq, not_false_eq_true, if_true, Sem.run_bind, h1, h2, h3, k1, k2, k3, e1, e2, e3, Result.andThen_ok, Bool.not_true, Bool.not_false, Bool.false_eq_true, if_false, Sem.run_pure, Bool.and_true, Bool.and_false]
theorem dot_fields : (Try.prog.fieldsOf 26).toList.map (fun f => (f.name != "_", f.type, f.offset)) = [(true, 5, 0), (true, 24, 1)] := by kernel_rfl
theorem dot_under : Try.prog.underlying 26 = some (.struct (Try.prog.fieldsOf 26)) := by kernel_rfl
theorem dot_held : Try.prog.stoodInHeld 26 = false := by kernel_rfl
theorem dot_eqIn (d : Nat) (a s a' s' : Int) (wx : World) : (Op.equalIn (d + 1 + 1) 26 (.agg (dotC a s).toArray) (.agg (dotC a' s').toArray)).run Try.prog wx = .ok ((a == a') && (s == s')) wx := by
  rw [run_equalIn_struct wx _ 26 _ _ dot_under dot_held]
  exact eqFields_2 wx _ _ _ _ _ _ _ (.int .u8 a) (.int .u8 a') (.int .u32 s) (.int .u32 s') _ _ (part_one wx _ _ (dotC a s) 0 _ Try.underlying5 rfl) (part_one wx _ _ (dotC a' s') 0 _ Try.underlying5 rfl) (part_one wx _ _ (dotC a s) 1 _ Try.underlying24 rfl) (part_one wx _ _ (dotC a' s') 1 _ Try.underlying24 rfl)
    (run_equalIn_int wx d 5 .u8 .u8 a a' Try.underlying5) (run_equalIn_int wx d 24 .u32 .u32 s s' Try.underlying24) _ dot_fields
theorem dot_eql (a s a' s' : Int) (wx : World) : (binOp BinOp.eql 26 (.agg (dotC a s).toArray) (.agg (dotC a' s').toArray)).run Try.prog wx = .ok (.bool ((a == a') && (s == s'))) wx := by
  rw [run_eql_struct, dot_eqIn 9998]; rfl
theorem dot_neq (a s a' s' : Int) (wx : World) : (binOp BinOp.neq 26 (.agg (dotC a s).toArray) (.agg (dotC a' s').toArray)).run Try.prog wx = .ok (.bool (!((a == a') && (s == s')))) wx := by
  rw [run_neq_struct, dot_eqIn 9998]; rfl
theorem cells8 : Try.prog.cellsOf 5 = 1 := by kernel_rfl
theorem info8 : (Try.prog.info? 5).isSome = true := by kernel_rfl
end Go.Proofs.Ytgmbmdmbnpkbbaa

namespace Go.Proofs.Ytgmbmdmbnpkbbaa
open Go.RowKit
set_option maxRecDepth 20000
set_option linter.unusedSimpArgs false

/-- An event's number of a member, and role, are none. -/
def noMemB (e : Ev) : Bool := (e.who == 0) && (e.role == 0)
/-- An event says nothing of a text. -/
def noTextB (e : Ev) : Bool := ((e.pa == 0) && (e.ps == 0)) && (!e.right && (e.char == 0))
theorem ev_cell15 (e : Ev) (hp : e.past.length = 8) : e.cells[13]? = some (.bool e.right) ∧ e.cells[14]? = some (.int .u8 e.char) ∧ e.cells[15]? = some (.int .u8 e.who) ∧ e.cells[16]? = some (.int .u8 e.role) ∧ e.cells.length = 17 := by
  obtain ⟨da, ds, past, kind, pa, ps, right, char, who, role⟩ := e
  match past, hp with
  | [_, _, _, _, _, _, _, _], _ => exact ⟨rfl, rfl, rfl, rfl, rfl⟩
set_option maxHeartbeats 1000000 in
theorem cnoMem_any (e : Ev) (w : World) (hp : e.past.length = 8) :
    Calls Try.prog 56 #[.agg e.cells.toArray] w fun x w' => x = .returned (.bool (noMemB e)) ∧ Below w.heap.size w w' := by
  have h0 := CellsAt.new w 32 e.cells
  have hB : Below w.heap.size w (w.alloc (.cells e.cells.toArray 32)) := (Below.refl _ _).alloc (Nat.le_refl _) _
  obtain ⟨_, _, q15, q16, _⟩ := ev_cell15 e hp
  have c15 := (h0.cell 15).trans q15
  have c16 := (h0.cell 16).trans q16
  have HH : Veil (noMemB e = ((e.who == 0) && (e.role == 0))) := ⟨rfl⟩
  obtain ⟨wo, hwo⟩ : ∃ q, e.who = q := ⟨_, rfl⟩
  obtain ⟨ro, hro⟩ : ∃ q, e.role = q := ⟨_, rfl⟩
  rw [hwo] at c15 HH
  rw [hro] at c16 HH
  clear q15 q16 hwo hro h0
  by_cases k1 : wo = 0
  · subst k1
    go_enter Try.func56, Try.ntmps56
    go_upto_region 1 with fail
    refine forget (p := fun y => Code.wp _ _ _ _ y) (fun W => Below w.heap.size w W ∧ W.cell? ⟨w.heap.size, 15, none⟩ = some (.int .u8 0) ∧ W.cell? ⟨w.heap.size, 16, none⟩ = some (.int .u8 ro)) ⟨hB, c15, c16⟩ ?_
    clear hB c15 c16
    rintro W ⟨hB, c15, c16⟩
    go_wp2
    go_ret
    exact ⟨by rw [HH.out]; rfl, hB⟩
  · have k1' : (wo == 0) = false := by simpa using k1
    go_enter Try.func56, Try.ntmps56
    go_upto_region 1 with fail
    refine forget (p := fun y => Code.wp _ _ _ _ y) (fun W => Below w.heap.size w W ∧ W.cell? ⟨w.heap.size, 15, none⟩ = some (.int .u8 wo) ∧ W.cell? ⟨w.heap.size, 16, none⟩ = some (.int .u8 ro)) ⟨hB, c15, c16⟩ ?_
    clear hB c15 c16
    rintro W ⟨hB, c15, c16⟩
    go_wp2
    go_ret
    exact ⟨by rw [HH.out, k1']; rfl, hB⟩
theorem ev_parent (e : Ev) (hp : e.past.length = 8) : (e.cells.drop 11).take 2 = dotC e.pa e.ps := (ev_parts e hp).2.2.2.1
theorem ev_past (e : Ev) (hp : e.past.length = 8) : (e.cells.drop 2).take 8 = e.past.map (Value.int .u32) := (ev_parts e hp).2.1
set_option maxHeartbeats 2000000 in
theorem cnoText_any (e : Ev) (w : World) (hp : e.past.length = 8) :
    Calls Try.prog 57 #[.agg e.cells.toArray] w fun x w' => x = .returned (.bool (noTextB e)) ∧ Below w.heap.size w w' := by
  have h0 := CellsAt.new w 32 e.cells
  have hB : Below w.heap.size w (w.alloc (.cells e.cells.toArray 32)) := (Below.refl _ _).alloc (Nat.le_refl _) _
  obtain ⟨q13, q14, _, _, _⟩ := ev_cell15 e hp
  have c13 := (h0.cell 13).trans q13
  have c14 := (h0.cell 14).trans q14
  have rg := h0.range 11 2
  rw [ev_parent e hp] at rg
  have heq : ∀ wx, (binOp BinOp.eql 26 (.agg (dotC e.pa e.ps).toArray) (.agg #[.int .u8 0, .int .u32 0])).run Try.prog wx = .ok (.bool ((e.pa == 0) && (e.ps == 0))) wx := fun wx => dot_eql e.pa e.ps 0 0 wx
  have HH : Veil (noTextB e = (((e.pa == 0) && (e.ps == 0)) && (!e.right && (e.char == 0)))) := ⟨rfl⟩
  obtain ⟨r, hr⟩ : ∃ q, ((e.pa == 0) && (e.ps == 0)) = q := ⟨_, rfl⟩
  simp only [hr] at heq
  rw [hr] at HH
  have hDl : (Try.prog.info? 26).map (·.size) = some (dotC e.pa e.ps).length := sizeDot
  obtain ⟨DP, hDP⟩ : ∃ q, dotC e.pa e.ps = q := ⟨_, rfl⟩
  rw [hDP] at rg hDl
  simp only [hDP] at heq
  obtain ⟨ri, hri⟩ : ∃ q, e.right = q := ⟨_, rfl⟩
  obtain ⟨ch, hch⟩ : ∃ q, e.char = q := ⟨_, rfl⟩
  rw [hri] at c13 HH
  rw [hch] at c14 HH
  have uD := Try.underlying26
  clear q13 q14 hri hch h0 hDP hr
  cases r <;> cases ri
  all_goals
    go_enter Try.func57, Try.ntmps57
    go_upto_region 1 with fail
    refine forget (p := fun y => Code.wp _ _ _ _ y) (fun W => Below w.heap.size w W ∧ W.cell? ⟨w.heap.size, 13, none⟩ = some (.bool _) ∧ W.cell? ⟨w.heap.size, 14, none⟩ = some (.int .u8 ch) ∧ W.rangeAt w.heap.size 11 DP) ⟨hB, c13, c14, rg⟩ ?_
    clear hB c13 c14 rg
    rintro W ⟨hB, c13, c14, rg⟩
    go_wp2_with (refine wpList_ldv rfl 26 _ rfl w.heap.size 11 rfl DP rg uD rfl hDl ?_)
    go_ret
    exact ⟨by rw [HH.out]; simp, hB⟩
end Go.Proofs.Ytgmbmdmbnpkbbaa

namespace Go.Proofs.Ytgmbmdmbnpkbbaa
open Go.RowKit
set_option maxRecDepth 20000

theorem wpList_ldgv {P : Program} {ops : Array Oper} {rest : List Oper} {o : Oper} {a : Act} {w : World} {Q : Exit → Act → World → Prop} {d : TypeDesc} (hw : Region.wanted o (yielded ops a.tmps) = true) (ty : TypeId) (x : Operand) (ho : o.op = .load ty x)
    (g off : Nat) (hx : a.eval x = .pointer (some ⟨g, off, none⟩)) (cs : List Value) (hg : w.rangeAt g off cs)
    (hu : P.underlying ty = some d) (hd : d.isRow = true) (hi : (P.info? ty).map (·.size) = some cs.length)
    (h : wpList P ops Q rest (a.put o.dst (.agg cs.toArray)) w) : wpList P ops Q (o :: rest) a w :=
  wpList_step fun K hK => by
    rw [if_pos hw]
    exact wp_load_mid ty x ho g off hx cs _ hg hu hd hi (hK _ _ h)
end Go.Proofs.Ytgmbmdmbnpkbbaa
