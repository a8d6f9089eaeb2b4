/- 'joined': parts one behind the other, in a list of their own. Blocks of mixed cells; dots and events as cells. -/
import Derived.Test.YtlalcnmcnkompaaDoorMGcAn1
import Derived.Test.YtlalcnmcnkompaaDoorMBaseKGk
import Derived.Deep.MidRow
namespace Go.Proofs.YtlalcnmcnkompaaDoor
open Go.RowKit
set_option maxRecDepth 20000
set_option linter.unusedSimpArgs false

/-- A part: a slice, and the bytes that it has. -/
structure Part where
  x : Option Addr
  len : Nat
  cap : Nat
  z : List Int
def Part.val (p : Part) : Value := .slice p.x p.len p.cap
def allZ (ps : List Part) : List Int := (ps.map (·.z)).flatten
def sumN (ps : List Part) : Nat := (allZ ps).length
theorem allZ_append (a b : List Part) : allZ (a ++ b) = allZ a ++ allZ b := by simp [allZ]
theorem allZ_take (ps : List Part) (j : Nat) (hj : j < ps.length) : allZ (ps.take (j + 1)) = allZ (ps.take j) ++ (ps[j]).z := by
  rw [List.take_succ_eq_append_getElem hj, allZ_append]; simp [allZ]
theorem allZ_le (ps : List Part) (j : Nat) : (allZ (ps.take j)).length ≤ (allZ ps).length := by
  have h : allZ (ps.take j) ++ allZ (ps.drop j) = allZ ps := by rw [← allZ_append, List.take_append_drop]
  have := congrArg List.length h
  rw [List.length_append] at this
  omega
/-- Block g holds the parts. -/
structure PartsAt (w : World) (g : Nat) (ps : List Part) : Prop where
  cell : ∀ j (hj : j < ps.length), w.cell? ⟨g, j, none⟩ = some (ps[j]).val
  has : ∀ j (hj : j < ps.length), Bytes w (ps[j]).x (ps[j]).len (ps[j]).cap (ps[j]).z
theorem PartsAt.below {w w' : World} {g : Nat} {ps : List Part} (h : PartsAt w g ps) (hb : Below w.heap.size w w') : PartsAt w' g ps :=
  ⟨fun j hj => (hb.cell (p := ⟨g, j, none⟩) (block_lt_of_cell (h.cell j hj))).trans (h.cell j hj), fun j hj => (h.has j hj).below hb⟩

theorem below_grown_new {w w' : World} (hg : w.grownBy w' none) : Below w.heap.size w w' := (Below.refl _ _).grown hg (Nat.le_refl _) (fun k hk => by cases hk)

set_option maxHeartbeats 2000000 in
theorem joined_any (g n : Nat) (ps : List Part) (w : World) (h : PartsAt w g ps) (hn : n = ps.length) (hn1 : n ≤ 1000) (hs : sumN ps ≤ 1000000) :
    Calls Tryd.prog 43 #[.slice (some ⟨g, 0, none⟩) n n] w fun e w' => ∃ v, e = .returned v ∧ OwnB w' w.heap.size v (allZ ps) ∧ Below w.heap.size w w' := by
  obtain ⟨i0, hi0, hz0, hz1, hz2⟩ := info_parts infoU8
  have HP : Veil (PartsAt w g ps) := ⟨h⟩
  have HN : Veil (n = ps.length) := ⟨hn⟩
  have HS : Veil (∀ j, (allZ (ps.take j)).length ≤ 1000000) := ⟨fun j => by have := allZ_le ps j; unfold sumN at hs; omega⟩
  clear h hn hs
  go_enter Tryd.func43, Tryd.ntmps43
  go_wp2_with fail
  go_loopw [3, 11] (fun sv jv wr => ∃ j : Nat, j ≤ n ∧ jv = .int .i64 j ∧ sv = .int .i64 ((allZ (ps.take j)).length : Int) ∧ wr = w) (fun _ jv _ => n - (intOf jv).toNat)
  case atStart => exact ⟨0, by omega, rfl, rfl, rfl⟩
  case round =>
    obtain ⟨j, hj, rfl, rfl, rfl⟩ := hrel
    by_cases hlt : j < n
    · have hl := HN.out
      have hc := HP.out.cell j (by omega)
      have hb := HP.out.has j (by omega)
      have ht := allZ_take ps j (by omega)
      have hs1 := HS.out (j + 1)
      rw [ht, List.length_append] at hs1
      have HT : Veil (((allZ (ps.take (j + 1))).length : Int) = ((allZ (ps.take j)).length : Int) + ((ps[j]'(by omega)).z.length : Int)) := ⟨by rw [ht, List.length_append]; omega⟩
      have hzl := hb.len_eq
      obtain ⟨p, hp⟩ : ∃ q, ps[j]'(by omega) = q := ⟨_, rfl⟩
      rw [hp] at hc HT hzl hs1
      obtain ⟨px, pl, pc, pz⟩ := p
      simp only [Part.val] at hc
      simp only at hzl HT hs1
      rw [← hzl] at HT hs1
      obtain ⟨A, hA⟩ : ∃ q, (allZ (ps.take j)).length = q := ⟨_, rfl⟩
      rw [hA] at HT hs1 ⊢
      have hw : IntKind.i64.wrap ((A : Int) + (pl : Int)) = (A : Int) + (pl : Int) := by rw [IntKind.wrap_i64]; omega
      have hj0 : (0 : Int) ≤ (j : Int) := by omega
      have hjn : (j : Int) < (n : Int) := by omega
      clear hl hb ht hzl hp hA hs1
      go_wp2
      go_roundw
      case rel => exact ⟨j + 1, by omega, by go_num, by rw [HT.out], trivial⟩
      case measure => simp [intOf]; omega
    · obtain rfl : j = n := by omega
      have hs1 := HS.out j
      have HTK : Veil (ps.take j = ps) := ⟨List.take_of_length_le (by have := HN.out; omega)⟩
      obtain ⟨A, hA⟩ : ∃ q, (allZ (ps.take j)).length = q := ⟨_, rfl⟩
      rw [hA] at hs1 ⊢
      clear hA
      go_wp2_with (at_make; refine wpList_make_own _ rfl _ _ 76 rfl wr.heap.size 5 i0 (.int .u8 0) 1 Tryd.underlying76 hi0 hz0 hz1 .i64 .i64 _ A rfl rfl rfl (by rw [hz2]; omega) (by simp [maxLen]; omega) (by omega) ?_; intro w1 ho1 hg1)
      have hB1 : Below wr.heap.size wr w1 := below_grown_new hg1
      have ho1' : OwnB w1 wr.heap.size (.slice (some ⟨wr.heap.size, 0, none⟩) 0 A) [] := OwnB.cast ho1 rfl rfl
      clear ho1 hg1
      obtain ⟨W, rfl⟩ : ∃ W, W = wr := ⟨_, rfl⟩
      go_loopw [6, 24] (fun v jv wr => ∃ i : Nat, i ≤ j ∧ jv = .int .i64 i ∧ OwnB wr W.heap.size v (allZ (ps.take i)) ∧ Below W.heap.size W wr) (fun _ jv _ => j - (intOf jv).toNat)
      case atStart => exact ⟨0, by omega, rfl, ho1', hB1⟩
      case round =>
        clear ho1' hB1
        obtain ⟨i, hi, rfl, ho, hB⟩ := hrel
        by_cases hlt : i < j
        · have hl := HN.out
          have hc := (HP.out.below hB).cell i (by omega)
          have hb := (HP.out.below hB).has i (by omega)
          have ht := allZ_take ps i (by omega)
          have hs1 := HS.out (i + 1)
          rw [ht, List.length_append] at hs1
          have hzl := hb.len_eq
          have HT : Veil (allZ (ps.take (i + 1)) = allZ (ps.take i) ++ (ps[i]'(by omega)).z) := ⟨ht⟩
          obtain ⟨p, hp⟩ : ∃ q, ps[i]'(by omega) = q := ⟨_, rfl⟩
          rw [hp] at hc HT hzl hs1 hb
          obtain ⟨px, pl, pc, pz⟩ := p
          simp only [Part.val] at hc
          simp only at hzl HT hs1 hb
          obtain ⟨A, hA⟩ : ∃ q, allZ (ps.take i) = q := ⟨_, rfl⟩
          rw [hA] at HT hs1 ho
          have hlen : A.length + pl ≤ 4000000 := by omega
          have hj0 : (0 : Int) ≤ (i : Int) := by omega
          have hjn : (i : Int) < (j : Int) := by omega
          clear hl ht hzl hp hA hs1
          go_wp2_with (at_builtin; refine wpList_app rfl _ _ rfl W.heap.size _ A rfl ho px pl pc pz rfl hb hlen hB.size ?_; intro v3 w3 ho3 hg3)
          go_roundw
          case rel => exact ⟨i + 1, by omega, by go_num, by rw [HT.out]; exact ho3, below_grown hB ho hg3 hB.size⟩
          case measure => simp [intOf]; omega
        · obtain rfl : i = j := by omega
          rw [HTK.out] at ho
          go_wp2
          go_ret
          exact ⟨_, rfl, ho, hB⟩
end Go.Proofs.YtlalcnmcnkompaaDoor

namespace Go.Proofs.YtlalcnmcnkompaaDoor
open Go.RowKit
set_option maxRecDepth 20000
set_option linter.unusedSimpArgs false

/-- A part of a block, of whatever cells, as one value. -/
theorem wpList_ldv {P : Program} {ops : Array Oper} {rest : List Oper} {o : Oper} {a : Act} {w : World} {Q : Exit → Act → World → Prop} {d : TypeDesc} (hgd : o.guard = none) (ty : TypeId) (x : Operand) (ho : o.op = .load ty x)
    (g off : Nat) (hx : a.eval x = .pointer (some ⟨g, off, none⟩)) (cs : List Value) (hg : w.rangeAt g off cs)
    (hu : P.underlying ty = some d) (hd : d.isRow = true) (hi : (P.info? ty).map (·.size) = some cs.length)
    (h : wpList P ops Q rest (a.put o.dst (.agg cs.toArray)) w) : wpList P ops Q (o :: rest) a w :=
  wpList_plain hgd fun _ hK => wp_load_mid ty x ho g off hx cs _ hg hu hd hi (hK _ _ h)
/-- Block g holds the cells cs. -/
def CellsAt (w : World) (g : Nat) (t : TypeId) (cs : List Value) : Prop := w.heap[g]? = some (.cells cs.toArray t (0, 0))
theorem CellsAt.new (w : World) (t : TypeId) (cs : List Value) : CellsAt (w.alloc (.cells cs.toArray t)) w.heap.size t cs := heap_alloc_new w _
theorem CellsAt.lt {w : World} {g : Nat} {t : TypeId} {cs : List Value} (h : CellsAt w g t cs) : g < w.heap.size := (Array.getElem?_eq_some_iff.1 h).1
theorem CellsAt.cell {w : World} {g : Nat} {t : TypeId} {cs : List Value} (h : CellsAt w g t cs) (j : Nat) : w.cell? ⟨g, j, none⟩ = cs[j]? := by
  rw [cell_of_row w g j _ _ _ h]; simp
theorem CellsAt.alloc {w : World} {g : Nat} {t : TypeId} {cs : List Value} (h : CellsAt w g t cs) (o : Obj) : CellsAt (w.alloc o) g t cs := by
  have hl := h.lt
  unfold CellsAt at h ⊢; rw [Below.heap_alloc w o g hl]; exact h
theorem CellsAt.range {w : World} {g : Nat} {t : TypeId} {cs : List Value} (h : CellsAt w g t cs) (o n : Nat) : w.rangeAt g o ((cs.drop o).take n) := fun j v hv => by
  rw [h.cell]
  rw [List.getElem?_take] at hv
  split at hv
  · rw [List.getElem?_drop] at hv; exact hv
  · simp at hv

def dotC (a s : Int) : List Value := [.int .u8 a, .int .u32 s]
/-- An event. -/
structure Ev where
  da : Int
  ds : Int
  past : List Int
  kind : Int
  pa : Int
  ps : Int
  right : Bool
  char : Int
  who : Int
  role : Int
def Ev.cells (e : Ev) : List Value := dotC e.da e.ds ++ e.past.map (Value.int .u32) ++ ([.int .u8 e.kind] ++ dotC e.pa e.ps ++ [.bool e.right, .int .u8 e.char, .int .u8 e.who, .int .u8 e.role])
theorem ev_parts (e : Ev) (hp : e.past.length = 8) : (e.cells.drop 0).take 2 = dotC e.da e.ds ∧ (e.cells.drop 2).take 8 = e.past.map (Value.int .u32) ∧ e.cells[10]? = some (.int .u8 e.kind) ∧ (e.cells.drop 11).take 2 = dotC e.pa e.ps ∧ e.cells[13]? = some (.bool e.right) ∧ e.cells[14]? = some (.int .u8 e.char) ∧ e.cells[15]? = some (.int .u8 e.who) ∧ e.cells[16]? = some (.int .u8 e.role) := by
  obtain ⟨da, ds, past, kind, pa, ps, right, char, who, role⟩ := e
  match past, hp with
  | [_, _, _, _, _, _, _, _], _ => exact ⟨rfl, rfl, rfl, rfl, rfl, rfl, rfl, rfl⟩
theorem sizeDot : (Tryd.prog.info? 36).map (·.size) = some 2 := by kernel_rfl
theorem sizeU32v : (Tryd.prog.info? 34).map (·.size) = some 1 := by kernel_rfl

theorem run_storeVar_cells {P : Program} (w : World) (g : Nat) (ty t : TypeId) (old cs : List Value) (hg : CellsAt w g t old) (hl : old.length = cs.length) (hi : (P.info? ty).map (·.size) = some cs.length) (h1 : ∀ v ∈ cs, v.oneCell' = true) :
    (storeVar ty ⟨g, 0, none⟩ (.agg cs.toArray)).run P w = .ok () (w.setRow g cs.toArray) := by
  have hst := run_storeCells_at P g 0 t cs 0 old.toArray w hg (by simp [hl]) h1
  cases hq : P.info? ty with
  | none => simp [hq] at hi
  | some i =>
    have hs : i.size = cs.length := by simpa [hq] using hi
    have hsz : cs.toArray.size = i.size := by simp [hs]
    have he : (List.take (0 + 0) old.toArray.toList ++ cs ++ List.drop (0 + 0 + cs.length) old.toArray.toList).toArray = cs.toArray := by
      simp [← hl]
    rw [he] at hst
    simp [storeVar, sizeOf, typeInfo, hq, Value.cells, hs, hst]
theorem wpList_stv {P : Program} {ops : Array Oper} {rest : List Oper} {o : Oper} {a : Act} {w : World} {Q : Exit → Act → World → Prop} (hgd : o.guard = none) (ty : TypeId) (x y : Operand) (ho : o.op = .store ty x y)
    (g : Nat) (hx : a.eval x = .pointer (some ⟨g, 0, none⟩)) {t : TypeId} {old cs : List Value} (hy : a.eval y = .agg cs.toArray) (hg : CellsAt w g t old)
    (hi : (P.info? ty).map (·.size) = some cs.length) (hl : old.length = cs.length) (h1 : ∀ v ∈ cs, v.oneCell' = true)
    (h : wpList P ops Q rest (a.put o.dst undef) (w.setRow g cs.toArray)) : wpList P ops Q (o :: rest) a w :=
  wpList_plain hgd fun _ hK => by
    unfold Oper.wp execOp
    simp only [ho, hx, hy, Instr.storeAt, Instr.sureAddr, Sem.run_bind, Sem.run_pure, Result.andThen_ok, run_storeVar_cells w g ty t old cs hg hl hi h1]
    exact hK _ _ h
theorem CellsAt.setRow {w : World} {g : Nat} {t : TypeId} {cs : List Value} (h : CellsAt w g t cs) (cs' : List Value) : CellsAt (w.setRow g cs'.toArray) g t cs' := by
  unfold CellsAt at h ⊢; exact setRow_heap w g _ _ t _ h
/-- A wrap. -/
structure Wp where
  too : Int
  ea : Int
  es : Int
  data : List Int
def Wp.cells (e : Wp) : List Value := [.int .u8 e.too] ++ dotC e.ea e.es ++ e.data.map (Value.int .u8)
theorem wp_parts (e : Wp) (h : e.data.length = 48) : e.cells.length = 51 ∧ e.cells[0]? = some (.int .u8 e.too) ∧ (e.cells.drop 1).take 2 = dotC e.ea e.es ∧ (e.cells.drop 3).take 48 = e.data.map (Value.int .u8) ∧ ∀ v ∈ e.cells, v.oneCell' = true := by
  have hd : (e.data.map (Value.int .u8)).length = 48 := by rw [List.length_map, h]
  refine ⟨by unfold Wp.cells; simp [dotC, h], rfl, rfl, ?_, ?_⟩
  · show (e.data.map (Value.int .u8)).take 48 = _
    exact List.take_of_length_le (by omega)
  · intro v hv
    unfold Wp.cells dotC at hv
    simp only [List.mem_append, List.mem_cons, List.not_mem_nil, or_false, List.mem_map] at hv
    rcases hv with (rfl | rfl | rfl) | ⟨x, _, rfl⟩ <;> rfl

end Go.Proofs.YtlalcnmcnkompaaDoor
