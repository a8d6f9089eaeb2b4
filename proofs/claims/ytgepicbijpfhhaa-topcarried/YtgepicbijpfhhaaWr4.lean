/- Frames as cells and as bytes; 'openly'. -/
import Derived.Test.YtgepicbijpfhhaaWr3
namespace Go.Proofs.Ytgepicbijpfhhaa
open Go.RowKit
set_option maxRecDepth 20000
set_option linter.unusedSimpArgs false

theorem run_storeVar_cells {P : Program} (w : World) (g : Nat) (ty t : TypeId) (old cs : List Value) (hg : CellsAt w g t old) (hl : old.length = cs.length) (hi : (P.info? ty).map (·.size) = some cs.length) (h1 : ∀ v ∈ cs, v.oneCell' = true) :
    (storeVar ty ⟨g, 0, none⟩ (.agg cs.toArray)).run P w = .ok () (w.setRow g cs.toArray) := by
  have hst := run_storeCells_at P g 0 t cs 0 old.toArray w hg (by simp [hl]) h1
  cases hq : P.info? ty with
  | none => simp [hq] at hi
  | some i =>
    have hs : i.size = cs.length := by simpa [hq] using hi
    have hsz : cs.toArray.size = i.size := by simp [hs]
    have he : (List.take (0 + 0) old.toArray.toList ++ cs ++ List.drop (0 + 0 + cs.length) old.toArray.toList).toArray = cs.toArray := by
      simp [← hl]
    rw [he] at hst
    simp [storeVar, sizeOf, typeInfo, hq, Value.cells, hs, hst]
theorem wpList_stv {P : Program} {ops : Array Oper} {rest : List Oper} {o : Oper} {a : Act} {w : World} {Q : Exit → Act → World → Prop} (hgd : o.guard = none) (ty : TypeId) (x y : Operand) (ho : o.op = .store ty x y)
    (g : Nat) (hx : a.eval x = .pointer (some ⟨g, 0, none⟩)) {t : TypeId} {old cs : List Value} (hy : a.eval y = .agg cs.toArray) (hg : CellsAt w g t old)
    (hi : (P.info? ty).map (·.size) = some cs.length) (hl : old.length = cs.length) (h1 : ∀ v ∈ cs, v.oneCell' = true)
    (h : wpList P ops Q rest (a.put o.dst undef) (w.setRow g cs.toArray)) : wpList P ops Q (o :: rest) a w :=
  wpList_plain hgd fun _ hK => by
    unfold Oper.wp execOp
    simp only [ho, hx, hy, Instr.storeAt, Instr.sureAddr, Sem.run_bind, Sem.run_pure, Result.andThen_ok, run_storeVar_cells w g ty t old cs hg hl hi h1]
    exact hK _ _ h
theorem CellsAt.setRow {w : World} {g : Nat} {t : TypeId} {cs : List Value} (h : CellsAt w g t cs) (cs' : List Value) : CellsAt (w.setRow g cs'.toArray) g t cs' := by
  unfold CellsAt at h ⊢; exact setRow_heap w g _ _ t _ h
theorem Went.setRow {w : World} {g H base : Nat} (hb : base ≤ g) (w0 : World) (hlt : w0.heap.size ≤ g) (h0 : Went w0 w H base) (cs' : Array Value) : Went w0 (w.setRow g cs') H base :=
  ⟨below_setRow h0.below hb _, fun g' cs t fr h1 h2 h3 => by
    have hl : g' < w0.heap.size := (Array.getElem?_eq_some_iff.1 h3).1
    rw [setRow_other w g g' cs' (by omega)]
    exact h0.kept g' cs t fr h1 h2 h3⟩
/-- A wrap. -/
structure Wp where
  too : Int
  ea : Int
  es : Int
  data : List Int
def Wp.cells (e : Wp) : List Value := [.int .u8 e.too] ++ dotC e.ea e.es ++ e.data.map (Value.int .u8)
def wrapL (e : Wp) : List Int := [e.too] ++ dotL e.ea e.es ++ e.data
/-- A frame. -/
structure Fr where
  author : Int
  number : Int
  ea : Int
  es : Int
  prev : List Int
  wraps : Value
  body : Value
  mac : List Int
def Fr.cells (f : Fr) : List Value := [.int .u8 f.author, .int .u32 f.number] ++ dotC f.ea f.es ++ f.prev.map (Value.int .u8) ++ [f.wraps, f.body] ++ f.mac.map (Value.int .u8)
/-- What is told openly of a frame with the wraps ws. -/
def wrapsL (ws : List Wp) : List Int := (ws.map wrapL).flatten
def openL (f : Fr) (ws : List Wp) : List Int := [69, 83, f.author] ++ be4 f.number ++ dotL f.ea f.es ++ f.prev ++ [(ws.length : Int)] ++ wrapsL ws
theorem wrapL_length (e : Wp) (h : e.data.length = 48) : (wrapL e).length = 54 := by unfold wrapL; simp [dotL_length, h]
theorem wrapsL_take (ws : List Wp) (j : Nat) (hj : j < ws.length) : wrapsL (ws.take (j + 1)) = wrapsL (ws.take j) ++ wrapL ws[j] := by
  unfold wrapsL
  rw [List.take_succ_eq_append_getElem hj, List.map_append, List.flatten_append]
  simp only [List.map_cons, List.map_nil, List.flatten_cons, List.flatten_nil, List.append_nil]
theorem wrapsL_le (ws : List Wp) (h : ∀ e ∈ ws, e.data.length = 48) : (wrapsL ws).length = 54 * ws.length := by
  induction ws with
  | nil => rfl
  | cons e ws ih =>
    have := ih (fun x hx => h x (List.mem_cons_of_mem _ hx))
    unfold wrapsL at this ⊢
    rw [List.map_cons, List.flatten_cons, List.length_append, wrapL_length e (h e (by simp)), this, List.length_cons]; omega
/-- What is known of wraps that are read. -/
structure WrapsAt (w : World) (x : Option Addr) (len cap : Nat) (ws : List Wp) : Prop where
  len_eq : len = ws.length
  le : len ≤ cap
  top : cap ≤ 9223372036854775807
  nil : x = none → cap = 0
  ok : ∀ e ∈ ws, e.data.length = 48
  at_ : len = 0 ∨ ∃ b off, x = some ⟨b, off, none⟩ ∧ ∀ j (hj : j < ws.length), w.rangeAt b (off + j * 51) (ws[j]).cells
theorem rangeAt_below {w w' : World} {b o : Nat} {cs : List Value} (h : w.rangeAt b o cs) (hb : Below w.heap.size w w') : w'.rangeAt b o cs := fun j v hv => by
  have := h j v hv
  rw [hb.cell (p := ⟨b, o + j, none⟩) (block_lt_of_cell this)]; exact this
theorem WrapsAt.below {w w' : World} {x : Option Addr} {len cap : Nat} {ws : List Wp} (h : WrapsAt w x len cap ws) (hb : Below w.heap.size w w') : WrapsAt w' x len cap ws :=
  ⟨h.len_eq, h.le, h.top, h.nil, h.ok, by
    rcases h.at_ with h0 | ⟨b, off, hx, hc⟩
    · exact .inl h0
    · exact .inr ⟨b, off, hx, fun j hj => rangeAt_below (hc j hj) hb⟩⟩
theorem fr_parts (f : Fr) (hp : f.prev.length = 32) (hm : f.mac.length = 32) : f.cells.length = 70 ∧ f.cells[0]? = some (.int .u8 f.author) ∧ f.cells[1]? = some (.int .u32 f.number) ∧ (f.cells.drop 2).take 2 = dotC f.ea f.es ∧ (f.cells.drop 4).take 32 = f.prev.map (Value.int .u8) ∧ f.cells[36]? = some f.wraps ∧ f.cells[37]? = some f.body ∧ (f.cells.drop 38).take 32 = f.mac.map (Value.int .u8) := by
  have e1 : ∀ X : List Value, (([.int .u8 f.author, .int .u32 f.number] : List Value) ++ dotC f.ea f.es ++ X).drop 4 = X := fun X => rfl
  have hP : (f.prev.map (Value.int .u8)).length = 32 := by rw [List.length_map, hp]
  have hM : (f.mac.map (Value.int .u8)).length = 32 := by rw [List.length_map, hm]
  have e0 : f.cells = ([.int .u8 f.author, .int .u32 f.number] : List Value) ++ dotC f.ea f.es ++ (f.prev.map (Value.int .u8) ++ ([f.wraps, f.body] ++ f.mac.map (Value.int .u8))) := by unfold Fr.cells; simp only [List.append_assoc]
  have e36 : f.cells.drop 36 = [f.wraps, f.body] ++ f.mac.map (Value.int .u8) := by
    rw [show 36 = 4 + 32 from rfl, ← List.drop_drop, e0, e1, List.drop_left' hP]
  refine ⟨by rw [e0]; simp [dotC, hp, hm], by rw [e0]; rfl, by rw [e0]; rfl, by rw [e0]; rfl, by rw [e0, e1, List.take_left' hP], ?_, ?_, ?_⟩
  · have := congrArg (fun l => l[0]?) e36
    simpa using this
  · have := congrArg (fun l => l[1]?) e36
    simpa using this
  · rw [show 38 = 36 + 2 from rfl, ← List.drop_drop, e36]
    exact List.take_of_length_le (by simp [hm])
theorem sizeWrap : (Try.prog.info? 62).map (·.size) = some 51 := by kernel_rfl
end Go.Proofs.Ytgepicbijpfhhaa
