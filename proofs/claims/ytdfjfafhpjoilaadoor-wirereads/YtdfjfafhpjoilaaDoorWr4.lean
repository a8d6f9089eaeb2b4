/- Frames as cells and as bytes; 'openly'. -/
import Derived.Test.YtdfjfafhpjoilaaDoorWr3
namespace Go.Proofs.YtdfjfafhpjoilaaDoor
open Go.RowKit
set_option maxRecDepth 20000
set_option linter.unusedSimpArgs false

theorem Went.setRow {w : World} {g H base : Nat} (hb : base ≤ g) (w0 : World) (hlt : w0.heap.size ≤ g) (h0 : Went w0 w H base) (cs' : Array Value) : Went w0 (w.setRow g cs') H base :=
  ⟨below_setRow h0.below hb _, fun g' cs t fr h1 h2 h3 => by
    have hl : g' < w0.heap.size := (Array.getElem?_eq_some_iff.1 h3).1
    rw [setRow_other w g g' cs' (by omega)]
    exact h0.kept g' cs t fr h1 h2 h3⟩
def wrapL (e : Wp) : List Int := [e.too] ++ dotL e.ea e.es ++ e.data
/-- A frame. -/
structure Fr where
  author : Int
  number : Int
  ea : Int
  es : Int
  prev : List Int
  wraps : Value
  body : Value
  mac : List Int
def Fr.cells (f : Fr) : List Value := [.int .u8 f.author, .int .u32 f.number] ++ dotC f.ea f.es ++ f.prev.map (Value.int .u8) ++ [f.wraps, f.body] ++ f.mac.map (Value.int .u8)
/-- What is told openly of a frame with the wraps ws. -/
def wrapsL (ws : List Wp) : List Int := (ws.map wrapL).flatten
def openL (f : Fr) (ws : List Wp) : List Int := [69, 83, f.author] ++ be4 f.number ++ dotL f.ea f.es ++ f.prev ++ [(ws.length : Int)] ++ wrapsL ws
theorem wrapL_length (e : Wp) (h : e.data.length = 48) : (wrapL e).length = 54 := by unfold wrapL; simp [dotL_length, h]
theorem wrapsL_take (ws : List Wp) (j : Nat) (hj : j < ws.length) : wrapsL (ws.take (j + 1)) = wrapsL (ws.take j) ++ wrapL ws[j] := by
  unfold wrapsL
  rw [List.take_succ_eq_append_getElem hj, List.map_append, List.flatten_append]
  simp only [List.map_cons, List.map_nil, List.flatten_cons, List.flatten_nil, List.append_nil]
theorem wrapsL_le (ws : List Wp) (h : ∀ e ∈ ws, e.data.length = 48) : (wrapsL ws).length = 54 * ws.length := by
  induction ws with
  | nil => rfl
  | cons e ws ih =>
    have := ih (fun x hx => h x (List.mem_cons_of_mem _ hx))
    unfold wrapsL at this ⊢
    rw [List.map_cons, List.flatten_cons, List.length_append, wrapL_length e (h e (by simp)), this, List.length_cons]; omega
/-- What is known of wraps that are read. -/
structure WrapsAt (w : World) (x : Option Addr) (len cap : Nat) (ws : List Wp) : Prop where
  len_eq : len = ws.length
  le : len ≤ cap
  top : cap ≤ 9223372036854775807
  nil : x = none → cap = 0
  ok : ∀ e ∈ ws, e.data.length = 48
  at_ : len = 0 ∨ ∃ b off, x = some ⟨b, off, none⟩ ∧ ∀ j (hj : j < ws.length), w.rangeAt b (off + j * 51) (ws[j]).cells
theorem rangeAt_below {w w' : World} {b o : Nat} {cs : List Value} (h : w.rangeAt b o cs) (hb : Below w.heap.size w w') : w'.rangeAt b o cs := fun j v hv => by
  have := h j v hv
  rw [hb.cell (p := ⟨b, o + j, none⟩) (block_lt_of_cell this)]; exact this
theorem WrapsAt.below {w w' : World} {x : Option Addr} {len cap : Nat} {ws : List Wp} (h : WrapsAt w x len cap ws) (hb : Below w.heap.size w w') : WrapsAt w' x len cap ws :=
  ⟨h.len_eq, h.le, h.top, h.nil, h.ok, by
    rcases h.at_ with h0 | ⟨b, off, hx, hc⟩
    · exact .inl h0
    · exact .inr ⟨b, off, hx, fun j hj => rangeAt_below (hc j hj) hb⟩⟩
theorem fr_parts (f : Fr) (hp : f.prev.length = 32) (hm : f.mac.length = 32) : f.cells.length = 70 ∧ f.cells[0]? = some (.int .u8 f.author) ∧ f.cells[1]? = some (.int .u32 f.number) ∧ (f.cells.drop 2).take 2 = dotC f.ea f.es ∧ (f.cells.drop 4).take 32 = f.prev.map (Value.int .u8) ∧ f.cells[36]? = some f.wraps ∧ f.cells[37]? = some f.body ∧ (f.cells.drop 38).take 32 = f.mac.map (Value.int .u8) := by
  have e1 : ∀ X : List Value, (([.int .u8 f.author, .int .u32 f.number] : List Value) ++ dotC f.ea f.es ++ X).drop 4 = X := fun X => rfl
  have hP : (f.prev.map (Value.int .u8)).length = 32 := by rw [List.length_map, hp]
  have hM : (f.mac.map (Value.int .u8)).length = 32 := by rw [List.length_map, hm]
  have e0 : f.cells = ([.int .u8 f.author, .int .u32 f.number] : List Value) ++ dotC f.ea f.es ++ (f.prev.map (Value.int .u8) ++ ([f.wraps, f.body] ++ f.mac.map (Value.int .u8))) := by unfold Fr.cells; simp only [List.append_assoc]
  have e36 : f.cells.drop 36 = [f.wraps, f.body] ++ f.mac.map (Value.int .u8) := by
    rw [show 36 = 4 + 32 from rfl, ← List.drop_drop, e0, e1, List.drop_left' hP]
  refine ⟨by rw [e0]; simp [dotC, hp, hm], by rw [e0]; rfl, by rw [e0]; rfl, by rw [e0]; rfl, by rw [e0, e1, List.take_left' hP], ?_, ?_, ?_⟩
  · have := congrArg (fun l => l[0]?) e36
    simpa using this
  · have := congrArg (fun l => l[1]?) e36
    simpa using this
  · rw [show 38 = 36 + 2 from rfl, ← List.drop_drop, e36]
    exact List.take_of_length_le (by simp [hm])
theorem sizeWrap : (Tryd.prog.info? 52).map (·.size) = some 51 := by kernel_rfl
end Go.Proofs.YtdfjfafhpjoilaaDoor
