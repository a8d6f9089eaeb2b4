/- Events as cells and as bytes; 'event', 'Event'. -/
import Derived.Test.YtgepicbijpfhhaaWr2
namespace Go.Proofs.Ytgepicbijpfhhaa
open Go.RowKit
set_option maxRecDepth 20000
set_option linter.unusedSimpArgs false

/-- An event. -/
structure Ev where
  da : Int
  ds : Int
  past : List Int
  kind : Int
  pa : Int
  ps : Int
  right : Bool
  char : Int
  who : Int
  role : Int
def Ev.cells (e : Ev) : List Value := dotC e.da e.ds ++ e.past.map (Value.int .u32) ++ ([.int .u8 e.kind] ++ dotC e.pa e.ps ++ [.bool e.right, .int .u8 e.char, .int .u8 e.who, .int .u8 e.role])
def pastL (l : List Int) : List Int := (l.map be4).flatten
def eventL (e : Ev) : List Int := dotL e.da e.ds ++ pastL e.past ++ [e.kind] ++ dotL e.pa e.ps ++ [truthB e.right] ++ [e.char, e.who, e.role] ++ List.replicate 11 0
theorem be4_length (n : Int) : (be4 n).length = 4 := rfl
theorem dotL_length (a s : Int) : (dotL a s).length = 5 := rfl
theorem pastL_length : ∀ l : List Int, (pastL l).length = 4 * l.length
  | [] => rfl
  | a :: l => by
    have := pastL_length l
    unfold pastL at this ⊢
    rw [List.map_cons, List.flatten_cons, List.length_append, be4_length, this, List.length_cons]; omega
theorem pastL_take (l : List Int) (j : Nat) (hj : j < l.length) : pastL (l.take (j + 1)) = pastL (l.take j) ++ be4 (l[j]?.getD 0) := by
  rw [take_next l j hj]
  simp [pastL]
theorem eventL_length (e : Ev) (hp : e.past.length = 8) : (eventL e).length = 58 := by
  unfold eventL
  simp only [List.length_append, dotL_length, pastL_length, hp, List.length_cons, List.length_nil, List.length_replicate]
theorem ev_parts (e : Ev) (hp : e.past.length = 8) : (e.cells.drop 0).take 2 = dotC e.da e.ds ∧ (e.cells.drop 2).take 8 = e.past.map (Value.int .u32) ∧ e.cells[10]? = some (.int .u8 e.kind) ∧ (e.cells.drop 11).take 2 = dotC e.pa e.ps ∧ e.cells[13]? = some (.bool e.right) ∧ e.cells[14]? = some (.int .u8 e.char) ∧ e.cells[15]? = some (.int .u8 e.who) ∧ e.cells[16]? = some (.int .u8 e.role) := by
  obtain ⟨da, ds, past, kind, pa, ps, right, char, who, role⟩ := e
  match past, hp with
  | [_, _, _, _, _, _, _, _], _ => exact ⟨rfl, rfl, rfl, rfl, rfl, rfl, rfl, rfl⟩
theorem sizeDot : (Try.prog.info? 24).map (·.size) = some 2 := by kernel_rfl
theorem sizeU32v : (Try.prog.info? 22).map (·.size) = some 1 := by kernel_rfl

end Go.Proofs.Ytgepicbijpfhhaa
