/- Blocks of mixed cells; dots and events as cells. The writer of wire: truths, noughts, dots, events. Events as cells and as bytes; 'event', 'Event'. Frames as cells and as bytes; 'openly'. Frames that came in: what is known of them. -/
import Derived.Test.YtgcidamdbidgiaaDoorMGkGbGcWr1
import Derived.Deep.MidRow
namespace Go.Proofs.YtgcidamdbidgiaaDoor
open Go.RowKit
set_option maxRecDepth 20000
set_option linter.unusedSimpArgs false

/-- A part of a block, of whatever cells, as one value. -/
theorem wpList_ldv {P : Program} {ops : Array Oper} {rest : List Oper} {o : Oper} {a : Act} {w : World} {Q : Exit → Act → World → Prop} {d : TypeDesc} (hgd : o.guard = none) (ty : TypeId) (x : Operand) (ho : o.op = .load ty x)
    (g off : Nat) (hx : a.eval x = .pointer (some ⟨g, off, none⟩)) (cs : List Value) (hg : w.rangeAt g off cs)
    (hu : P.underlying ty = some d) (hd : d.isRow = true) (hi : (P.info? ty).map (·.size) = some cs.length)
    (h : wpList P ops Q rest (a.put o.dst (.agg cs.toArray)) w) : wpList P ops Q (o :: rest) a w :=
  wpList_plain hgd fun _ hK => wp_load_mid ty x ho g off hx cs _ hg hu hd hi (hK _ _ h)
/-- Block g holds the cells cs. -/
def CellsAt (w : World) (g : Nat) (t : TypeId) (cs : List Value) : Prop := w.heap[g]? = some (.cells cs.toArray t (0, 0))
theorem CellsAt.new (w : World) (t : TypeId) (cs : List Value) : CellsAt (w.alloc (.cells cs.toArray t)) w.heap.size t cs := heap_alloc_new w _
theorem CellsAt.lt {w : World} {g : Nat} {t : TypeId} {cs : List Value} (h : CellsAt w g t cs) : g < w.heap.size := (Array.getElem?_eq_some_iff.1 h).1
theorem CellsAt.cell {w : World} {g : Nat} {t : TypeId} {cs : List Value} (h : CellsAt w g t cs) (j : Nat) : w.cell? ⟨g, j, none⟩ = cs[j]? := by
  rw [cell_of_row w g j _ _ _ h]; simp
theorem CellsAt.alloc {w : World} {g : Nat} {t : TypeId} {cs : List Value} (h : CellsAt w g t cs) (o : Obj) : CellsAt (w.alloc o) g t cs := by
  have hl := h.lt
  unfold CellsAt at h ⊢; rw [Below.heap_alloc w o g hl]; exact h
theorem CellsAt.range {w : World} {g : Nat} {t : TypeId} {cs : List Value} (h : CellsAt w g t cs) (o n : Nat) : w.rangeAt g o ((cs.drop o).take n) := fun j v hv => by
  rw [h.cell]
  rw [List.getElem?_take] at hv
  split at hv
  · rw [List.getElem?_drop] at hv; exact hv
  · simp at hv

theorem CellsAt.frozen {w : World} {g : Nat} {t : TypeId} {cs : List Value} (h : CellsAt w g t cs) (j : Nat) : w.frozen? ⟨g, j, none⟩ = false := frozen_of_row w g j _ t h
theorem CellsAt.set {w : World} {g : Nat} {t : TypeId} {cs : List Value} (h : CellsAt w g t cs) (j : Nat) (v : Value) : CellsAt (w.setCell ⟨g, j, none⟩ v) g t (cs.set j v) := by
  unfold CellsAt at h ⊢
  simp only [World.setCell, Array.getElem?_modify, h]
  simp
theorem CellsAt.congr {w w' : World} {g : Nat} {t : TypeId} {cs : List Value} (h : CellsAt w g t cs) (he : w'.heap[g]? = w.heap[g]?) : CellsAt w' g t cs := he.trans h

def dotC (a s : Int) : List Value := [.int .u8 a, .int .u32 s]
/-- An event. -/
structure Ev where
  da : Int
  ds : Int
  past : List Int
  kind : Int
  pa : Int
  ps : Int
  right : Bool
  char : Int
  who : Int
  role : Int
def Ev.cells (e : Ev) : List Value := dotC e.da e.ds ++ e.past.map (Value.int .u32) ++ ([.int .u8 e.kind] ++ dotC e.pa e.ps ++ [.bool e.right, .int .u8 e.char, .int .u8 e.who, .int .u8 e.role])
theorem ev_parts (e : Ev) (hp : e.past.length = 8) : (e.cells.drop 0).take 2 = dotC e.da e.ds ∧ (e.cells.drop 2).take 8 = e.past.map (Value.int .u32) ∧ e.cells[10]? = some (.int .u8 e.kind) ∧ (e.cells.drop 11).take 2 = dotC e.pa e.ps ∧ e.cells[13]? = some (.bool e.right) ∧ e.cells[14]? = some (.int .u8 e.char) ∧ e.cells[15]? = some (.int .u8 e.who) ∧ e.cells[16]? = some (.int .u8 e.role) := by
  obtain ⟨da, ds, past, kind, pa, ps, right, char, who, role⟩ := e
  match past, hp with
  | [_, _, _, _, _, _, _, _], _ => exact ⟨rfl, rfl, rfl, rfl, rfl, rfl, rfl, rfl⟩
theorem sizeDot : (Tryd.prog.info? 32).map (·.size) = some 2 := by kernel_rfl
theorem sizeU32v : (Tryd.prog.info? 30).map (·.size) = some 1 := by kernel_rfl

theorem run_storeVar_cells {P : Program} (w : World) (g : Nat) (ty t : TypeId) (old cs : List Value) (hg : CellsAt w g t old) (hl : old.length = cs.length) (hi : (P.info? ty).map (·.size) = some cs.length) (h1 : ∀ v ∈ cs, v.oneCell' = true) :
    (storeVar ty ⟨g, 0, none⟩ (.agg cs.toArray)).run P w = .ok () (w.setRow g cs.toArray) := by
  have hst := run_storeCells_at P g 0 t cs 0 old.toArray w hg (by simp [hl]) h1
  cases hq : P.info? ty with
  | none => simp [hq] at hi
  | some i =>
    have hs : i.size = cs.length := by simpa [hq] using hi
    have hsz : cs.toArray.size = i.size := by simp [hs]
    have he : (List.take (0 + 0) old.toArray.toList ++ cs ++ List.drop (0 + 0 + cs.length) old.toArray.toList).toArray = cs.toArray := by
      simp [← hl]
    rw [he] at hst
    simp [storeVar, sizeOf, typeInfo, hq, Value.cells, hs, hst]
theorem wpList_stv {P : Program} {ops : Array Oper} {rest : List Oper} {o : Oper} {a : Act} {w : World} {Q : Exit → Act → World → Prop} (hgd : o.guard = none) (ty : TypeId) (x y : Operand) (ho : o.op = .store ty x y)
    (g : Nat) (hx : a.eval x = .pointer (some ⟨g, 0, none⟩)) {t : TypeId} {old cs : List Value} (hy : a.eval y = .agg cs.toArray) (hg : CellsAt w g t old)
    (hi : (P.info? ty).map (·.size) = some cs.length) (hl : old.length = cs.length) (h1 : ∀ v ∈ cs, v.oneCell' = true)
    (h : wpList P ops Q rest (a.put o.dst undef) (w.setRow g cs.toArray)) : wpList P ops Q (o :: rest) a w :=
  wpList_plain hgd fun _ hK => by
    unfold Oper.wp execOp
    simp only [ho, hx, hy, Instr.storeAt, Instr.sureAddr, Sem.run_bind, Sem.run_pure, Result.andThen_ok, run_storeVar_cells w g ty t old cs hg hl hi h1]
    exact hK _ _ h
theorem CellsAt.setRow {w : World} {g : Nat} {t : TypeId} {cs : List Value} (h : CellsAt w g t cs) (cs' : List Value) : CellsAt (w.setRow g cs'.toArray) g t cs' := by
  unfold CellsAt at h ⊢; exact setRow_heap w g _ _ t _ h
/-- A wrap. -/
structure Wp where
  too : Int
  ea : Int
  es : Int
  data : List Int
def Wp.cells (e : Wp) : List Value := [.int .u8 e.too] ++ dotC e.ea e.es ++ e.data.map (Value.int .u8)
theorem wp_parts (e : Wp) (h : e.data.length = 48) : e.cells.length = 51 ∧ e.cells[0]? = some (.int .u8 e.too) ∧ (e.cells.drop 1).take 2 = dotC e.ea e.es ∧ (e.cells.drop 3).take 48 = e.data.map (Value.int .u8) ∧ ∀ v ∈ e.cells, v.oneCell' = true := by
  have hd : (e.data.map (Value.int .u8)).length = 48 := by rw [List.length_map, h]
  refine ⟨by unfold Wp.cells; simp [dotC, h], rfl, rfl, ?_, ?_⟩
  · show (e.data.map (Value.int .u8)).take 48 = _
    exact List.take_of_length_le (by omega)
  · intro v hv
    unfold Wp.cells dotC at hv
    simp only [List.mem_append, List.mem_cons, List.not_mem_nil, or_false, List.mem_map] at hv
    rcases hv with (rfl | rfl | rfl) | ⟨x, _, rfl⟩ <;> rfl

end Go.Proofs.YtgcidamdbidgiaaDoor

namespace Go.Proofs.YtgcidamdbidgiaaDoor
open Go.RowKit
set_option maxRecDepth 20000
set_option linter.unusedSimpArgs false

theorem CellsAt.went {w w' : World} {g H base : Nat} {t : TypeId} {cs : List Value} (h : CellsAt w g t cs) (hg : Went w w' H base) (hne : g ≠ H) (ht : t ≠ 5) : CellsAt w' g t cs := hg.kept g _ t _ hne ht h
def truthB (b : Bool) : Int := if b then 1 else 0
/-- A dot's cells and bytes. -/
def dotL (a s : Int) : List Int := a :: be4 s
set_option maxHeartbeats 1000000 in
theorem dot_any (H base : Nat) (L : List Int) (a s : Int) (w : World) (hW : Wr w H base L) (hln : L.length ≤ 2000000) :
    Calls Tryd.prog 67 #[.pointer (some ⟨H, 0, none⟩), .agg (dotC a s).toArray] w fun e w' => (∃ r, e = .returned r) ∧ Wr w' H base (L ++ dotL a s) ∧ Went w w' H base := by
  have hsz := hW.size
  have hlt : H < w.heap.size := by obtain ⟨v, h1, _⟩ := hW.has; exact h1.lt
  have hD0 := CellsAt.new w 32 (dotC a s)
  have hgo := Went.alloc (H := H) hsz (.cells (dotC a s).toArray 32)
  have hW0 := hW.alloc (.cells (dotC a s).toArray 32)
  clear hW
  go_enter Tryd.func67, Tryd.ntmps67
  go_upto_region 1 with fail
  refine forget (p := fun y => Code.wp _ _ _ _ y) (fun W0 => Went w W0 H base ∧ Wr W0 H base L ∧ CellsAt W0 w.heap.size 32 (dotC a s)) ⟨hgo, hW0, hD0⟩ ?_
  clear hgo hW0 hD0
  rintro W0 ⟨hg0, hW0, hD0⟩
  have hs0 := hW0.size
  have c0 : W0.cell? ⟨w.heap.size, 0, none⟩ = some (.int .u8 a) := hD0.cell 0
  have hp := put_any H base L (some ⟨W0.heap.size, 0, none⟩) 1 1 [a] (W0.alloc (.cells (row .u8 [a]) 5)) (hW0.alloc _) (new_bytes W0 [a] (by simp)) (by omega)
  have hgo := Went.alloc (H := H) hs0 (.cells (row .u8 [a]) 5)
  go_upto_region 2 with (go_at_call 60; refine hp.mono ?_; rintro e w1 ⟨⟨r, rfl⟩, hW1, hg1⟩)
  have hD1 := (hD0.went hgo (by omega) (by decide)).went hg1 (by omega) (by decide)
  have c1 : w1.cell? ⟨w.heap.size, 1, none⟩ = some (.int .u32 s) := hD1.cell 1
  have hf := four_any H base (L ++ [a]) s w1 hW1 (by rw [List.length_append]; simp; omega)
  have hg01 := hg0.trans (hgo.trans hg1)
  clear hp hD0 hD1 hW0 hW1 hgo hg1 hg0 c0
  go_wp2_with (go_at_call 66; refine hf.mono ?_; rintro e w2 ⟨⟨r2, rfl⟩, hW2, hg2⟩)
  go_end0
  refine ⟨⟨_, rfl⟩, ?_, hg01.trans hg2⟩
  rw [List.append_assoc] at hW2
  exact hW2
end Go.Proofs.YtgcidamdbidgiaaDoor

namespace Go.Proofs.YtgcidamdbidgiaaDoor
open Go.RowKit
set_option maxRecDepth 20000
set_option linter.unusedSimpArgs false

def pastL (l : List Int) : List Int := (l.map be4).flatten
def eventL (e : Ev) : List Int := dotL e.da e.ds ++ pastL e.past ++ [e.kind] ++ dotL e.pa e.ps ++ [truthB e.right] ++ [e.char, e.who, e.role] ++ List.replicate 11 0
theorem be4_length (n : Int) : (be4 n).length = 4 := rfl
theorem dotL_length (a s : Int) : (dotL a s).length = 5 := rfl
theorem pastL_length : ∀ l : List Int, (pastL l).length = 4 * l.length
  | [] => rfl
  | a :: l => by
    have := pastL_length l
    unfold pastL at this ⊢
    rw [List.map_cons, List.flatten_cons, List.length_append, be4_length, this, List.length_cons]; omega
theorem pastL_take (l : List Int) (j : Nat) (hj : j < l.length) : pastL (l.take (j + 1)) = pastL (l.take j) ++ be4 (l[j]?.getD 0) := by
  rw [take_next l j hj]
  simp [pastL]
theorem eventL_length (e : Ev) (hp : e.past.length = 8) : (eventL e).length = 58 := by
  unfold eventL
  simp only [List.length_append, dotL_length, pastL_length, hp, List.length_cons, List.length_nil, List.length_replicate]
end Go.Proofs.YtgcidamdbidgiaaDoor

namespace Go.Proofs.YtgcidamdbidgiaaDoor
open Go.RowKit
set_option maxRecDepth 20000
set_option linter.unusedSimpArgs false

theorem Went.setRow {w : World} {g H base : Nat} (hb : base ≤ g) (w0 : World) (hlt : w0.heap.size ≤ g) (h0 : Went w0 w H base) (cs' : Array Value) : Went w0 (w.setRow g cs') H base :=
  ⟨below_setRow h0.below hb _, fun g' cs t fr h1 h2 h3 => by
    have hl : g' < w0.heap.size := (Array.getElem?_eq_some_iff.1 h3).1
    rw [setRow_other w g g' cs' (by omega)]
    exact h0.kept g' cs t fr h1 h2 h3⟩
def wrapL (e : Wp) : List Int := [e.too] ++ dotL e.ea e.es ++ e.data
/-- A frame. -/
structure Fr where
  author : Int
  number : Int
  ea : Int
  es : Int
  prev : List Int
  wraps : Value
  body : Value
  mac : List Int
def Fr.cells (f : Fr) : List Value := [.int .u8 f.author, .int .u32 f.number] ++ dotC f.ea f.es ++ f.prev.map (Value.int .u8) ++ [f.wraps, f.body] ++ f.mac.map (Value.int .u8)
/-- What is told openly of a frame with the wraps ws. -/
def wrapsL (ws : List Wp) : List Int := (ws.map wrapL).flatten
def openL (f : Fr) (ws : List Wp) : List Int := [69, 83, f.author] ++ be4 f.number ++ dotL f.ea f.es ++ f.prev ++ [(ws.length : Int)] ++ wrapsL ws
theorem wrapL_length (e : Wp) (h : e.data.length = 48) : (wrapL e).length = 54 := by unfold wrapL; simp [dotL_length, h]
theorem wrapsL_take (ws : List Wp) (j : Nat) (hj : j < ws.length) : wrapsL (ws.take (j + 1)) = wrapsL (ws.take j) ++ wrapL ws[j] := by
  unfold wrapsL
  rw [List.take_succ_eq_append_getElem hj, List.map_append, List.flatten_append]
  simp only [List.map_cons, List.map_nil, List.flatten_cons, List.flatten_nil, List.append_nil]
theorem wrapsL_le (ws : List Wp) (h : ∀ e ∈ ws, e.data.length = 48) : (wrapsL ws).length = 54 * ws.length := by
  induction ws with
  | nil => rfl
  | cons e ws ih =>
    have := ih (fun x hx => h x (List.mem_cons_of_mem _ hx))
    unfold wrapsL at this ⊢
    rw [List.map_cons, List.flatten_cons, List.length_append, wrapL_length e (h e (by simp)), this, List.length_cons]; omega
/-- What is known of wraps that are read. -/
structure WrapsAt (w : World) (x : Option Addr) (len cap : Nat) (ws : List Wp) : Prop where
  len_eq : len = ws.length
  le : len ≤ cap
  top : cap ≤ 9223372036854775807
  nil : x = none → cap = 0
  ok : ∀ e ∈ ws, e.data.length = 48
  at_ : len = 0 ∨ ∃ b off, x = some ⟨b, off, none⟩ ∧ ∀ j (hj : j < ws.length), w.rangeAt b (off + j * 51) (ws[j]).cells
theorem rangeAt_below {w w' : World} {b o : Nat} {cs : List Value} (h : w.rangeAt b o cs) (hb : Below w.heap.size w w') : w'.rangeAt b o cs := fun j v hv => by
  have := h j v hv
  rw [hb.cell (p := ⟨b, o + j, none⟩) (block_lt_of_cell this)]; exact this
theorem WrapsAt.below {w w' : World} {x : Option Addr} {len cap : Nat} {ws : List Wp} (h : WrapsAt w x len cap ws) (hb : Below w.heap.size w w') : WrapsAt w' x len cap ws :=
  ⟨h.len_eq, h.le, h.top, h.nil, h.ok, by
    rcases h.at_ with h0 | ⟨b, off, hx, hc⟩
    · exact .inl h0
    · exact .inr ⟨b, off, hx, fun j hj => rangeAt_below (hc j hj) hb⟩⟩
theorem fr_parts (f : Fr) (hp : f.prev.length = 32) (hm : f.mac.length = 32) : f.cells.length = 70 ∧ f.cells[0]? = some (.int .u8 f.author) ∧ f.cells[1]? = some (.int .u32 f.number) ∧ (f.cells.drop 2).take 2 = dotC f.ea f.es ∧ (f.cells.drop 4).take 32 = f.prev.map (Value.int .u8) ∧ f.cells[36]? = some f.wraps ∧ f.cells[37]? = some f.body ∧ (f.cells.drop 38).take 32 = f.mac.map (Value.int .u8) := by
  have e1 : ∀ X : List Value, (([.int .u8 f.author, .int .u32 f.number] : List Value) ++ dotC f.ea f.es ++ X).drop 4 = X := fun X => rfl
  have hP : (f.prev.map (Value.int .u8)).length = 32 := by rw [List.length_map, hp]
  have hM : (f.mac.map (Value.int .u8)).length = 32 := by rw [List.length_map, hm]
  have e0 : f.cells = ([.int .u8 f.author, .int .u32 f.number] : List Value) ++ dotC f.ea f.es ++ (f.prev.map (Value.int .u8) ++ ([f.wraps, f.body] ++ f.mac.map (Value.int .u8))) := by unfold Fr.cells; simp only [List.append_assoc]
  have e36 : f.cells.drop 36 = [f.wraps, f.body] ++ f.mac.map (Value.int .u8) := by
    rw [show 36 = 4 + 32 from rfl, ← List.drop_drop, e0, e1, List.drop_left' hP]
  refine ⟨by rw [e0]; simp [dotC, hp, hm], by rw [e0]; rfl, by rw [e0]; rfl, by rw [e0]; rfl, by rw [e0, e1, List.take_left' hP], ?_, ?_, ?_⟩
  · have := congrArg (fun l => l[0]?) e36
    simpa using this
  · have := congrArg (fun l => l[1]?) e36
    simpa using this
  · rw [show 38 = 36 + 2 from rfl, ← List.drop_drop, e36]
    exact List.take_of_length_le (by simp [hm])
theorem sizeWrap : (Tryd.prog.info? 100).map (·.size) = some 51 := by kernel_rfl
end Go.Proofs.YtgcidamdbidgiaaDoor

namespace Go.Proofs.YtgcidamdbidgiaaDoor
open Go.RowKit
abbrev in8 (x : Int) : Prop := 0 ≤ x ∧ x ≤ 255
abbrev in32 (x : Int) : Prop := 0 ≤ x ∧ x ≤ 4294967295
structure Wp.In (e : Wp) : Prop where
  too : in8 e.too
  ea : in8 e.ea
  es : in32 e.es
  data : ∀ x ∈ e.data, in8 x
structure Fr.In (F : Fr) : Prop where
  author : in8 F.author
  number : in32 F.number
  ea : in8 F.ea
  es : in32 F.es
  prev : ∀ x ∈ F.prev, in8 x
  mac : ∀ x ∈ F.mac, in8 x
/-- A frame that came in, all of it. -/
structure FrIn (W : World) (F : Fr) (xw : Option Addr) (lw cw : Nat) (ws : List Wp) (xb : Option Addr) (lb cb : Nat) (body : List Int) : Prop where
  prev : F.prev.length = 32
  mac : F.mac.length = 32
  wraps : F.wraps = .slice xw lw cw
  body_ : F.body = .slice xb lb cb
  hw : WrapsAt W xw lw cw ws
  hb : Bytes W xb lb cb body
  inF : F.In
  inW : ∀ e ∈ ws, e.In
  inB : ∀ x ∈ body, in8 x
end Go.Proofs.YtgcidamdbidgiaaDoor
