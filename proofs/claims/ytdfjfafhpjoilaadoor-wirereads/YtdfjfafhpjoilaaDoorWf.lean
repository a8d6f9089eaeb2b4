/- 'few' of the statements on wire. (Written by mkwf.py.) -/
import Derived.Test.YtdfjfafhpjoilaaDoorWo2
import Derived.Test.YtdfjfafhpjoilaaDoorWl
namespace Go.Proofs.YtdfjfafhpjoilaaDoor
open Go.RowKit
set_option maxRecDepth 20000
set_option linter.unusedSimpArgs false

theorem CellsAt.frozen {w : World} {g : Nat} {t : TypeId} {cs : List Value} (h : CellsAt w g t cs) (j : Nat) : w.frozen? ⟨g, j, none⟩ = false := frozen_of_row w g j _ t h
theorem CellsAt.set {w : World} {g : Nat} {t : TypeId} {cs : List Value} (h : CellsAt w g t cs) (j : Nat) (v : Value) : CellsAt (w.setCell ⟨g, j, none⟩ v) g t (cs.set j v) := by
  unfold CellsAt at h ⊢
  rw [heap_setCell_same w g j _ t _ h]; simp
theorem CellsAt.setOther {w : World} {g : Nat} {t : TypeId} {cs : List Value} (h : CellsAt w g t cs) (a : Addr) (v : Value) (hne : g ≠ a.block) : CellsAt (w.setCell a v) g t cs := by
  unfold CellsAt at h ⊢
  rw [heap_setCell_other w a g v hne]; exact h
theorem CellsAt.whole {w : World} {g : Nat} {t : TypeId} {cs : List Value} (h : CellsAt w g t cs) : w.rangeAt g 0 cs := fun j v hv => by rw [Nat.zero_add, h.cell]; exact hv
theorem fr_setW (F : Fr) (v : Value) (hp : F.prev.length = 32) : F.cells.set 36 v = ({ F with wraps := v } : Fr).cells := by
  have e0 : ∀ G : Fr, G.cells = ([.int .u8 G.author, .int .u32 G.number] ++ dotC G.ea G.es ++ G.prev.map (Value.int .u8)) ++ ([G.wraps, G.body] ++ G.mac.map (Value.int .u8)) := fun G => by unfold Fr.cells; simp only [List.append_assoc]
  have hl : (([.int .u8 F.author, .int .u32 F.number] : List Value) ++ dotC F.ea F.es ++ F.prev.map (Value.int .u8)).length = 36 := by simp [dotC, hp]
  rw [e0 F, e0 _, List.set_append_right _ _ (by omega), hl]; rfl
theorem fr_setB (F : Fr) (v : Value) (hp : F.prev.length = 32) : F.cells.set 37 v = ({ F with body := v } : Fr).cells := by
  have e0 : ∀ G : Fr, G.cells = ([.int .u8 G.author, .int .u32 G.number] ++ dotC G.ea G.es ++ G.prev.map (Value.int .u8)) ++ ([G.wraps, G.body] ++ G.mac.map (Value.int .u8)) := fun G => by unfold Fr.cells; simp only [List.append_assoc]
  have hl : (([.int .u8 F.author, .int .u32 F.number] : List Value) ++ dotC F.ea F.es ++ F.prev.map (Value.int .u8)).length = 36 := by simp [dotC, hp]
  rw [e0 F, e0 _, List.set_append_right _ _ (by omega), hl]; rfl
theorem fr_one (F : Fr) (x y : Option Addr) (l c m d : Nat) (hw : F.wraps = .slice x l c) (hb : F.body = .slice y m d) : ∀ v ∈ F.cells, v.oneCell' = true := by
  intro v hv
  unfold Fr.cells dotC at hv
  rw [hw, hb] at hv
  simp only [List.mem_append, List.mem_cons, List.not_mem_nil, or_false, List.mem_map] at hv
  rcases hv with ((((rfl | rfl) | (rfl | rfl)) | ⟨_, _, rfl⟩) | (rfl | rfl)) | ⟨_, _, rfl⟩ <;> rfl
theorem sizeWp (w : World) : (sizeOf (Tryd.prog.elem 28)).run Tryd.prog w = .ok 51 w := by kernel_rfl
theorem elemW : Tryd.prog.underlying 28 = some (.slice (Tryd.prog.elem 28)) := by kernel_rfl
theorem run_cutW (w : World) (b o len cap : Nat) (hh : 80 ≤ cap) : (Instr.slice 28 (.slice (some ⟨b, o, none⟩) len cap) none (some (.int .i64 80)) none).run Tryd.prog w = .ok (.slice (some ⟨b, o, none⟩) 80 cap) w := by
  rw [run_slice_h w 28 (some ⟨b, o, none⟩) len cap elemW .i64 80 (by omega) (by omega), sizeWp]
  simp [sliced, Result.andThen, Addr.add_mid']
theorem run_cutB (w : World) (b o len cap : Nat) (hh : 5000 ≤ cap) : (Instr.slice 22 (.slice (some ⟨b, o, none⟩) len cap) none (some (.int .i64 5000)) none).run Tryd.prog w = .ok (.slice (some ⟨b, o, none⟩) 5000 cap) w := by
  rw [run_slice_h w 22 (some ⟨b, o, none⟩) len cap elemB .i64 5000 (by omega) (by omega), sizeU8]
  simp [sliced, Result.andThen, Addr.add_mid']
/-- A frame of not too many wraps, and a body that is not too long. -/
def Fr.few (F : Fr) (x : Option Addr) (l c : Nat) (y : Option Addr) (m d : Nat) : Fr := { F with wraps := .slice x (min l 80) c, body := .slice y (min m 5000) d }
theorem WrapsAt.few {w : World} {x : Option Addr} {len cap : Nat} {ws : List Wp} (h : WrapsAt w x len cap ws) (n : Nat) : WrapsAt w x (min len n) cap (ws.take n) := by
  have hz := h.len_eq
  refine ⟨by rw [List.length_take]; omega, by have := h.le; omega, h.top, h.nil, fun e he => h.ok e (List.mem_of_mem_take he), ?_⟩
  rcases h.at_ with h0 | ⟨b, off, hx, hc⟩
  · exact .inl (by omega)
  · exact .inr ⟨b, off, hx, fun j hj => by rw [List.getElem_take]; exact hc j (by rw [List.length_take] at hj; omega)⟩

end Go.Proofs.YtdfjfafhpjoilaaDoor
