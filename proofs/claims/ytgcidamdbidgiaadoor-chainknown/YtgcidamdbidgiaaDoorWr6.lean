/- 'Frame', 'Open' of wire. -/
import Derived.Test.YtgcidamdbidgiaaDoorWr5
namespace Go.Proofs.YtgcidamdbidgiaaDoor
open Go.RowKit
set_option maxRecDepth 20000
set_option linter.unusedSimpArgs false

/-- A frame's bytes. -/
def frameL (f : Fr) (ws : List Wp) (body : List Int) : List Int := openL f ws ++ be2 body.length ++ body ++ f.mac
theorem openL_length (f : Fr) (ws : List Wp) (hp : f.prev.length = 32) (h : ∀ e ∈ ws, e.data.length = 48) : (openL f ws).length = 45 + 54 * ws.length := by
  unfold openL
  simp only [List.length_append, be4_length, dotL_length, hp, wrapsL_le ws h, List.length_cons, List.length_nil]
theorem sizeFrame : (Tryd.prog.info? 38).map (·.size) = some 70 := by kernel_rfl

set_option maxHeartbeats 4000000 in
theorem Frame_long (F : Fr) (xw : Option Addr) (lw cw : Nat) (xb : Option Addr) (lb cb : Nat) (w : World) (hp : F.prev.length = 32) (hm : F.mac.length = 32) (hfw : F.wraps = .slice xw lw cw) (hfb : F.body = .slice xb lb cb) (hl : 64 < lw ∨ 4112 < lb) :
    Calls Tryd.prog 51 #[.agg F.cells.toArray] w fun e w' => e = .returned (.tuple #[.slice none 0 0, .int .i64 2]) ∧ Below w.heap.size w w' := by
  obtain ⟨_, _, _, _, _, q6, q7, _⟩ := fr_parts F hp hm
  have hD0 := CellsAt.new w 38 F.cells
  have hB0 : Below w.heap.size w (w.alloc (.cells F.cells.toArray 38)) := (Below.refl _ _).alloc (Nat.le_refl _) _
  have c36 := hD0.cell 36
  have c37 := hD0.cell 37
  rw [q6, hfw] at c36
  rw [q7, hfb] at c37
  clear q6 q7 hfw hfb hp hm hD0
  by_cases h1 : 64 < lw
  · have h1' : (lw : Int) > 64 := by omega
    clear hl
    go_enter Tryd.func51, Tryd.ntmps51
    go_wp2
    go_ret2
    exact ⟨rfl, hB0⟩
  · have h1' : ¬ (lw : Int) > 64 := by omega
    have h2' : (lb : Int) > 4112 := by omega
    clear hl
    go_enter Tryd.func51, Tryd.ntmps51
    go_wp2
    go_ret2
    exact ⟨rfl, hB0⟩

set_option maxHeartbeats 4000000 in
theorem Frame_any (F : Fr) (xw : Option Addr) (lw cw : Nat) (ws : List Wp) (xb : Option Addr) (lb cb : Nat) (body : List Int) (w : World) (hp : F.prev.length = 32) (hm : F.mac.length = 32) (hfw : F.wraps = .slice xw lw cw) (hws : WrapsAt w xw lw cw ws) (hfb : F.body = .slice xb lb cb) (hbo : Bytes w xb lb cb body) (h1 : lw ≤ 64) (h2 : lb ≤ 4112) :
    Calls Tryd.prog 51 #[.agg F.cells.toArray] w fun e w' => ∃ v, e = .returned (.tuple #[v, .int .i64 0]) ∧ OwnB w' w.heap.size v (frameL F ws body) ∧ Below w.heap.size w w' := by
  obtain ⟨q0, _, _, _, _, q6, q7, q8⟩ := fr_parts F hp hm
  have HQ : Veil (F.cells[36]? = some (.slice xw lw cw) ∧ F.cells[37]? = some (.slice xb lb cb) ∧ (F.cells.drop 38).take 32 = F.mac.map (Value.int .u8)) := ⟨by rw [← hfw]; exact q6, by rw [← hfb]; exact q7, q8⟩
  have hiF : (Tryd.prog.info? 38).map (·.size) = some F.cells.length := by rw [q0]; exact sizeFrame
  have hol := openL_length F ws hp hws.ok
  rw [← hws.len_eq] at hol
  have HBL : Veil (body.length = lb) := ⟨hbo.len_eq.symm⟩
  have HML : Veil (F.mac.length = 32) := ⟨hm⟩
  have hbody := fun wx (h : Below w.heap.size w wx) => hbo.below h
  have hop := fun wx (h0 : Below w.heap.size w wx) (h : Wr wx (w.heap.size + 1) w.heap.size []) => openly_any (w.heap.size + 1) w.heap.size [] F xw lw cw ws wx h hp hm hfw (fun wy hy => hws.below (h0.trans hy)) (by omega) (by simp)
  have hD0 := CellsAt.new w 38 F.cells
  have hB0 : Below w.heap.size w (w.alloc (.cells F.cells.toArray 38)) := (Below.refl _ _).alloc (Nat.le_refl _) _
  have h1' : ¬ (lw : Int) > 64 := by omega
  have h2' : ¬ (lb : Int) > 4112 := by omega
  have c36 := hD0.cell 36
  have c37 := hD0.cell 37
  rw [HQ.out.1] at c36
  rw [HQ.out.2.1] at c37
  have hcw := hws.le
  have htw := hws.top
  have hcb := hbo.le
  have htb := hbo.top
  clear q0 q6 q7 q8 hfw hfb hp hm hws hbo
  go_enter Tryd.func51, Tryd.ntmps51
  go_upto_region 3 with fail
  refine forget (p := fun y => Code.wp _ _ _ _ y) (fun W0 => Below w.heap.size w W0 ∧ W0.heap.size = w.heap.size + 1 ∧ CellsAt W0 w.heap.size 38 F.cells) ⟨hB0, by simp, hD0⟩ ?_
  clear hB0 hD0 c36 c37
  rintro W0 ⟨hB0, hsz0, hD0⟩
  have hbx : Box (W0.alloc (.cells #[.slice none 0 0] 106)) (w.heap.size + 1) 106 (.slice none 0 0) := by
    have : Box (W0.alloc (.cells #[.slice none 0 0] 106)) W0.heap.size 106 (.slice none 0 0) := heap_alloc_new _ _
    rw [hsz0] at this
    exact this
  have hW1 : Wr (W0.alloc (.cells #[.slice none 0 0] 106)) (w.heap.size + 1) w.heap.size [] := ⟨by omega, _, hbx, OwnB.nil _ _⟩
  have hD1 := hD0.alloc (.cells #[.slice none 0 0] 106)
  have hB1 := hB0.alloc hB0.size (.cells #[.slice none 0 0] 106)
  go_upto_region 4 with fail
  refine forget (p := fun y => Code.wp _ _ _ _ y) (fun W1 => Below w.heap.size w W1 ∧ Wr W1 (w.heap.size + 1) w.heap.size [] ∧ CellsAt W1 w.heap.size 38 F.cells) ⟨hB1, hW1, hD1⟩ ?_
  clear hB1 hW1 hD1 hbx hB0 hD0 hsz0
  rintro W1 ⟨hB1, hW1, hD1⟩
  have rE : W1.rangeAt w.heap.size 0 F.cells := fun j v hv => by rw [Nat.zero_add, hD1.cell]; exact hv
  have hop1 := hop W1 hB1 hW1
  rw [List.nil_append] at hop1
  go_upto_region 5 with (first
    | (refine wpList_ldv rfl 38 _ rfl _ _ rfl F.cells rE Tryd.underlying38 rfl hiF ?_)
    | (go_at_call 58; refine hop1.mono ?_; rintro e w2 ⟨⟨r2, rfl⟩, hW2, hg2⟩))
  have hD2 := hD1.went hg2 (by omega) (by decide)
  have hB2 : Below w.heap.size w w2 := hB1.trans hg2.below
  obtain ⟨L1, hL1⟩ : ∃ q, openL F ws = q := ⟨_, rfl⟩
  have HL1 : Veil (openL F ws = L1) := ⟨hL1⟩
  rw [hL1] at hW2 hol
  have hl1 : L1.length ≤ 10000 := by omega
  have c37 : w2.cell? ⟨w.heap.size, 37, none⟩ = some (.slice xb lb cb) := by rw [hD2.cell]; exact HQ.out.2.1
  have htw2 := two_any (w.heap.size + 1) w.heap.size L1 lb w2 hW2 (by omega)
  clear hop hop1 rE hD1 hW1 hB1 hg2 hL1 hol
  go_upto_region 6 with (go_at_call 59; refine htw2.mono ?_; rintro e w3 ⟨⟨r3, rfl⟩, hW3, hg3⟩)
  have hD3 := hD2.went hg3 (by omega) (by decide)
  have hB3 : Below w.heap.size w w3 := hB2.trans hg3.below
  have hl2 : (L1 ++ be2 lb).length ≤ 10002 := by rw [List.length_append]; simp [be2]; omega
  have hp3 := put_any (w.heap.size + 1) w.heap.size (L1 ++ be2 lb) xb lb cb body w3 hW3 (hbody w3 hB3) (by omega)
  have c37 : w3.cell? ⟨w.heap.size, 37, none⟩ = some (.slice xb lb cb) := by rw [hD3.cell]; exact HQ.out.2.1
  clear htw2 hD2 hW2 hB2 hg3
  go_upto_region 7 with (go_at_call 60; refine hp3.mono ?_; rintro e w4 ⟨⟨r4, rfl⟩, hW4, hg4⟩)
  have hD4 := hD3.went hg4 (by omega) (by decide)
  have hB4 : Below w.heap.size w w4 := hB3.trans hg4.below
  have rM : w4.rangeAt w.heap.size 38 (F.mac.map (Value.int .u8)) := by
    have := hD4.range 38 32
    rw [HQ.out.2.2] at this
    exact this
  have hp4 := put_any (w.heap.size + 1) w.heap.size (L1 ++ be2 lb ++ body) (some ⟨w.heap.size, 38, none⟩) 32 32 F.mac w4 hW4 (rangeBytes rM HML.out.symm (by rw [HML.out]; omega)) (by rw [List.length_append, HBL.out]; omega)
  clear hp3 c37 hD3 hW3 hB3 hg4
  go_upto_region 8 with (go_at_call 60; refine hp4.mono ?_; rintro e w5 ⟨⟨r5, rfl⟩, hW5, hg5⟩)
  obtain ⟨v, hb5, ho5⟩ := hW5.has
  have c0 := hb5.cell
  have hB5 : Below w.heap.size w w5 := hB4.trans hg5.below
  obtain ⟨x5, n5, c5, rfl, hn5⟩ := ho5.isSlice
  clear hn5 hp4 rM hW5 hb5 hg5 hD4 hW4 hB4
  go_wp2
  go_ret2
  refine ⟨_, rfl, ?_, hB5⟩
  unfold frameL
  rw [HBL.out, HL1.out]
  exact ho5
end Go.Proofs.YtgcidamdbidgiaaDoor
