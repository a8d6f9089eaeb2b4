/- The reference's 'Frame'. -/
import Derived.Test.YtmojcanbhlfhgaaDoorWo3
namespace Go.Proofs.YtmojcanbhlfhgaaDoor
open Go.RowKit
set_option maxRecDepth 20000
set_option linter.unusedSimpArgs false

set_option maxHeartbeats 4000000 in
theorem refFrame_long (F : Fr) (xw : Option Addr) (lw cw : Nat) (xb : Option Addr) (lb cb : Nat) (w : World) (hp : F.prev.length = 32) (hm : F.mac.length = 32) (hfw : F.wraps = .slice xw lw cw) (hfb : F.body = .slice xb lb cb) (hl : 64 < lw ∨ 4112 < lb) :
    Calls Tryd.prog 6 #[.agg F.cells.toArray] w fun e w' => e = .returned (.tuple #[.slice none 0 0, .int .i64 2]) ∧ Below w.heap.size w w' := by
  obtain ⟨_, _, _, _, _, q6, q7, _⟩ := fr_parts F hp hm
  have hD0 := CellsAt.new w 30 F.cells
  have hB0 : Below w.heap.size w (w.alloc (.cells F.cells.toArray 30)) := (Below.refl _ _).alloc (Nat.le_refl _) _
  have c36 := hD0.cell 36
  have c37 := hD0.cell 37
  rw [q6, hfw] at c36
  rw [q7, hfb] at c37
  clear q6 q7 hfw hfb hp hm hD0
  by_cases h1 : 64 < lw
  · have h1' : (lw : Int) > 64 := by omega
    clear hl
    go_enter Tryd.func6, Tryd.ntmps6
    go_wp2
    go_ret2
    exact ⟨rfl, hB0⟩
  · have h1' : ¬ (lw : Int) > 64 := by omega
    have h2' : (lb : Int) > 4112 := by omega
    clear hl
    go_enter Tryd.func6, Tryd.ntmps6
    go_wp2
    go_ret2
    exact ⟨rfl, hB0⟩

set_option maxHeartbeats 4000000 in
theorem refFrame_any (F : Fr) (xw : Option Addr) (lw cw : Nat) (ws : List Wp) (xb : Option Addr) (lb cb : Nat) (body : List Int) (w : World) (hp : F.prev.length = 32) (hm : F.mac.length = 32) (hfw : F.wraps = .slice xw lw cw) (hws : WrapsAt w xw lw cw ws) (hfb : F.body = .slice xb lb cb) (hbo : Bytes w xb lb cb body) (h1 : lw ≤ 64) (h2 : lb ≤ 4112) :
    Calls Tryd.prog 6 #[.agg F.cells.toArray] w fun e w' => ∃ v, e = .returned (.tuple #[v, .int .i64 0]) ∧ OwnB w' w.heap.size v (frameL F ws body) ∧ Below w.heap.size w w' := by
  obtain ⟨q0, _, _, _, _, q6, q7, q8⟩ := fr_parts F hp hm
  have HQ : Veil (F.cells[36]? = some (.slice xw lw cw) ∧ F.cells[37]? = some (.slice xb lb cb) ∧ (F.cells.drop 38).take 32 = F.mac.map (Value.int .u8)) := ⟨by rw [← hfw]; exact q6, by rw [← hfb]; exact q7, q8⟩
  have hiF : (Tryd.prog.info? 30).map (·.size) = some F.cells.length := by rw [q0]; exact sizeFrame
  have hol := openL_length F ws hp hws.ok
  rw [← hws.len_eq] at hol
  have HBL : Veil (body.length = lb) := ⟨hbo.len_eq.symm⟩
  have HML : Veil (F.mac.length = 32) := ⟨hm⟩
  have hbody := fun wx (h : Below w.heap.size w wx) => hbo.below h
  have hop := fun wx (h0 : Below w.heap.size w wx) => refOpen_any F xw lw cw ws wx hp hm hfw (hws.below h0) h1
  have hD0 := CellsAt.new w 30 F.cells
  have hB0 : Below w.heap.size w (w.alloc (.cells F.cells.toArray 30)) := (Below.refl _ _).alloc (Nat.le_refl _) _
  have h1' : ¬ (lw : Int) > 64 := by omega
  have h2' : ¬ (lb : Int) > 4112 := by omega
  have c36 := hD0.cell 36
  have c37 := hD0.cell 37
  rw [HQ.out.1] at c36
  rw [HQ.out.2.1] at c37
  have hcw := hws.le
  have htw := hws.top
  have hcb := hbo.le
  have htb := hbo.top
  clear q0 q6 q7 q8 hfw hfb hp hm hws hbo
  go_enter Tryd.func6, Tryd.ntmps6
  go_upto_region 3 with fail
  refine forget (p := fun y => Code.wp _ _ _ _ y) (fun W0 => Below w.heap.size w W0 ∧ CellsAt W0 w.heap.size 30 F.cells) ⟨hB0, hD0⟩ ?_
  clear hB0 hD0 c36 c37
  rintro W0 ⟨hB0, hD0⟩
  have rE : W0.rangeAt w.heap.size 0 F.cells := fun j v hv => by rw [Nat.zero_add, hD0.cell]; exact hv
  have hop1 := hop W0 hB0
  go_upto_region 4 with (first
    | (refine wpList_ldv rfl 30 _ rfl _ _ rfl F.cells rE Tryd.underlying30 rfl hiF ?_)
    | (go_at_call 9; refine hop1.mono ?_; rintro e w1 ⟨v1, rfl, ho1, hb1⟩))
  have hO1 := ho1.lessG hB0.size
  have hD1 := hD0.afar hb1
  have hB1 := hB0.trans (hb1.mono hB0.size)
  obtain ⟨L1, hL1⟩ : ∃ q, openL F ws = q := ⟨_, rfl⟩
  have HL1 : Veil (openL F ws = L1) := ⟨hL1⟩
  rw [hL1] at hO1 hol
  have hl1 : L1.length ≤ 10000 := by omega
  clear hop hop1 rE hD0 hB0 ho1 hb1 hL1 hol
  have c37 : w1.cell? ⟨w.heap.size, 37, none⟩ = some (.slice xb lb cb) := by rw [hD1.cell]; exact HQ.out.2.1
  have e1 : IntKind.u8.wrap ((lb : Int) / 2 ^ 8) = (lb : Int) / 256 % 256 := by simp [IntKind.wrap, IntKind.bits, IntKind.signed]
  have e2 : IntKind.u8.wrap (lb : Int) = (lb : Int) % 256 := by simp [IntKind.wrap, IntKind.bits, IntKind.signed]
  have e3 : IntKind.u8.wrap ((lb : Int) / 256) = (lb : Int) / 256 % 256 := by simp [IntKind.wrap, IntKind.bits, IntKind.signed]
  have hO2 : OwnB (w1.alloc (.cells (row .u8 (be2 lb)) 5)) w.heap.size v1 L1 := hO1.alloc _
  have hD2 := hD1.alloc (.cells (row .u8 (be2 lb)) 5)
  have hB2 := hB1.alloc hB1.size (.cells (row .u8 (be2 lb)) 5)
  have hy2 := new_bytes w1 (be2 lb) (by simp [be2])
  go_upto_region 5 with (at_builtin; refine wpList_app rfl _ _ rfl w.heap.size _ L1 rfl hO2 (some ⟨w1.heap.size, 0, none⟩) 2 2 (be2 lb) rfl hy2 (by omega) hB2.size ?_; intro v3 w3 ho3 hg3)
  have hD3 := hD2.grown hO2 hg3 (by decide)
  have hB3 : Below w.heap.size w w3 := below_grown hB2 hO2 hg3 hB2.size
  have hl3 : (L1 ++ be2 lb).length ≤ 10002 := by rw [List.length_append]; simp [be2]; omega
  obtain ⟨L3, hL3⟩ : ∃ q, L1 ++ be2 lb = q := ⟨_, rfl⟩
  have HL3 : Veil (L1 ++ be2 lb = L3) := ⟨hL3⟩
  rw [hL3] at ho3 hl3
  clear hL3 hg3 hO2 hD2 hB2 hy2 e1 e2 e3 c37 hO1 hD1 hB1
  have c37 : w3.cell? ⟨w.heap.size, 37, none⟩ = some (.slice xb lb cb) := by rw [hD3.cell]; exact HQ.out.2.1
  have hy3 := hbody w3 hB3
  go_upto_region 6 with (at_builtin; refine wpList_app rfl _ _ rfl w.heap.size _ L3 rfl ho3 xb lb cb body rfl hy3 (by omega) hB3.size ?_; intro v4 w4 ho4 hg4)
  have hD4 := hD3.grown ho3 hg4 (by decide)
  have hB4 : Below w.heap.size w w4 := below_grown hB3 ho3 hg4 hB3.size
  have hl4 : (L3 ++ body).length ≤ 20000 := by rw [List.length_append, HBL.out]; omega
  clear hg4 ho3 hD3 hB3 c37 hy3 hbody
  have rM : w4.rangeAt w.heap.size 38 (F.mac.map (Value.int .u8)) := by
    have := hD4.range 38 32
    rw [HQ.out.2.2] at this
    exact this
  have hy4 := rangeBytes rM HML.out.symm (by rw [HML.out]; omega)
  go_wp2_with (at_builtin; refine wpList_app rfl _ _ rfl w.heap.size _ (L3 ++ body) rfl ho4 (some ⟨w.heap.size, 38, none⟩) 32 32 F.mac rfl hy4 (by omega) hB4.size ?_; intro v5 w5 ho5 hg5)
  go_ret2
  refine ⟨_, rfl, ?_, below_grown hB4 ho4 hg5 hB4.size⟩
  unfold frameL
  rw [HBL.out, HL1.out, HL3.out]
  exact ho5
end Go.Proofs.YtmojcanbhlfhgaaDoor
