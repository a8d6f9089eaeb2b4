/- Which events are right: 'noMember', 'noText', 'rightDot' of causal. -/
import Derived.Test.YthodlbkgggaibaaCv1
import Derived.Test.YthodlbkgggaibaaEqd
namespace Go.Proofs.Ythodlbkgggaibaa
open Go.RowKit
set_option maxRecDepth 20000
set_option linter.unusedSimpArgs false

/-- An event's number of a member, and role, are none. -/
def noMemB (e : Ev) : Bool := (e.who == 0) && (e.role == 0)
/-- An event says nothing of a text. -/
def noTextB (e : Ev) : Bool := ((e.pa == 0) && (e.ps == 0)) && (!e.right && (e.char == 0))
theorem ev_cell15 (e : Ev) (hp : e.past.length = 8) : e.cells[13]? = some (.bool e.right) ∧ e.cells[14]? = some (.int .u8 e.char) ∧ e.cells[15]? = some (.int .u8 e.who) ∧ e.cells[16]? = some (.int .u8 e.role) ∧ e.cells.length = 17 := by
  obtain ⟨da, ds, past, kind, pa, ps, right, char, who, role⟩ := e
  match past, hp with
  | [_, _, _, _, _, _, _, _], _ => exact ⟨rfl, rfl, rfl, rfl, rfl⟩
set_option maxHeartbeats 1000000 in
theorem cnoMem_any (e : Ev) (w : World) (hp : e.past.length = 8) :
    Calls Try.prog 48 #[.agg e.cells.toArray] w fun x w' => x = .returned (.bool (noMemB e)) ∧ Below w.heap.size w w' := by
  have h0 := CellsAt.new w 41 e.cells
  have hB : Below w.heap.size w (w.alloc (.cells e.cells.toArray 41)) := (Below.refl _ _).alloc (Nat.le_refl _) _
  obtain ⟨_, _, q15, q16, _⟩ := ev_cell15 e hp
  have c15 := (h0.cell 15).trans q15
  have c16 := (h0.cell 16).trans q16
  have HH : Veil (noMemB e = ((e.who == 0) && (e.role == 0))) := ⟨rfl⟩
  obtain ⟨wo, hwo⟩ : ∃ q, e.who = q := ⟨_, rfl⟩
  obtain ⟨ro, hro⟩ : ∃ q, e.role = q := ⟨_, rfl⟩
  rw [hwo] at c15 HH
  rw [hro] at c16 HH
  clear q15 q16 hwo hro h0
  by_cases k1 : wo = 0
  · subst k1
    go_enter Try.func48, Try.ntmps48
    go_upto_region 1 with fail
    refine forget (p := fun y => Code.wp _ _ _ _ y) (fun W => Below w.heap.size w W ∧ W.cell? ⟨w.heap.size, 15, none⟩ = some (.int .u8 0) ∧ W.cell? ⟨w.heap.size, 16, none⟩ = some (.int .u8 ro)) ⟨hB, c15, c16⟩ ?_
    clear hB c15 c16
    rintro W ⟨hB, c15, c16⟩
    go_wp2
    go_ret
    exact ⟨by rw [HH.out]; rfl, hB⟩
  · have k1' : (wo == 0) = false := by simpa using k1
    go_enter Try.func48, Try.ntmps48
    go_upto_region 1 with fail
    refine forget (p := fun y => Code.wp _ _ _ _ y) (fun W => Below w.heap.size w W ∧ W.cell? ⟨w.heap.size, 15, none⟩ = some (.int .u8 wo) ∧ W.cell? ⟨w.heap.size, 16, none⟩ = some (.int .u8 ro)) ⟨hB, c15, c16⟩ ?_
    clear hB c15 c16
    rintro W ⟨hB, c15, c16⟩
    go_wp2
    go_ret
    exact ⟨by rw [HH.out, k1']; rfl, hB⟩
theorem ev_parent (e : Ev) (hp : e.past.length = 8) : (e.cells.drop 11).take 2 = dotC e.pa e.ps := (ev_parts e hp).2.2.2.1
theorem ev_past (e : Ev) (hp : e.past.length = 8) : (e.cells.drop 2).take 8 = e.past.map (Value.int .u32) := (ev_parts e hp).2.1
set_option maxHeartbeats 2000000 in
theorem cnoText_any (e : Ev) (w : World) (hp : e.past.length = 8) :
    Calls Try.prog 49 #[.agg e.cells.toArray] w fun x w' => x = .returned (.bool (noTextB e)) ∧ Below w.heap.size w w' := by
  have h0 := CellsAt.new w 41 e.cells
  have hB : Below w.heap.size w (w.alloc (.cells e.cells.toArray 41)) := (Below.refl _ _).alloc (Nat.le_refl _) _
  obtain ⟨q13, q14, _, _, _⟩ := ev_cell15 e hp
  have c13 := (h0.cell 13).trans q13
  have c14 := (h0.cell 14).trans q14
  have rg := h0.range 11 2
  rw [ev_parent e hp] at rg
  have heq : ∀ wx, (binOp BinOp.eql 38 (.agg (dotC e.pa e.ps).toArray) (.agg #[.int .u8 0, .int .u32 0])).run Try.prog wx = .ok (.bool ((e.pa == 0) && (e.ps == 0))) wx := fun wx => dot_eql e.pa e.ps 0 0 wx
  have HH : Veil (noTextB e = (((e.pa == 0) && (e.ps == 0)) && (!e.right && (e.char == 0)))) := ⟨rfl⟩
  obtain ⟨r, hr⟩ : ∃ q, ((e.pa == 0) && (e.ps == 0)) = q := ⟨_, rfl⟩
  simp only [hr] at heq
  rw [hr] at HH
  have hDl : (Try.prog.info? 38).map (·.size) = some (dotC e.pa e.ps).length := sizeDot
  obtain ⟨DP, hDP⟩ : ∃ q, dotC e.pa e.ps = q := ⟨_, rfl⟩
  rw [hDP] at rg hDl
  simp only [hDP] at heq
  obtain ⟨ri, hri⟩ : ∃ q, e.right = q := ⟨_, rfl⟩
  obtain ⟨ch, hch⟩ : ∃ q, e.char = q := ⟨_, rfl⟩
  rw [hri] at c13 HH
  rw [hch] at c14 HH
  have uD := Try.underlying38
  clear q13 q14 hri hch h0 hDP hr
  cases r <;> cases ri
  all_goals
    go_enter Try.func49, Try.ntmps49
    go_upto_region 1 with fail
    refine forget (p := fun y => Code.wp _ _ _ _ y) (fun W => Below w.heap.size w W ∧ W.cell? ⟨w.heap.size, 13, none⟩ = some (.bool _) ∧ W.cell? ⟨w.heap.size, 14, none⟩ = some (.int .u8 ch) ∧ W.rangeAt w.heap.size 11 DP) ⟨hB, c13, c14, rg⟩ ?_
    clear hB c13 c14 rg
    rintro W ⟨hB, c13, c14, rg⟩
    go_wp2_with (refine wpList_ldv rfl 38 _ rfl w.heap.size 11 rfl DP rg uD rfl hDl ?_)
    go_ret
    exact ⟨by rw [HH.out]; simp, hB⟩
end Go.Proofs.Ythodlbkgggaibaa

