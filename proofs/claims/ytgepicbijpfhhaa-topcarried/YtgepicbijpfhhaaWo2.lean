/- 'Open' of wire; the reference's 'Open'. -/
import Derived.Test.YtgepicbijpfhhaaGd
import Derived.Test.YtgepicbijpfhhaaWr6
namespace Go.Proofs.Ytgepicbijpfhhaa
open Go.RowKit
set_option maxRecDepth 20000
set_option linter.unusedSimpArgs false

theorem CellsAt.afar {w w' : World} {g : Nat} {t : TypeId} {cs : List Value} (h : CellsAt w g t cs) (hb : Below w.heap.size w w') : CellsAt w' g t cs := by
  have hl := h.lt
  unfold CellsAt at h ⊢; rw [hb.block g hl]; exact h
theorem CellsAt.grown {w w' : World} {base g : Nat} {v : Value} {z : List Int} {t : TypeId} {cs : List Value} (h : CellsAt w g t cs) (ho : OwnB w base v z) (hg : w.grownBy w' v.ownBlock) (ht : t ≠ 5) : CellsAt w' g t cs := grownT ho hg h ht
/-- A change of a block of another type leaves the bytes that grow. -/
theorem OwnB.keepT {w w' : World} {base g0 : Nat} {v : Value} {z : List Int} {t : TypeId} {cs : List Value} (h : OwnB w base v z) (hc : CellsAt w g0 t cs) (ht : t ≠ 5) (hk : ∀ g, g ≠ g0 → w'.heap[g]? = w.heap[g]?) : OwnB w' base v z := by
  refine ⟨h.1, ?_⟩
  rcases h.2 with h' | ⟨g, cap, cur, h1, h2, h3, h4⟩
  · exact .inl h'
  · refine .inr ⟨g, cap, cur, h1, h2, ?_, h4⟩
    rw [hk g (fun e => by
      subst e
      unfold CellsAt at hc
      rw [h3] at hc
      simp at hc
      exact ht hc.2.symm)]
    exact h3
set_option maxHeartbeats 4000000 in
theorem Open_long (F : Fr) (xw : Option Addr) (lw cw : Nat) (w : World) (hp : F.prev.length = 32) (hm : F.mac.length = 32) (hfw : F.wraps = .slice xw lw cw) (hl : 64 < lw) :
    Calls Try.prog 6 #[.agg F.cells.toArray] w fun e w' => e = .returned (.slice none 0 0) ∧ Below w.heap.size w w' := by
  obtain ⟨_, _, _, _, _, q6, _, _⟩ := fr_parts F hp hm
  have hD0 := CellsAt.new w 30 F.cells
  have hB0 : Below w.heap.size w (w.alloc (.cells F.cells.toArray 30)) := (Below.refl _ _).alloc (Nat.le_refl _) _
  have c36 := hD0.cell 36
  rw [q6, hfw] at c36
  clear q6 hfw hp hm hD0
  have h1' : (lw : Int) > 64 := by omega
  go_enter Try.func6, Try.ntmps6
  go_wp2
  go_ret
  exact ⟨rfl, hB0⟩
set_option maxHeartbeats 4000000 in
theorem Open_any (F : Fr) (xw : Option Addr) (lw cw : Nat) (ws : List Wp) (w : World) (hp : F.prev.length = 32) (hm : F.mac.length = 32) (hfw : F.wraps = .slice xw lw cw) (hws : WrapsAt w xw lw cw ws) (h1 : lw ≤ 64) :
    Calls Try.prog 6 #[.agg F.cells.toArray] w fun e w' => ∃ v, e = .returned v ∧ OwnB w' w.heap.size v (openL F ws) ∧ Below w.heap.size w w' := by
  obtain ⟨q0, _, _, _, _, q6, q7, q8⟩ := fr_parts F hp hm
  have HQ : Veil (F.cells[36]? = some (.slice xw lw cw)) := ⟨by rw [← hfw]; exact q6⟩
  have hiF : (Try.prog.info? 30).map (·.size) = some F.cells.length := by rw [q0]; exact sizeFrame
  have hop := fun wx (h0 : Below w.heap.size w wx) (h : Wr wx (w.heap.size + 1) w.heap.size []) => openly_any (w.heap.size + 1) w.heap.size [] F xw lw cw ws wx h hp hm hfw (fun wy hy => hws.below (h0.trans hy)) (by omega) (by simp)
  have hD0 := CellsAt.new w 30 F.cells
  have hB0 : Below w.heap.size w (w.alloc (.cells F.cells.toArray 30)) := (Below.refl _ _).alloc (Nat.le_refl _) _
  have h1' : ¬ (lw : Int) > 64 := by omega
  have c36 := hD0.cell 36
  rw [HQ.out] at c36
  have hcw := hws.le
  have htw := hws.top
  clear q0 q6 q7 q8 hfw hp hm hws
  go_enter Try.func6, Try.ntmps6
  go_upto_region 3 with fail
  refine forget (p := fun y => Code.wp _ _ _ _ y) (fun W0 => Below w.heap.size w W0 ∧ W0.heap.size = w.heap.size + 1 ∧ CellsAt W0 w.heap.size 30 F.cells) ⟨hB0, by simp, hD0⟩ ?_
  clear hB0 hD0 c36
  rintro W0 ⟨hB0, hsz0, hD0⟩
  have hbx : Box (W0.alloc (.cells #[.slice none 0 0] 50)) (w.heap.size + 1) 50 (.slice none 0 0) := by
    have : Box (W0.alloc (.cells #[.slice none 0 0] 50)) W0.heap.size 50 (.slice none 0 0) := heap_alloc_new _ _
    rw [hsz0] at this
    exact this
  have hW1 : Wr (W0.alloc (.cells #[.slice none 0 0] 50)) (w.heap.size + 1) w.heap.size [] := ⟨by omega, _, hbx, OwnB.nil _ _⟩
  have hD1 := hD0.alloc (.cells #[.slice none 0 0] 50)
  have hB1 := hB0.alloc hB0.size (.cells #[.slice none 0 0] 50)
  go_upto_region 4 with fail
  refine forget (p := fun y => Code.wp _ _ _ _ y) (fun W1 => Below w.heap.size w W1 ∧ Wr W1 (w.heap.size + 1) w.heap.size [] ∧ CellsAt W1 w.heap.size 30 F.cells) ⟨hB1, hW1, hD1⟩ ?_
  clear hB1 hW1 hD1 hbx hB0 hD0 hsz0
  rintro W1 ⟨hB1, hW1, hD1⟩
  have rE : W1.rangeAt w.heap.size 0 F.cells := fun j v hv => by rw [Nat.zero_add, hD1.cell]; exact hv
  have hop1 := hop W1 hB1 hW1
  rw [List.nil_append] at hop1
  go_upto_region 5 with (first
    | (refine wpList_ldv rfl 30 _ rfl _ _ rfl F.cells rE Try.underlying30 rfl hiF ?_)
    | (go_at_call 14; refine hop1.mono ?_; rintro e w2 ⟨⟨r2, rfl⟩, hW2, hg2⟩))
  have hB2 : Below w.heap.size w w2 := hB1.trans hg2.below
  obtain ⟨v, hb5, ho5⟩ := hW2.has
  have c0 := hb5.cell
  obtain ⟨x5, n5, c5, rfl, hn5⟩ := ho5.isSlice
  clear hn5 hop hop1 rE hD1 hW1 hB1 hg2 hb5 hW2
  go_wp2
  go_ret
  exact ⟨_, rfl, ho5, hB2⟩
end Go.Proofs.Ytgepicbijpfhhaa
