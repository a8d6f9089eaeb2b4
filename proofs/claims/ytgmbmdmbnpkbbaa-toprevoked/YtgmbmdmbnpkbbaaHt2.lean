/- top05: applied; a document of the call's own, by its pointer. -/
import Derived.Test.YtgmbmdmbnpkbbaaDc14
import Derived.Test.YtgmbmdmbnpkbbaaDc13
namespace Go.Proofs.Ytgmbmdmbnpkbbaa
open Go.RowKit Go.Shelf
set_option maxRecDepth 20000
set_option linter.unusedSimpArgs false
/-- At D lies a document, all of it above base. -/
def AtD (base : Nat) (W : World) (st : Ds) (D : Nat) : Prop := ∃ p, p.D = D ∧ DocAt W base st p ∧ ∀ k, docP p k → base ≤ k
theorem AtD.far {base : Nat} {W W' : World} {st : Ds} {D : Nat} (h : AtD base W st D) (hb : Below W.heap.size W W') : AtD base W' st D := by
  obtain ⟨p, h1, h2, h3⟩ := h
  exact ⟨p, h1, h2.far hb, h3⟩
theorem AtD.to {base : Nat} {W W' : World} {st' : Ds} {D : Nat} {p p' : Pl} (hD : p.D = D) (ha : ∀ k, docP p k → base ≤ k) (h : DocAt W' base st' p') (ht : DocTo p p' W W') (hb : base ≤ W.heap.size) : AtD base W' st' D ∧ Below base W W' :=
  ⟨⟨p', ht.at_.trans hD, h, fun k q => by
    rcases ht.own k q with r | r
    · exact ha k r
    · omega⟩, ht.turn.below hb ha⟩
theorem AtD.new (w : World) : Calls Try.prog 6 #[] w fun r w' => ∃ D, r = .returned (.pointer (some ⟨D, 0, none⟩)) ∧ AtD w.heap.size w' newS D ∧ Below w.heap.size w w' :=
  (dNew_any w).mono fun _ _ ⟨p, h1, h2, h3, h4⟩ => ⟨p.D, h1, ⟨p, rfl, h2, h4⟩, h3⟩
set_option maxHeartbeats 4000000 in
theorem applied_any (base : Nat) (st : Ds) (D : Nat) (e : Ev) (w : World) (hA : AtD base w st D) (hG : GoodD st) (he : e.Ok) (hr : refD st e = 0) (hbase : base ≤ w.heap.size) :
    Calls Try.prog 8 #[.pointer (some ⟨D, 0, none⟩), .agg e.cells.toArray, .int .i64 0] w fun r w' => r = .returned (.bool true) ∧ AtD base w' (apS st e) D ∧ Below base w w' := by
  have hB0 : Below w.heap.size w (w.alloc (.cells e.cells.toArray 32)) := (Below.refl _ _).alloc (Nat.le_refl _) _
  have hx0 := CellsAt.new w 32 e.cells
  have he1 := aev_len e he.past
  have iE : (Try.prog.info? 32).map (·.size) = some e.cells.length := by rw [he1]; kernel_rfl
  have uE := Try.underlying32
  have hdo : doS st e = apS st e := if_pos hr
  obtain ⟨p, hpD, hD, hab⟩ := hA
  have hap := dApply_any base st p e _ (hD.far hB0) hG he (Nat.le_trans hbase hB0.size)
  rw [hr, hdo, hpD] at hap
  have hr0 := hx0.wholeM
  generalize e.cells = E at hB0 hx0 iE hap hr0 ⊢
  have HAB := Veil.mk hab
  have HPD := Veil.mk hpD
  have HB0 := Veil.mk hB0
  clear hD he hG hdo he1 hr hx0 hab hpD hB0
  go_enter Try.func8, Try.ntmps8
  go_wp2_with (first
    | (refine wpList_ldgv (by kernel_rfl) 32 _ rfl w.heap.size 0 rfl E hr0 uE rfl iE ?_)
    | (go_at_call 12; refine hap.mono ?_; rintro y W1 ⟨rfl, p1, hD1, ht1⟩; clear hap))
  go_ret
  exact ⟨rfl, AtD.to HPD.out HAB.out hD1 ((DocTo.of_below HB0.out).trans ht1) hbase⟩
end Go.Proofs.Ytgmbmdmbnpkbbaa

