/- 'take', 'sum': bytes are gathered behind a pointer, and digested. -/
import Derived.Test.YtoebbfifebpnbadDoorSum
import Derived.Test.YtoebbfifebpnbadDoorOwn
namespace Go.Proofs.YtoebbfifebpnbadDoor
open Go.RowKit
set_option maxRecDepth 20000

/-- The box H holds the one value v. -/
def Box (w : World) (H : Nat) (t : TypeId) (v : Value) : Prop := w.heap[H]? = some (.cells #[v] t (0, 0))
theorem Box.cell {w : World} {H : Nat} {t : TypeId} {v : Value} (h : Box w H t v) : w.cell? ⟨H, 0, none⟩ = some v := (cell_of_row w H 0 _ t _ h).trans rfl
theorem Box.frozen {w : World} {H : Nat} {t : TypeId} {v : Value} (h : Box w H t v) : w.frozen? ⟨H, 0, none⟩ = false := frozen_of_row w H 0 _ t h
theorem Box.lt {w : World} {H : Nat} {t : TypeId} {v : Value} (h : Box w H t v) : H < w.heap.size := (Array.getElem?_eq_some_iff.1 h).1
theorem Box.set {w : World} {H : Nat} {t : TypeId} {v : Value} (h : Box w H t v) (v' : Value) : Box (w.setCell ⟨H, 0, none⟩ v') H t v' := by
  unfold Box at h ⊢
  rw [heap_setCell_same w H 0 _ t _ h]; rfl
/-- Bytes of the call's own do not lie in a box of another type. -/
theorem OwnB.ne_box {w : World} {base H : Nat} {t : TypeId} {v u : Value} {z : List Int} (h : OwnB w base v z) (hb : Box w H t u) (ht : t ≠ 5) : v.ownBlock = none ∨ v.ownBlock ≠ some H := by
  rcases h.2 with ⟨rfl, _⟩ | ⟨g, cap, cur, rfl, _, hg, _⟩
  · exact .inl rfl
  · refine .inr fun e => ?_
    simp [Value.ownBlock] at e
    subst e
    unfold Box at hb
    rw [hg] at hb
    simp at hb
    exact ht hb.2.symm
theorem Box.grown {w w' : World} {base H : Nat} {t : TypeId} {v u : Value} {z : List Int} (hb : Box w H t u) (h : OwnB w base v z) (hg : w.grownBy w' v.ownBlock) (ht : t ≠ 5) : Box w' H t u := by
  have hl := hb.lt
  have hne := h.ne_box hb ht
  unfold Box at hb ⊢
  rw [hg.block H hl (fun e => by rcases hne with h0 | h0 <;> rw [← e] at h0 <;> simp at h0)]
  exact hb
theorem OwnB.setBox {w : World} {base H : Nat} {t : TypeId} {v u : Value} {z : List Int} (h : OwnB w base v z) (hb : Box w H t u) (ht : t ≠ 5) (u' : Value) : OwnB (w.setCell ⟨H, 0, none⟩ u') base v z := by
  have hne := h.ne_box hb ht
  exact World.ownsRow.kept h (row := some H) ⟨rfl, rfl, rfl, by simp [World.setCell], fun k _ hk => heap_setCell_other w _ k _ (fun e => hk (by rw [e]))⟩ hne

theorem take_any (H base : Nat) (v : Value) (zs : List Int) (x : Option Addr) (len cap : Nat) (z : List Int) (w : World) (hbox : Box w H 47 v) (hown : OwnB w base v zs) (hb : Bytes w x len cap z) (hln : zs.length + len ≤ 4000000) (hH : base ≤ H) :
    Calls Tryd.prog 15 #[.pointer (some ⟨H, 0, none⟩), .slice x len cap] w fun e w' => (∃ r, e = .returned r) ∧ ∃ v', Box w' H 47 v' ∧ OwnB w' base v' (zs ++ z) ∧ Below base w w' := by
  have hbase : base ≤ w.heap.size := by have := hbox.lt; omega
  have hc := hbox.cell
  go_enter Tryd.func15, Tryd.ntmps15
  go_wp2_with (at_builtin; refine wpList_app rfl _ _ rfl base _ zs rfl hown x len cap z rfl hb hln hbase ?_; intro v1 w1 ho1 hg1; have hb1 := hbox.grown hown hg1 (by decide); have hc1 := hb1.cell; have hf1 := hb1.frozen; obtain ⟨x1, n1, c1, hv1, hn1⟩ := ho1.isSlice; subst hv1; clear hn1)
  go_end0
  exact ⟨⟨_, rfl⟩, _, hb1.set _, ho1.setBox hb1 (by decide) _, (below_grown (Below.refl _ _) hown hg1 hbase).setCell hH _⟩

theorem hashSum_any (H base : Nat) (v : Value) (z : List Int) (w : World) (hbox : Box w H 47 v) (hown : OwnB w base v z) (hbytes : ∀ x n c, v = .slice x n c → Bytes w x n c z) (hln : z.length ≤ 1000000) (hk : KTab w) :
    Calls Tryd.prog 16 #[.pointer (some ⟨H, 0, none⟩)] w fun e w' => e = .returned (.agg (row .u8 (sumL z))) ∧ Below w.heap.size w w' := by
  obtain ⟨x1, n1, c1, hv1, hn1⟩ := hown.isSlice
  subst hv1
  have hln : n1 ≤ 1000000 := by omega
  clear hn1
  have hy := hbytes _ _ _ rfl
  have hc : ∀ o, (w.alloc o).cell? ⟨H, 0, none⟩ = some (.slice x1 n1 c1) := fun o => (cell_of_row _ H 0 _ _ (0, 0) ((Below.heap_alloc w o H hbox.lt).trans hbox)).trans rfl
  have hN := Holds.new w .u8 23 (List.replicate 32 0)
  have hs : ∀ wx, Below w.heap.size w wx → Calls Tryd.prog 13 #[.slice x1 n1 c1] wx fun e w' => e = .returned (.agg (row .u8 (sumL z))) ∧ Below wx.heap.size wx w' := fun wx hx => sum_any x1 n1 c1 z wx (hy.below hx) hln (hk.below hx)
  have hdl := sumL_length z
  obtain ⟨D, hD⟩ : ∃ D, sumL z = D := ⟨_, rfl⟩
  rw [hD] at hs hdl ⊢
  clear hD hy hbytes
  go_enter Tryd.func16, Tryd.ntmps16
  go_wp2_with (first
    | (go_at_call 13; refine (hs _ ((Below.refl _ _).alloc (Nat.le_refl _) _)).mono ?_; rintro e w1 ⟨rfl, hb1⟩; have hN1 := hN.below hb1 (by simp))
    | (refine wpList_st rfl 23 _ _ rfl _ rfl rfl hN1 (by rw [hdl]; exact sizeKey) (by simp [hdl]) ?_))
  refine bodyPost_ret (results_holds (Tryd.results16) _ rfl (hN1.setRow _) Tryd.underlying23 sizeKey hdl) rfl ⟨rfl, ?_⟩
  exact below_setRow (((Below.refl _ _).alloc (Nat.le_refl _) _).trans (hb1.mono (by simp))) (Nat.le_refl _) _
end Go.Proofs.YtoebbfifebpnbadDoor
