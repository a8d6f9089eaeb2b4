/- 'take', 'sum': bytes are gathered behind a pointer, and digested. 'begin', 'inner', 'outer': a hash that is begun with the key, turned. -/
import Derived.Test.YtlalcnmcnkompaaDoorMSumLive
import Derived.Test.YtlalcnmcnkompaaDoorMKy1Own
import Derived.Deep.RegionWith
namespace Go.Proofs.YtlalcnmcnkompaaDoor.S
open Go.RowKit
set_option maxRecDepth 20000

/-- The box H holds the one value v. -/
def Box (w : World) (H : Nat) (t : TypeId) (v : Value) : Prop := w.heap[H]? = some (.cells #[v] t (0, 0))
theorem Box.cell {w : World} {H : Nat} {t : TypeId} {v : Value} (h : Box w H t v) : w.cell? ⟨H, 0, none⟩ = some v := (cell_of_row w H 0 _ t _ h).trans rfl
theorem Box.frozen {w : World} {H : Nat} {t : TypeId} {v : Value} (h : Box w H t v) : w.frozen? ⟨H, 0, none⟩ = false := frozen_of_row w H 0 _ t h
theorem Box.lt {w : World} {H : Nat} {t : TypeId} {v : Value} (h : Box w H t v) : H < w.heap.size := (Array.getElem?_eq_some_iff.1 h).1
theorem Box.set {w : World} {H : Nat} {t : TypeId} {v : Value} (h : Box w H t v) (v' : Value) : Box (w.setCell ⟨H, 0, none⟩ v') H t v' := by
  unfold Box at h ⊢
  rw [heap_setCell_same w H 0 _ t _ h]; rfl
/-- Bytes of the call's own do not lie in a box of another type. -/
theorem OwnB.ne_box {w : World} {base H : Nat} {t : TypeId} {v u : Value} {z : List Int} (h : OwnB w base v z) (hb : Box w H t u) (ht : t ≠ 5) : v.ownBlock = none ∨ v.ownBlock ≠ some H := by
  rcases h.2 with ⟨rfl, _⟩ | ⟨g, cap, cur, rfl, _, hg, _⟩
  · exact .inl rfl
  · refine .inr fun e => ?_
    simp [Value.ownBlock] at e
    subst e
    unfold Box at hb
    rw [hg] at hb
    simp at hb
    exact ht hb.2.symm
theorem Box.grown {w w' : World} {base H : Nat} {t : TypeId} {v u : Value} {z : List Int} (hb : Box w H t u) (h : OwnB w base v z) (hg : w.grownBy w' v.ownBlock) (ht : t ≠ 5) : Box w' H t u := by
  have hl := hb.lt
  have hne := h.ne_box hb ht
  unfold Box at hb ⊢
  rw [hg.block H hl (fun e => by rcases hne with h0 | h0 <;> rw [← e] at h0 <;> simp at h0)]
  exact hb
theorem OwnB.setBox {w : World} {base H : Nat} {t : TypeId} {v u : Value} {z : List Int} (h : OwnB w base v z) (hb : Box w H t u) (ht : t ≠ 5) (u' : Value) : OwnB (w.setCell ⟨H, 0, none⟩ u') base v z := by
  have hne := h.ne_box hb ht
  exact World.ownsRow.kept h (row := some H) ⟨rfl, rfl, rfl, by simp [World.setCell], fun k _ hk => heap_setCell_other w _ k _ (fun e => hk (by rw [e]))⟩ hne

theorem take_any (H base : Nat) (v : Value) (zs : List Int) (x : Option Addr) (len cap : Nat) (z : List Int) (w : World) (hbox : Box w H 137 v) (hown : OwnB w base v zs) (hb : Bytes w x len cap z) (hln : zs.length + len ≤ 4000000) (hH : base ≤ H) :
    Calls Tryd.prog 72 #[.pointer (some ⟨H, 0, none⟩), .slice x len cap] w fun e w' => (∃ r, e = .returned r) ∧ ∃ v', Box w' H 137 v' ∧ OwnB w' base v' (zs ++ z) ∧ Below base w w' := by
  have hbase : base ≤ w.heap.size := by have := hbox.lt; omega
  have hc := hbox.cell
  go_enter Tryd.func72, Tryd.ntmps72
  go_wp2_with (at_builtin; refine wpList_app rfl _ _ rfl base _ zs rfl hown x len cap z rfl hb hln hbase ?_; intro v1 w1 ho1 hg1; have hb1 := hbox.grown hown hg1 (by decide); have hc1 := hb1.cell; have hf1 := hb1.frozen; obtain ⟨x1, n1, c1, hv1, hn1⟩ := ho1.isSlice; subst hv1; clear hn1)
  go_end0
  exact ⟨⟨_, rfl⟩, _, hb1.set _, ho1.setBox hb1 (by decide) _, (below_grown (Below.refl _ _) hown hg1 hbase).setCell hH _⟩

theorem hashSum_any (H base : Nat) (v : Value) (z : List Int) (w : World) (hbox : Box w H 137 v) (hown : OwnB w base v z) (hbytes : ∀ x n c, v = .slice x n c → Bytes w x n c z) (hln : z.length ≤ 1000000) (hk : KTab w) :
    Calls Tryd.prog 73 #[.pointer (some ⟨H, 0, none⟩)] w fun e w' => e = .returned (.agg (row .u8 (sumL z))) ∧ Below w.heap.size w w' := by
  obtain ⟨x1, n1, c1, hv1, hn1⟩ := hown.isSlice
  subst hv1
  have hln : n1 ≤ 1000000 := by omega
  clear hn1
  have hy := hbytes _ _ _ rfl
  have hc : ∀ o, (w.alloc o).cell? ⟨H, 0, none⟩ = some (.slice x1 n1 c1) := fun o => (cell_of_row _ H 0 _ _ (0, 0) ((Below.heap_alloc w o H hbox.lt).trans hbox)).trans rfl
  have hN := Holds.new w .u8 23 (List.replicate 32 0)
  have hs : ∀ wx, Below w.heap.size w wx → Calls Tryd.prog 70 #[.slice x1 n1 c1] wx fun e w' => e = .returned (.agg (row .u8 (sumL z))) ∧ Below wx.heap.size wx w' := fun wx hx => sum_any x1 n1 c1 z wx (hy.below hx) hln (hk.below hx)
  have hdl := sumL_length z
  obtain ⟨D, hD⟩ : ∃ D, sumL z = D := ⟨_, rfl⟩
  rw [hD] at hs hdl ⊢
  clear hD hy hbytes
  go_enter Tryd.func73, Tryd.ntmps73
  go_wp2_with (first
    | (go_at_call 70; refine (hs _ ((Below.refl _ _).alloc (Nat.le_refl _) _)).mono ?_; rintro e w1 ⟨rfl, hb1⟩; have hN1 := hN.below hb1 (by simp))
    | (refine wpList_st rfl 23 _ _ rfl _ rfl rfl hN1 (by rw [hdl]; exact sizeKey) (by simp [hdl]) ?_))
  refine bodyPost_ret (results_holds (Tryd.results73) _ rfl (hN1.setRow _) Tryd.underlying23 sizeKey hdl) rfl ⟨rfl, ?_⟩
  exact below_setRow (((Below.refl _ _).alloc (Nat.le_refl _) _).trans (hb1.mono (by simp))) (Nat.le_refl _) _
end Go.Proofs.YtlalcnmcnkompaaDoor.S

namespace Go.Proofs.YtlalcnmcnkompaaDoor.S
open Go.RowKit
set_option maxRecDepth 20000

theorem sizeFk : (Tryd.prog.info? 102).map (·.size) = some 64 := by kernel_rfl
/-- The first j of a list through f, the others as they are. -/
def mapK (f : Int → Int) (k : List Int) (j : Nat) : List Int := (k.take j).map f ++ k.drop j
theorem mapK_length (f : Int → Int) (k : List Int) (j : Nat) : (mapK f k j).length = k.length := by simp [mapK]; omega
theorem mapK_get (f : Int → Int) (k : List Int) (j : Nat) (h : j < k.length) : (mapK f k j)[j]?.getD 0 = k[j]?.getD 0 := by
  unfold mapK
  rw [List.getElem?_append_right (by simp; omega)]
  simp only [List.length_map, List.length_take, List.getElem?_drop]
  rw [show j + (j - min j k.length) = j by omega]
theorem mapK_set (f : Int → Int) (k : List Int) (j : Nat) (h : j < k.length) : (mapK f k j).set j (f (k[j]?.getD 0)) = mapK f k (j + 1) := by
  unfold mapK
  rw [List.drop_eq_getElem_cons h, List.set_append_right _ _ (by simp; omega), List.take_succ_eq_append_getElem h, List.getElem?_eq_getElem h]
  simp only [List.length_map, List.length_take, Option.getD_some, List.map_append, List.map_cons, List.map_nil, List.append_assoc, List.cons_append, List.nil_append]
  rw [show j - min j k.length = 0 by omega]
  rfl
def turnL (t : Int) (k : List Int) : List Int := k.map fun c => bits .xor .u8 c t
theorem turnL_length (t : Int) (k : List Int) : (turnL t k).length = k.length := by simp [turnL]

theorem begin_any (k : List Int) (t : Int) (w : World) (hk : k.length = 64) :
    Calls Tryd.prog 74 #[.agg (row .u8 k), .int .u8 t] w fun e w' => ∃ H v, e = .returned (.pointer (some ⟨H, 0, none⟩)) ∧ w.heap.size ≤ H ∧ Box w' H 137 v ∧ OwnB w' w.heap.size v (turnL t k) ∧ Below w.heap.size w w' := by
  go_enter Tryd.func74, Tryd.ntmps74
  go_wp2
  go_loopw [7] (fun i wr => ∃ j : Nat, j ≤ 64 ∧ i = .int .i64 j ∧ Below w.heap.size w wr ∧ Holds wr w.heap.size .u8 102 (mapK (fun c => bits .xor .u8 c t) k j)) (fun i _ => 64 - (intOf i).toNat)
  case atStart => exact ⟨0, by omega, rfl, (Below.refl _ _).alloc (Nat.le_refl _) _, Holds.new w .u8 102 k⟩
  case round =>
    obtain ⟨j, hj, rfl, hB, hH⟩ := hrel
    by_cases hlt : j < 64
    · have c1 := hH.cell j (by rw [mapK_length]; omega)
      rw [mapK_get _ _ _ (by omega)] at c1
      have f1 := hH.frozen j
      have hst := mapK_set (fun c => bits .xor .u8 c t) k j (by omega)
      obtain ⟨V, hV⟩ : ∃ V, k[j]?.getD 0 = V := ⟨_, rfl⟩
      rw [hV] at c1 hst
      have HST : Hid ((mapK (fun c => bits .xor .u8 c t) k j).set j (bits .xor .u8 V t) = mapK (fun c => bits .xor .u8 c t) k (j + 1)) := hst
      clear hst hV
      go_wp2
      go_roundw
      case rel => exact ⟨j + 1, by omega, by go_num, hB.setCell (Nat.le_refl _) _, by rw [← HST.out]; exact hH.set j _⟩
      case measure => simp [intOf]; omega
    · obtain rfl : j = 64 := by omega
      have hm : mapK (fun c => bits .xor .u8 c t) k 64 = turnL t k := by
        unfold mapK turnL; rw [List.take_of_length_le (by omega), List.drop_of_length_le (by omega), List.append_nil]
      rw [hm] at hH
      have hl : (turnL t k).length = 64 := by rw [turnL_length, hk]
      have hy := hH.bytes (n := 64) hl.symm (by omega)
      have hB5 : Below wr.heap.size wr (wr.alloc (.cells #[.slice none 0 0] 137)).drew := ((Below.refl _ _).alloc (Nat.le_refl _) _).drew
      have tk := take_any wr.heap.size w.heap.size (.slice none 0 0) [] (some ⟨w.heap.size, 0, none⟩) 64 64 (turnL t k) (wr.alloc (.cells #[.slice none 0 0] 137)).drew (World.alloc_heap_new wr _) (OwnB.nil _ _) (hy.below hB5) (by simp) hB.size
      have hBw : Below w.heap.size w (wr.alloc (.cells #[.slice none 0 0] 137)).drew := (hB.alloc hB.size _).drew
      have hsz := hB.size
      go_upto_region 7 with fail
      go_region_with (go_at_call 72; refine tk.mono ?_; rintro e w4 ⟨⟨r, rfl⟩, v4, hb4, ho4, hB4⟩)
      go_wp2
      go_ret
      exact ⟨_, v4, rfl, hsz, hb4, ho4, hBw.trans hB4⟩

theorem inner_any (k : List Int) (w : World) (hk : k.length = 64) :
    Calls Tryd.prog 54 #[.agg (row .u8 k)] w fun e w' => ∃ H v, e = .returned (.pointer (some ⟨H, 0, none⟩)) ∧ w.heap.size < H ∧ Box w' H 137 v ∧ OwnB w' (w.heap.size + 1) v (turnL 54 k) ∧ Below w.heap.size w w' := by
  have h0 : Holds (w.alloc (.cells (row .u8 k) 102)) w.heap.size .u8 102 k := Holds.new w .u8 102 k
  go_enter Tryd.func54, Tryd.ntmps54
  go_wp2_with (first
    | (refine wpList_ld rfl 102 _ rfl _ rfl h0 Tryd.underlying102 sizeFk hk ?_)
    | (go_at_call 74; refine (begin_any k 54 _ hk).mono ?_; rintro e w1 ⟨H, v, rfl, h1, h2, h3, h4⟩))
  go_ret
  exact ⟨H, v, rfl, by simp at h1; omega, h2, by simpa using h3, ((Below.refl _ _).alloc (Nat.le_refl _) _).trans (h4.mono (by simp))⟩
theorem outer_any (k : List Int) (w : World) (hk : k.length = 64) :
    Calls Tryd.prog 55 #[.agg (row .u8 k)] w fun e w' => ∃ H v, e = .returned (.pointer (some ⟨H, 0, none⟩)) ∧ w.heap.size < H ∧ Box w' H 137 v ∧ OwnB w' (w.heap.size + 1) v (turnL 92 k) ∧ Below w.heap.size w w' := by
  have h0 : Holds (w.alloc (.cells (row .u8 k) 102)) w.heap.size .u8 102 k := Holds.new w .u8 102 k
  go_enter Tryd.func55, Tryd.ntmps55
  go_wp2_with (first
    | (refine wpList_ld rfl 102 _ rfl _ rfl h0 Tryd.underlying102 sizeFk hk ?_)
    | (go_at_call 74; refine (begin_any k 92 _ hk).mono ?_; rintro e w1 ⟨H, v, rfl, h1, h2, h3, h4⟩))
  go_ret
  exact ⟨H, v, rfl, by simp at h1; omega, h2, by simpa using h3, ((Below.refl _ _).alloc (Nat.le_refl _) _).trans (h4.mono (by simp))⟩
end Go.Proofs.YtlalcnmcnkompaaDoor.S
