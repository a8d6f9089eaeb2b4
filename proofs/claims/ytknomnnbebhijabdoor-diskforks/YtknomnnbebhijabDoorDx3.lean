/- disk: the reference's 'Records', 'Trim'; rows compared; both disks. -/
import Derived.Test.YtknomnnbebhijabDoorDx2
namespace Go.Proofs.YtknomnnbebhijabDoor
open Go.RowKit Go.Shelf
set_option maxRecDepth 20000
set_option linter.unusedSimpArgs false

section
variable (base R : Nat) (v : Value) (z : List Int) (s : Nat) (w : World)
theorem rRecords_any (hD : RefAt w base R v z s) :
    Calls Tryd.prog 28 #[.pointer (some ⟨R, 0, none⟩)] w fun e w' => ∃ v', e = .returned v' ∧ RowsAt w' w.heap.size v' (recsL z) ∧ Below w.heap.size w w' := by
  have hW := rWhole_any base R v z s w hD
  clear hD
  go_enter Tryd.func28, Tryd.ntmps28
  go_wp2_with (go_at_call 33; refine hW.mono ?_; rintro e w1 ⟨v1, rfl, hr1, hb1⟩)
  go_ret
  exact ⟨_, rfl, hr1, hb1⟩
theorem rTrim_any (hD : RefAt w base R v z s) :
    Calls Tryd.prog 24 #[.pointer (some ⟨R, 0, none⟩)] w fun e w' => e = .returned (.int .i64 0) ∧ ∃ v', RefTo w w' base R v v' (z.take (trimN z)) (trimN z) := by
  obtain ⟨x, c, rfl, hb, hx⟩ := hD.buf.bytes
  have hW := rWhole_any base R _ z s w hD
  have hle := hb.le
  have hDD := Veil.mk hD
  have hRlt := hD.box.lt
  have htl := trimN_le z
  obtain ⟨m, hm⟩ : ∃ q, trimN z = q := ⟨_, rfl⟩
  rw [hm] at hW htl ⊢
  have HM := Veil.mk hm
  have hsl : ∀ wx, (Instr.slice 31 (.slice x z.length c) none (some (.int .i64 (m : Int))) none).run Tryd.prog wx = .ok (.slice x m c) wx := fun wx => by
    have := run_cut_h wx x z.length c m (by omega)
    rw [show subA x c 0 = x by unfold subA; split; rfl; exact TopA.zero hx] at this
    exact this
  obtain ⟨zl, hzl⟩ : ∃ q, z.length = q := ⟨_, rfl⟩
  have HZ := Veil.mk hzl
  rw [hzl] at hDD hsl hle htl ⊢
  clear hb hD hx hm hzl
  go_enter Tryd.func24, Tryd.ntmps24
  go_upto_region 4 with (go_at_call 33; refine hW.mono ?_; rintro e w1 ⟨v1, rfl, hr1, hb1⟩)
  have hD1 := hDD.out.far hb1
  have hne := hD1.ne
  have c0 : w1.cell? ⟨R, 0, none⟩ = some (.slice x zl c) := hD1.box.cell 0
  have f0 := hD1.box.frozen 0
  have hbx := hD1.box.set 0 (.slice x m c)
  have d1 : (w1.setCell ⟨R, 0, none⟩ (.slice x m c)).cell? ⟨R, 1, none⟩ = some (.int .i64 s) := hbx.cell 1
  have d2 := hbx.frozen 1
  have HD1 := Veil.mk hD1
  clear hW hr1 hD1
  go_wp2
  go_ret
  have hD := HD1.out
  refine ⟨rfl, .slice x m c, ⟨hbx.set 1 _, (hD.buf.cut m (by have := HZ.out; omega)).congr fun g hg => ?_, fun v hv => hD.isb v (List.mem_of_mem_take hv), by rw [List.length_take]; have := hD.len; omega, by rw [List.length_take]; have := HZ.out; omega, hD.baseR⟩, (TurnD.of_below hb1).trans ((TurnD.of_setCell (p := fun k => k = R) _ (a := ⟨R, 0, none⟩) rfl _).trans (TurnD.of_setCell (p := fun k => k = R) _ (a := ⟨R, 1, none⟩) rfl _)), .inl (by cases x <;> rfl)⟩
  have hgR : g ≠ R := fun e => hne (by rw [← e]; cases x <;> exact hg)
  rw [Below.heap_setCell _ _ _ g (by exact hgR), Below.heap_setCell _ _ _ g (by exact hgR)]
end
/-- Rows of bytes, as they are looked at. -/
structure RowsV (w : World) (x : Option Addr) (n c : Nat) (rs : List (List Int)) : Prop where
  len_eq : n = rs.length
  le : n ≤ c
  top : c ≤ 9223372036854775807
  nil : x = none → c = 0
  at_ : n = 0 ∨ ∃ b, x = some ⟨b, 0, none⟩ ∧ ∀ j (hj : j < rs.length), ∃ xx cc, w.cell? ⟨b, j, none⟩ = some (.slice xx rs[j].length cc) ∧ Bytes w xx rs[j].length cc rs[j]
theorem RowsV.below {w w' : World} {x : Option Addr} {n c : Nat} {rs : List (List Int)} (h : RowsV w x n c rs) (hb : Below w.heap.size w w') : RowsV w' x n c rs :=
  ⟨h.len_eq, h.le, h.top, h.nil, by
    rcases h.at_ with h0 | ⟨b, hx, hc⟩
    · exact .inl h0
    · refine .inr ⟨b, hx, fun j hj => ?_⟩
      obtain ⟨xx, cc, h1, h2⟩ := hc j hj
      exact ⟨xx, cc, (hb.cell (p := ⟨b, j, none⟩) (block_lt_of_cell h1)).trans h1, h2.below hb⟩⟩
theorem RowsAt.view {w : World} {base : Nat} {v : Value} {rs : List (List Int)} (h : RowsAt w base v rs) : ∃ x c, v = .slice x rs.length c ∧ RowsV w x rs.length c rs := by
  obtain ⟨vals, h1, h2⟩ := h
  rcases h1.2 with ⟨rfl, h0⟩ | ⟨g, cap, cur, rfl, hb, hg, hc, hm, hs, ht⟩
  · exact ⟨none, 0, by rw [h0], ⟨rfl, by omega, by omega, fun _ => rfl, .inl h0⟩⟩
  · refine ⟨_, cap, rfl, ⟨rfl, hc, by simpa [maxLen] using hm, (fun h => by cases h), .inr ⟨g, rfl, fun j hj => ?_⟩⟩⟩
    obtain ⟨u, hu, ho⟩ := h2 j hj
    obtain ⟨xx, nn, cc, rfl, hn⟩ := ho.isSlice
    subst hn
    refine ⟨xx, cc, ?_, ho.bytes.2⟩
    rw [cell_of_row w g j _ _ _ hg, ← Array.getElem?_toList]
    have e : (cur.toList.take (rs.length * 1))[j]? = vals[j]? := by rw [ht]
    rw [Nat.mul_one, List.getElem?_take_of_lt hj] at e
    rw [e]; exact hu
theorem RowsV.few {w : World} {x : Option Addr} {n c : Nat} {rs : List (List Int)} (h : RowsV w x n c rs) (m : Nat) (hm : m ≤ n) : RowsV w x m c (rs.take m) := by
  have hl := h.len_eq
  refine ⟨by rw [List.length_take]; omega, by have := h.le; omega, h.top, h.nil, ?_⟩
  rcases h.at_ with h0 | ⟨b, hx, hc⟩
  · exact .inl (by omega)
  · refine .inr ⟨b, hx, fun j hj => ?_⟩
    rw [List.length_take] at hj
    obtain ⟨xx, cc, h1, h2⟩ := hc j (by omega)
    rw [List.getElem_take]
    exact ⟨xx, cc, h1, h2⟩
/-- Both disks, with the same bytes, of which as many last. -/
structure Both (w : World) (base D : Nat) (v : Value) (R : Nat) (u : Value) (z : List Int) (s : Nat) : Prop where
  d : DiskAt w base D v z s
  r : RefAt w base R u z s
  sep : ∀ g, v.ownBlock = some g → u.ownBlock ≠ some g
theorem Both.apart {w : World} {base D : Nat} {v : Value} {R : Nat} {u : Value} {z : List Int} {s : Nat} (h : Both w base D v R u z s) (g : Nat) (hr : diskP R u g) : ¬ diskP D v g := by
  rintro (rfl | hd)
  · rcases hr with e | hr
    · have h1 := h.d.box
      rw [e] at h1
      exact absurd (h1.typ h.r.box) (by decide)
    · obtain ⟨_, _, cur, hc⟩ := h.r.buf.own g hr
      exact absurd (h.d.box.typ hc) (by decide)
  · rcases hr with rfl | hr
    · obtain ⟨_, _, cur, hc⟩ := h.d.buf.own g hd
      exact absurd (h.r.box.typ hc) (by decide)
    · exact h.sep g hd hr
theorem Both.far {w w' : World} {base D : Nat} {v : Value} {R : Nat} {u : Value} {z : List Int} {s : Nat} (h : Both w base D v R u z s) (hb : Below w.heap.size w w') : Both w' base D v R u z s := ⟨h.d.far hb, h.r.far hb, h.sep⟩
/-- The disk goes on; then the reference's does the same. -/
theorem Both.step {w w1 w2 : World} {base D : Nat} {v v' : Value} {R : Nat} {u u' : Value} {z z' : List Int} {s s' : Nat} (h : Both w base D v R u z s) (hd : DiskTo w w1 base D v v' z' s') (hr : RefTo w1 w2 base R u u' z' s') : Both w2 base D v' R u' z' s' := by
  have hsep1 : ∀ g, v'.ownBlock = some g → u.ownBlock ≠ some g := fun g hg hu => by
    rcases hd.block with e | ⟨g', e, hg'⟩
    · rw [e] at hg; exact h.sep g hg hu
    · rw [e] at hg
      cases hg
      have := (h.r.inside g (.inr hu)).1
      omega
  refine ⟨hd.disk.congr fun g hg => hr.turn.block g (hd.disk.inside g hg).1 (fun e => ?_), hr.disk, fun g hg hu => ?_⟩
  · subst e
    have hRb := hd.turn.block g h.r.box.lt (h.apart g (.inl rfl))
    have hR1 : CellsD w1 g 49 [u, .int .i64 s] := h.r.box.congr hRb
    rcases hg with e | hg
    · have h1 := hd.disk.box
      rw [← e] at h1
      exact absurd (h1.typ hR1) (by decide)
    · obtain ⟨_, _, cur, hc⟩ := hd.disk.buf.own g hg
      exact absurd (hR1.typ hc) (by decide)
  · rcases hr.block with e | ⟨g', e, hg'⟩
    · rw [e] at hu; exact hsep1 g hg hu
    · rw [e] at hu
      cases hu
      have := (hd.disk.inside g (.inr hg)).1
      omega
theorem Both.mid {w w1 : World} {base D : Nat} {v v' : Value} {R : Nat} {u : Value} {z z' : List Int} {s s' : Nat} (h : Both w base D v R u z s) (hd : DiskTo w w1 base D v v' z' s') : RefAt w1 base R u z s := h.r.congr fun g hg => hd.turn.block g (h.r.inside g hg).1 (h.apart g hg)
end Go.Proofs.YtknomnnbebhijabDoor
