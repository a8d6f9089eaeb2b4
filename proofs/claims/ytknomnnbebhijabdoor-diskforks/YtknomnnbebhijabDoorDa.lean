/- disk: deeds that came in. -/
import Derived.Test.YtknomnnbebhijabDoorGo0
import Derived.Test.YtknomnnbebhijabDoorDk0
import Derived.ChangeSame
namespace Go.Proofs.YtknomnnbebhijabDoor
open Go.ChangeShapes Go.WideShapes Go.ChangeAt Go.RowKit
set_option maxRecDepth 20000
set_option linter.unusedSimpArgs false

/-- One cell that is a slice of bytes. -/
theorem slice_of_trodD {H : Type} {enc : TypeId × Value → H} {W : World} {fuel : Nat} {cs : List Value} {x : DataW H × List MemPlace} (h : DataW.trod enc Tryd.prog W 0 (fun _ => true) true fuel 31 cs = some x) :
    ∃ y len cap z, cs = [.slice y len cap] ∧ Bytes W y len cap z ∧ isB z := by
  rcases open_ints Tryd.underlying31 Tryd.underlying5 cellsU8 h with ⟨hcs, _⟩ | ⟨a, l, c, zs, hcs, _, hl, hm, hz, _, hcell, hwz⟩
  · exact ⟨none, 0, 0, [], hcs, bytes_nil W, fun v hv => by cases hv⟩
  · simp only [if_true] at hz
    refine ⟨some a, l, c, zs.take l, hcs, ⟨by simp; omega, hl, by simpa [maxLen] using hm, (fun h => by cases h), ?_⟩, fun v hv => bounds_u8 (hwz v (List.mem_of_mem_take hv))⟩
    by_cases h0 : l = 0
    · exact .inl h0
    · obtain ⟨b, off, rfl, hc⟩ := ints_at hcell (by omega)
      refine .inr ⟨b, off, rfl, fun j hj => ?_⟩
      have := hc j (by omega)
      rw [List.getElem?_take_of_lt hj]
      rw [List.getD_eq_getElem?_getD] at this
      exact this
/-- A deed. -/
structure Dd where
  kind : Int
  keep : Int
  x : Option Addr
  len : Nat
  cap : Nat
  b : List Int
def Dd.cells (d : Dd) : List Value := [.int .i64 d.kind, .int .i64 d.keep, .slice d.x d.len d.cap]
structure Dd.Ok (W : World) (d : Dd) : Prop where
  bytes : Bytes W d.x d.len d.cap d.b
  isb : isB d.b
  kind0 : -9223372036854775808 ≤ d.kind
  kind1 : d.kind ≤ 9223372036854775807
  keep0 : -9223372036854775808 ≤ d.keep
  keep1 : d.keep ≤ 9223372036854775807
theorem Dd.Ok.below {W W' : World} {d : Dd} (h : d.Ok W) (hb : Below W.heap.size W W') : d.Ok W' := ⟨h.bytes.below hb, h.isb, h.kind0, h.kind1, h.keep0, h.keep1⟩
theorem bounds_i64D {n : Int} (h : (Lit.int .i64 n).wf = true) : -9223372036854775808 ≤ n ∧ n ≤ 9223372036854775807 := by
  simp [Lit.wf, IntKind.min, IntKind.max, IntKind.bits, IntKind.signed] at h
  omega
section
variable {H : Type} {enc : TypeId × Value → H} {W : World} {fuel : Nat} {cs : List Value} {x : DataW H × List MemPlace}
theorem deed_of_trod (h : DataW.trod enc Tryd.prog W 0 (fun _ => true) true fuel 33 cs = some x) : ∃ d : Dd, cs = d.cells ∧ d.Ok W := by
  obtain ⟨xs, m, _, _, hl, hlen, hfd⟩ := DataW.trod_struct Tryd.underlying33 h
  have hc : Tryd.prog.cellsOf 33 = 3 := by kernel_rfl
  have hci : Tryd.prog.cellsOf 3 = 1 := by kernel_rfl
  have hcu : Tryd.prog.cellsOf 31 = 1 := by kernel_rfl
  rw [hc] at hl
  have g0 : DataW.trod enc Tryd.prog W 0 (fun _ => true) true m 3 (List.take (Tryd.prog.cellsOf 3) (List.drop 0 cs)) = xs[0]? := hfd 0 _ rfl
  have g1 : DataW.trod enc Tryd.prog W 0 (fun _ => true) true m 3 (List.take (Tryd.prog.cellsOf 3) (List.drop 1 cs)) = xs[1]? := hfd 1 _ rfl
  have g2 : DataW.trod enc Tryd.prog W 0 (fun _ => true) true m 31 (List.take (Tryd.prog.cellsOf 31) (List.drop 2 cs)) = xs[2]? := hfd 2 _ rfl
  simp only [List.size_toArray, List.length_cons, List.length_nil, Nat.reduceAdd] at hlen
  rw [hci, List.getElem?_eq_getElem (by omega)] at g0 g1
  rw [hcu, List.getElem?_eq_getElem (by omega)] at g2
  obtain ⟨a, ea, _, wa⟩ := DataW.trod_int Tryd.underlying3 g0
  obtain ⟨k, ek, _, wk⟩ := DataW.trod_int Tryd.underlying3 g1
  obtain ⟨y, len, cap, z, es, hb, hu⟩ := slice_of_trodD g2
  match cs, hl with
  | [c, d, e], _ =>
    simp at ea ek es
    subst ea ek es
    exact ⟨⟨a, k, y, len, cap, z⟩, rfl, hb, hu, (bounds_i64D wa).1, (bounds_i64D wa).2, (bounds_i64D wk).1, (bounds_i64D wk).2⟩
theorem open_deedD {r : Reach} {base : Nat} {v : Value} {d : DataW H} {p : List MemPlace} (hv : Value.okWide Tryd.prog W r base 33 v) (h : DataW.Trod enc Tryd.prog W 0 (fun _ => true) true 33 v d p) : ∃ d : Dd, v = .agg d.cells.toArray ∧ d.Ok W := by
  simp only [Value.okWide, Tryd.underlying33] at hv
  obtain ⟨cs, rfl, hsz, _⟩ := hv
  obtain ⟨fuel, hf⟩ := h
  obtain ⟨d, hd, ho⟩ := deed_of_trod hf
  exact ⟨d, by rw [← hd]; rfl, ho⟩
end
theorem exists_listD {α : Type} (n : Nat) (P : Nat → α → Prop) (h : ∀ i, i < n → ∃ a, P i a) : ∃ l : List α, l.length = n ∧ ∀ i (_ : i < n), ∃ hl : i < l.length, P i (l[i]'hl) := by
  induction n with
  | zero => exact ⟨[], rfl, fun i hi => by omega⟩
  | succ n ih =>
    obtain ⟨l, hl, hp⟩ := ih fun i hi => h i (by omega)
    obtain ⟨a, ha⟩ := h n (by omega)
    refine ⟨l ++ [a], by simp [hl], fun i hi => ?_⟩
    by_cases e : i < n
    · obtain ⟨h1, h2⟩ := hp i e
      exact ⟨by simp; omega, by rw [List.getElem_append_left h1]; exact h2⟩
    · obtain rfl : i = n := by omega
      refine ⟨by simp [hl], ?_⟩
      rw [List.getElem_append_right (by omega)]
      simpa [hl] using ha
/-- Deeds in a row. -/
structure DeedsAt (w : World) (x : Option Addr) (len cap : Nat) (ds : List Dd) : Prop where
  len_eq : len = ds.length
  le : len ≤ cap
  top : cap ≤ 9223372036854775807
  at_ : len = 0 ∨ ∃ b off, x = some ⟨b, off, none⟩ ∧ ∀ j (hj : j < ds.length) (i : Nat) v, ds[j].cells[i]? = some v → w.cell? ⟨b, off + j * 3 + i, none⟩ = some v
  ok : ∀ d ∈ ds, d.Ok w
theorem DeedsAt.below {w w' : World} {x : Option Addr} {len cap : Nat} {ds : List Dd} (h : DeedsAt w x len cap ds) (hb : Below w.heap.size w w') : DeedsAt w' x len cap ds :=
  ⟨h.len_eq, h.le, h.top, by
    rcases h.at_ with h0 | ⟨b, off, hx, hc⟩
    · exact .inl h0
    · refine .inr ⟨b, off, hx, fun j hj i v hv => ?_⟩
      have := hc j hj i v hv
      exact (hb.cell (p := ⟨b, off + j * 3 + i, none⟩) (block_lt_of_cell this)).trans this, fun d hd => (h.ok d hd).below hb⟩
theorem deeds_of_trod {H : Type} {enc : TypeId × Value → H} {W : World} {fuel : Nat} {cs : List Value} {x : DataW H × List MemPlace} (h : DataW.trod enc Tryd.prog W 0 (fun _ => true) true fuel 22 cs = some x) : ∃ y len cap ds, cs = [.slice y len cap] ∧ DeedsAt W y len cap ds := by
  have hc : Tryd.prog.cellsOf 33 = 3 := by kernel_rfl
  rcases DataW.trod_slice Tryd.underlying22 h with ⟨hcs, _⟩ | ⟨a, len, cap, elems, rest, m, _, hcs, _, _, hl, hm, hlen, hel, _⟩
  · exact ⟨none, 0, 0, [], hcs, ⟨rfl, by omega, by omega, .inl rfl, (fun e he => by cases he)⟩⟩
  · have each : ∀ i, i < len → ∃ e : Dd, (∀ (j : Nat) v, e.cells[j]? = some v → W.cell? ((a.add (i * 3)).add j) = some v) ∧ e.Ok W := fun i hi => by
      have h1 := hel i hi
      rw [hc, List.getElem?_eq_getElem (by omega), Option.bind_eq_some_iff] at h1
      obtain ⟨ci, hci, hti⟩ := h1
      obtain ⟨e, rfl, hin⟩ := deed_of_trod hti
      have hs := World.cells?_some hci
      refine ⟨e, fun j v hv => ?_, hin⟩
      have hj : j < 3 := by
        have := (List.getElem?_eq_some_iff.1 hv).1
        have := hs.2.1
        omega
      rw [hs.2.2 j hj]; exact hv
    obtain ⟨ds, hdl, hds⟩ := exists_listD len _ each
    refine ⟨some a, len, cap, ds, hcs, ⟨hdl.symm, hl, by simpa [maxLen] using hm, ?_, fun e he => ?_⟩⟩
    · by_cases h0 : len = 0
      · exact .inl h0
      · obtain ⟨b, off, spot⟩ := a
        obtain ⟨hl0, h00, _⟩ := hds 0 (by omega)
        have h00 := h00 0 (.int .i64 (ds[0]).kind) rfl
        have hspot : spot = none := by
          have := World.cell?_spot h00
          simpa [Addr.add] using this
        subst hspot
        refine .inr ⟨b, off, rfl, fun j hj i v hv => ?_⟩
        obtain ⟨_, hj2, _⟩ := hds j (by omega)
        have := hj2 i v hv
        rw [Addr.add_mid', Addr.add_mid'] at this
        exact this
    · obtain ⟨i, hi, rfl⟩ := List.mem_iff_getElem.1 he
      obtain ⟨_, _, h2⟩ := hds i (by omega)
      exact h2
theorem open_deeds {H : Type} {enc : TypeId × Value → H} {W : World} {x : Option Addr} {len cap : Nat} {d : DataW H} {p : List MemPlace} (h : DataW.Trod enc Tryd.prog W 0 (fun _ => true) true 22 (.slice x len cap) d p) : ∃ ds, DeedsAt W x len cap ds := by
  obtain ⟨fuel, hf⟩ := h
  obtain ⟨y, l, c, ds, hcs, hd⟩ := deeds_of_trod hf
  simp [Value.cells] at hcs
  obtain ⟨rfl, rfl, rfl⟩ := hcs
  exact ⟨ds, hd⟩
/-- Rows of bytes that came in. -/
structure ArgRows (w : World) (x : Option Addr) (len cap : Nat) (rs : List (List Int)) : Prop where
  len_eq : len = rs.length
  le : len ≤ cap
  top : cap ≤ 9223372036854775807
  at_ : len = 0 ∨ ∃ b off, x = some ⟨b, off, none⟩ ∧ ∀ j (hj : j < rs.length), ∃ xx cc, w.cell? ⟨b, off + j, none⟩ = some (.slice xx rs[j].length cc) ∧ Bytes w xx rs[j].length cc rs[j]
  isb : ∀ r ∈ rs, isB r
theorem ArgRows.below {w w' : World} {x : Option Addr} {len cap : Nat} {rs : List (List Int)} (h : ArgRows w x len cap rs) (hb : Below w.heap.size w w') : ArgRows w' x len cap rs :=
  ⟨h.len_eq, h.le, h.top, by
    rcases h.at_ with h0 | ⟨b, off, hx, hc⟩
    · exact .inl h0
    · refine .inr ⟨b, off, hx, fun j hj => ?_⟩
      obtain ⟨xx, cc, h1, h2⟩ := hc j hj
      exact ⟨xx, cc, (hb.cell (p := ⟨b, off + j, none⟩) (block_lt_of_cell h1)).trans h1, h2.below hb⟩, h.isb⟩
theorem rows_of_trod {H : Type} {enc : TypeId × Value → H} {W : World} {fuel : Nat} {cs : List Value} {x : DataW H × List MemPlace} (h : DataW.trod enc Tryd.prog W 0 (fun _ => true) true fuel 41 cs = some x) : ∃ y len cap rs, cs = [.slice y len cap] ∧ ArgRows W y len cap rs := by
  have hc : Tryd.prog.cellsOf 31 = 1 := by kernel_rfl
  rcases DataW.trod_slice Tryd.underlying41 h with ⟨hcs, _⟩ | ⟨a, len, cap, elems, rest, m, _, hcs, _, _, hl, hm, hlen, hel, _⟩
  · exact ⟨none, 0, 0, [], hcs, ⟨rfl, by omega, by omega, .inl rfl, (fun e he => by cases he)⟩⟩
  · have each : ∀ i, i < len → ∃ e : List Int, (∃ xx cc, W.cell? (a.add i) = some (.slice xx e.length cc) ∧ Bytes W xx e.length cc e) ∧ isB e := fun i hi => by
      have h1 := hel i hi
      rw [hc, List.getElem?_eq_getElem (by omega), Option.bind_eq_some_iff] at h1
      obtain ⟨ci, hci, hti⟩ := h1
      obtain ⟨y, l, c, e, rfl, hb, hin⟩ := slice_of_trodD hti
      have hs := World.cells?_some hci
      have h0 := hs.2.2 0 (by omega)
      refine ⟨e, ⟨y, c, ?_, ?_⟩, hin⟩
      · have e1 : (a.add (i * 1)).add 0 = a.add i := by
          rw [Nat.mul_one]
          obtain ⟨b, off, spot⟩ := a
          simp only [Addr.add]
          split <;> simp_all
        rw [e1] at h0
        rw [h0, hb.len_eq]; rfl
      · rw [← hb.len_eq]; exact hb
    obtain ⟨rs, hdl, hds⟩ := exists_listD len _ each
    refine ⟨some a, len, cap, rs, hcs, ⟨hdl.symm, hl, by simpa [maxLen] using hm, ?_, fun e he => ?_⟩⟩
    · by_cases h0 : len = 0
      · exact .inl h0
      · obtain ⟨b, off, spot⟩ := a
        obtain ⟨hl0, ⟨_, _, h00, _⟩, _⟩ := hds 0 (by omega)
        have hspot : spot = none := by
          have := World.cell?_spot h00
          simpa [Addr.add] using this
        subst hspot
        refine .inr ⟨b, off, rfl, fun j hj => ?_⟩
        obtain ⟨_, ⟨xx, cc, h1, h2⟩, _⟩ := hds j (by omega)
        rw [Addr.add_mid'] at h1
        exact ⟨xx, cc, h1, h2⟩
    · obtain ⟨i, hi, rfl⟩ := List.mem_iff_getElem.1 he
      obtain ⟨_, _, h2⟩ := hds i (by omega)
      exact h2
theorem open_rowsD {H : Type} {enc : TypeId × Value → H} {W : World} {x : Option Addr} {len cap : Nat} {d : DataW H} {p : List MemPlace} (h : DataW.Trod enc Tryd.prog W 0 (fun _ => true) true 41 (.slice x len cap) d p) : ∃ rs, ArgRows W x len cap rs := by
  obtain ⟨fuel, hf⟩ := h
  obtain ⟨y, l, c, ds, hcs, hd⟩ := rows_of_trod hf
  simp [Value.cells] at hcs
  obtain ⟨rfl, rfl, rfl⟩ := hcs
  exact ⟨ds, hd⟩
end Go.Proofs.YtknomnnbebhijabDoor
