/- chain: deeds that came in. -/
import Derived.Test.YtgcidamdbidgiaaDoorGoF
import Derived.Test.YtgcidamdbidgiaaDoorHk
namespace Go.Proofs.YtgcidamdbidgiaaDoor
open Go.ChangeShapes Go.WideShapes Go.ChangeAt Go.RowKit
set_option maxRecDepth 20000
set_option linter.unusedSimpArgs false

/-- A deed. -/
structure Dc where
  F : Fr
  xw : Option Addr
  lw : Nat
  cw : Nat
  ws : List Wp
  xb : Option Addr
  lb : Nat
  cb : Nat
  body : List Int
  fits : Bool
  cmp : Bool
  hs : List (Int × List Int)
def Dc.cells (d : Dc) : List Value := deedC d.F d.fits d.cmp d.hs
structure Dc.Ok (W : World) (d : Dc) : Prop where
  fr : FrIn W d.F d.xw d.lw d.cw d.ws d.xb d.lb d.cb d.body
  hs8 : okHs8 d.hs
theorem Dc.Ok.below {W W' : World} {d : Dc} (h : d.Ok W) (hb : Below W.heap.size W W') : d.Ok W' := ⟨h.fr.below hb, h.hs8⟩
theorem Dc.Ok.len {W : World} {d : Dc} (h : d.Ok W) : d.cells.length = 336 := (deedC_parts d.F d.fits d.cmp d.hs (fr_parts d.F h.fr.prev h.fr.mac).1 h.hs8).1
section
variable {H : Type} {enc : TypeId × Value → H} {W : World} {fuel : Nat} {cs : List Value} {x : DataW H × List MemPlace}
theorem headH_of_trod (h : DataW.trod enc Tryd.prog W 0 (fun _ => true) true fuel 40 cs = some x) : ∃ h : Int × List Int, cs = headC h ∧ okH h := by
  obtain ⟨xs, m, _, _, hl, hlen, hfd⟩ := DataW.trod_struct Tryd.underlying40 h
  have hc : Tryd.prog.cellsOf 40 = 33 := by kernel_rfl
  have h32 : Tryd.prog.cellsOf 30 = 1 := by kernel_rfl
  have hk : Tryd.prog.cellsOf 34 = 32 := by kernel_rfl
  rw [hc] at hl
  have g0 : DataW.trod enc Tryd.prog W 0 (fun _ => true) true m 30 (List.take (Tryd.prog.cellsOf 30) (List.drop 0 cs)) = xs[0]? := hfd 0 _ rfl
  have g1 : DataW.trod enc Tryd.prog W 0 (fun _ => true) true m 34 (List.take (Tryd.prog.cellsOf 34) (List.drop 1 cs)) = xs[1]? := hfd 1 _ rfl
  simp only [List.size_toArray, List.length_cons, List.length_nil, Nat.reduceAdd] at hlen
  rw [h32, List.getElem?_eq_getElem (by omega)] at g0
  rw [hk, List.getElem?_eq_getElem (by omega)] at g1
  obtain ⟨n, en, _, wn⟩ := DataW.trod_int Tryd.underlying30 g0
  obtain ⟨s, hs, es, ws⟩ := row_of_trod5 Tryd.underlying34 Tryd.underlying5 (by kernel_rfl) (by simp [hl]) g1
  refine ⟨(n, s), ?_, bounds_u32 wn, hs, fun v hv => bounds_u8 (ws v hv)⟩
  show cs = [Value.int .u32 n] ++ s.map (Value.int .u8)
  rw [← en, ← es, List.drop_zero, ← List.take_add, List.take_of_length_le (by omega)]
theorem headsH_of_cells : ∀ (n : Nat) (cs : List Value), cs.length = 33 * n → (∀ j, j < n → ∃ h : Int × List Int, (cs.drop (j * 33)).take 33 = headC h ∧ okH h) → ∃ l : List (Int × List Int), cs = headsC l ∧ l.length = n ∧ okHs l
  | 0, cs, hl, _ => ⟨[], List.length_eq_zero_iff.1 (by omega), rfl, fun h hh => by cases hh⟩
  | n + 1, cs, hl, hh => by
    obtain ⟨h, e, hi⟩ := hh 0 (by omega)
    rw [Nat.zero_mul, List.drop_zero] at e
    obtain ⟨l, el, hn, hi'⟩ := headsH_of_cells n (cs.drop 33) (by rw [List.length_drop]; omega) (fun j hj => by
      obtain ⟨h, e, hi⟩ := hh (j + 1) (by omega)
      refine ⟨h, ?_, hi⟩
      rw [List.drop_drop, show 33 + j * 33 = (j + 1) * 33 by omega]; exact e)
    refine ⟨h :: l, ?_, by rw [List.length_cons, hn], fun x hx => ?_⟩
    · rw [headsC_cons, ← e, ← el, List.take_append_drop]
    · rcases List.mem_cons.1 hx with rfl | h1
      · exact hi
      · exact hi' x h1
theorem headsH_of_trod (h : DataW.trod enc Tryd.prog W 0 (fun _ => true) true fuel 41 cs = some x) (hl : cs.length = 264) : ∃ l : List (Int × List Int), cs = headsC l ∧ okHs8 l := by
  have hc1 : Tryd.prog.cellsOf 40 = 33 := by kernel_rfl
  obtain ⟨xs, m, _, _, _, hlen, hel⟩ := DataW.trod_array Tryd.underlying41 h
  simp only [hc1] at hel
  obtain ⟨l, e, h8, hi⟩ := headsH_of_cells 8 cs hl (fun j hj => by
    have h0 := hel j (by omega)
    rw [List.getElem?_eq_getElem (by omega)] at h0
    exact headH_of_trod h0)
  exact ⟨l, e, hi, h8⟩
theorem deedH_of_trod (h : DataW.trod enc Tryd.prog W 0 (fun _ => true) true fuel 53 cs = some x) : ∃ d : Dc, cs = d.cells ∧ d.Ok W := by
  obtain ⟨xs, m, _, _, hl, hlen, hfd⟩ := DataW.trod_struct Tryd.underlying53 h
  have hc : Tryd.prog.cellsOf 53 = 336 := by kernel_rfl
  have hcf : Tryd.prog.cellsOf 38 = 70 := by kernel_rfl
  have hcb : Tryd.prog.cellsOf 4 = 1 := by kernel_rfl
  have hch : Tryd.prog.cellsOf 41 = 264 := by kernel_rfl
  rw [hc] at hl
  have g0 : DataW.trod enc Tryd.prog W 0 (fun _ => true) true m 38 (List.take (Tryd.prog.cellsOf 38) (List.drop 0 cs)) = xs[0]? := hfd 0 _ rfl
  have g1 : DataW.trod enc Tryd.prog W 0 (fun _ => true) true m 4 (List.take (Tryd.prog.cellsOf 4) (List.drop 70 cs)) = xs[1]? := hfd 1 _ rfl
  have g2 : DataW.trod enc Tryd.prog W 0 (fun _ => true) true m 4 (List.take (Tryd.prog.cellsOf 4) (List.drop 71 cs)) = xs[2]? := hfd 2 _ rfl
  have g3 : DataW.trod enc Tryd.prog W 0 (fun _ => true) true m 41 (List.take (Tryd.prog.cellsOf 41) (List.drop 72 cs)) = xs[3]? := hfd 3 _ rfl
  simp only [List.size_toArray, List.length_cons, List.length_nil, Nat.reduceAdd] at hlen
  rw [hcf, List.getElem?_eq_getElem (by omega)] at g0
  rw [hcb, List.getElem?_eq_getElem (by omega)] at g1 g2
  rw [hch, List.getElem?_eq_getElem (by omega)] at g3
  obtain ⟨F, xw, lw, cw, ws, xb, lb, cb, body, eF, hF⟩ := frame_of_trod g0
  obtain ⟨b1, e1, _⟩ := DataW.trod_bool Tryd.underlying4 g1
  obtain ⟨b2, e2, _⟩ := DataW.trod_bool Tryd.underlying4 g2
  obtain ⟨hs, eh, hh⟩ := headsH_of_trod g3 (by rw [List.length_take, List.length_drop, hl]; rfl)
  refine ⟨⟨F, xw, lw, cw, ws, xb, lb, cb, body, b1, b2, hs⟩, ?_, hF, hh⟩
  show cs = F.cells ++ ([.bool b1, .bool b2] ++ headsC hs)
  have e12 : ([.bool b1, .bool b2] : List Value) = [.bool b1] ++ [.bool b2] := rfl
  rw [e12, ← eF, ← e1, ← e2, ← eh, List.drop_zero]
  have f1 : (cs.drop 70).take 1 ++ (cs.drop 71).take 1 = (cs.drop 70).take 2 := by rw [show cs.drop 71 = (cs.drop 70).drop 1 by rw [List.drop_drop], ← List.take_add]
  have f2 : (cs.drop 70).take 2 ++ (cs.drop 72).take 264 = (cs.drop 70).take 266 := by rw [show cs.drop 72 = (cs.drop 70).drop 2 by rw [List.drop_drop], ← List.take_add]
  have f3 : cs.take 70 ++ (cs.drop 70).take 266 = cs.take 336 := by rw [← List.take_add]
  rw [f1, f2, f3, List.take_of_length_le (by omega)]
theorem open_deedH {r : Reach} {base : Nat} {v : Value} {d : DataW H} {p : List MemPlace} (hv : Value.okWide Tryd.prog W r base 53 v) (h : DataW.Trod enc Tryd.prog W 0 (fun _ => true) true 53 v d p) : ∃ d : Dc, v = .agg d.cells.toArray ∧ d.Ok W := by
  simp only [Value.okWide, Tryd.underlying53] at hv
  obtain ⟨cs, rfl, hsz, _⟩ := hv
  obtain ⟨fuel, hf⟩ := h
  obtain ⟨d, hd, ho⟩ := deedH_of_trod hf
  exact ⟨d, by rw [← hd]; rfl, ho⟩
end
/-- Deeds in a row. -/
structure DeedsC (w : World) (x : Option Addr) (len cap : Nat) (ds : List Dc) : Prop where
  len_eq : len = ds.length
  le : len ≤ cap
  top : cap ≤ 9223372036854775807
  at_ : len = 0 ∨ ∃ b off, x = some ⟨b, off, none⟩ ∧ ∀ j (hj : j < ds.length) (i : Nat) v, ds[j].cells[i]? = some v → w.cell? ⟨b, off + j * 336 + i, none⟩ = some v
  ok : ∀ d ∈ ds, d.Ok w
theorem DeedsC.below {w w' : World} {x : Option Addr} {len cap : Nat} {ds : List Dc} (h : DeedsC w x len cap ds) (hb : Below w.heap.size w w') : DeedsC w' x len cap ds :=
  ⟨h.len_eq, h.le, h.top, by
    rcases h.at_ with h0 | ⟨b, off, hx, hc⟩
    · exact .inl h0
    · refine .inr ⟨b, off, hx, fun j hj i v hv => ?_⟩
      have := hc j hj i v hv
      exact (hb.cell (p := ⟨b, off + j * 336 + i, none⟩) (block_lt_of_cell this)).trans this, fun d hd => (h.ok d hd).below hb⟩
theorem deedsH_of_trod {H : Type} {enc : TypeId × Value → H} {W : World} {fuel : Nat} {cs : List Value} {x : DataW H × List MemPlace} (h : DataW.trod enc Tryd.prog W 0 (fun _ => true) true fuel 22 cs = some x) : ∃ y len cap ds, cs = [.slice y len cap] ∧ DeedsC W y len cap ds := by
  have hc : Tryd.prog.cellsOf 53 = 336 := by kernel_rfl
  rcases DataW.trod_slice Tryd.underlying22 h with ⟨hcs, _⟩ | ⟨a, len, cap, elems, rest, m, _, hcs, _, _, hl, hm, hlen, hel, _⟩
  · exact ⟨none, 0, 0, [], hcs, ⟨rfl, by omega, by omega, .inl rfl, (fun e he => by cases he)⟩⟩
  · have each : ∀ i, i < len → ∃ e : Dc, (∀ (j : Nat) v, e.cells[j]? = some v → W.cell? ((a.add (i * 336)).add j) = some v) ∧ e.Ok W := fun i hi => by
      have h1 := hel i hi
      rw [hc, List.getElem?_eq_getElem (by omega), Option.bind_eq_some_iff] at h1
      obtain ⟨ci, hci, hti⟩ := h1
      obtain ⟨e, rfl, hin⟩ := deedH_of_trod hti
      have hs := World.cells?_some hci
      refine ⟨e, fun j v hv => ?_, hin⟩
      have hj : j < 336 := by
        have := (List.getElem?_eq_some_iff.1 hv).1
        have := hs.2.1
        omega
      rw [hs.2.2 j hj]; exact hv
    obtain ⟨ds, hdl, hds⟩ := exists_list len _ each
    refine ⟨some a, len, cap, ds, hcs, ⟨hdl.symm, hl, by simpa [maxLen] using hm, ?_, fun e he => ?_⟩⟩
    · by_cases h0 : len = 0
      · exact .inl h0
      · obtain ⟨b, off, spot⟩ := a
        have hl0 : 0 < ds.length := by omega
        have h00 := (hds 0 hl0).1 0 (.int .u8 (ds[0]).F.author) rfl
        have hspot : spot = none := by
          have := World.cell?_spot h00
          simpa [Addr.add] using this
        subst hspot
        refine .inr ⟨b, off, rfl, fun j hj i v hv => ?_⟩
        have := (hds j hj).1 i v hv
        rw [Addr.add_mid', Addr.add_mid'] at this
        exact this
    · obtain ⟨i, hi, rfl⟩ := List.mem_iff_getElem.1 he
      exact (hds i hi).2
theorem open_deedsH {H : Type} {enc : TypeId × Value → H} {W : World} {x : Option Addr} {len cap : Nat} {d : DataW H} {p : List MemPlace} (h : DataW.Trod enc Tryd.prog W 0 (fun _ => true) true 22 (.slice x len cap) d p) : ∃ ds, DeedsC W x len cap ds := by
  obtain ⟨fuel, hf⟩ := h
  obtain ⟨y, l, c, ds, hcs, hd⟩ := deedsH_of_trod hf
  simp [Value.cells] at hcs
  obtain ⟨rfl, rfl, rfl⟩ := hcs
  exact ⟨ds, hd⟩
end Go.Proofs.YtgcidamdbidgiaaDoor
