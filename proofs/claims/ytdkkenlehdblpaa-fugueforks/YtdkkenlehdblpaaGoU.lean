/- What every row of fugue wants: deeds, and rows of deeds, that came in, opened. -/
import Derived.Test.YtdkkenlehdblpaaGoC
import Derived.Test.YtdkkenlehdblpaaMMgFkFg7
namespace Go.Proofs.Ytdkkenlehdblpaa
open Go.ChangeShapes Go.WideShapes Go.ChangeAt Go.RowKit
set_option maxRecDepth 20000
set_option linter.unusedSimpArgs false
/-- A deed. -/
structure Dd8 where
  kind : Int
  id : Int × Int
  par : Int × Int
  right : Bool
  chr : Int
def Dd8.cells (d : Dd8) : List Value := [.int .i64 d.kind] ++ encF d.id ++ encF d.par ++ [.bool d.right] ++ [.int .u8 d.chr]
structure Dd8.Ok (d : Dd8) : Prop where
  id : okDF d.id
  par : okDF d.par
  chr : 0 ≤ d.chr ∧ d.chr ≤ 255
theorem deed_of_trod {H : Type} {enc : TypeId × Value → H} {W : World} {fuel : Nat} {l : List Value} {x : DataW H × List MemPlace} (h : DataW.trod enc Try.prog W 0 (fun _ => true) true fuel 34 l = some x) : ∃ E : Dd8, l = E.cells ∧ E.Ok := by
  obtain ⟨xs, m, _, _, hl, hlen, hfd⟩ := DataW.trod_struct Try.underlying34 h
  have hc : Try.prog.cellsOf 34 = 7 := by kernel_rfl
  have h8 : Try.prog.cellsOf 5 = 1 := by kernel_rfl
  have hi1 : Try.prog.cellsOf 3 = 1 := by kernel_rfl
  have hb1 : Try.prog.cellsOf 4 = 1 := by kernel_rfl
  have hd : Try.prog.cellsOf 32 = 2 := by kernel_rfl
  rw [hc] at hl
  have g0 : DataW.trod enc Try.prog W 0 (fun _ => true) true m 3 (List.take (Try.prog.cellsOf 3) (List.drop 0 l)) = xs[0]? := hfd 0 _ rfl
  have g1 : DataW.trod enc Try.prog W 0 (fun _ => true) true m 32 (List.take (Try.prog.cellsOf 32) (List.drop 1 l)) = xs[1]? := hfd 1 _ rfl
  have g2 : DataW.trod enc Try.prog W 0 (fun _ => true) true m 32 (List.take (Try.prog.cellsOf 32) (List.drop 3 l)) = xs[2]? := hfd 2 _ rfl
  have g3 : DataW.trod enc Try.prog W 0 (fun _ => true) true m 4 (List.take (Try.prog.cellsOf 4) (List.drop 5 l)) = xs[3]? := hfd 3 _ rfl
  have g4 : DataW.trod enc Try.prog W 0 (fun _ => true) true m 5 (List.take (Try.prog.cellsOf 5) (List.drop 6 l)) = xs[4]? := hfd 4 _ rfl
  simp only [List.size_toArray, List.length_cons, List.length_nil, Nat.reduceAdd] at hlen
  rw [hi1, List.getElem?_eq_getElem (by omega)] at g0
  rw [hd, List.getElem?_eq_getElem (by omega)] at g1 g2
  rw [hb1, List.getElem?_eq_getElem (by omega)] at g3
  rw [h8, List.getElem?_eq_getElem (by omega)] at g4
  obtain ⟨k, ek, _, _⟩ := DataW.trod_int Try.underlying3 g0
  obtain ⟨a, s, ed, wd⟩ := dot_of_trodC g1
  obtain ⟨pa, ps, ep, wp⟩ := dot_of_trodC g2
  obtain ⟨b, eb, _⟩ := DataW.trod_bool Try.underlying4 g3
  obtain ⟨c, ec, _, wc⟩ := DataW.trod_int Try.underlying5 g4
  refine ⟨⟨k, (a, s), (pa, ps), b, c⟩, ?_, ⟨⟨wd.1, wd.2⟩, ⟨wp.1, wp.2⟩, wfU8 wc⟩⟩
  show l = [.int .i64 k] ++ dotC a s ++ dotC pa ps ++ [.bool b] ++ [.int .u8 c]
  rw [← ek, ← ed, ← ep, ← eb, ← ec, List.drop_zero]
  have sp : ∀ a n m : Nat, a + n = m → l.take a ++ (l.drop a).take n = l.take m := fun a n m h => by rw [← h, List.take_add]
  rw [sp 1 2 3 rfl, sp 3 2 5 rfl, sp 5 1 6 rfl, sp 6 1 7 rfl, List.take_of_length_le (by omega)]
theorem open_deed {H : Type} {enc : TypeId × Value → H} {W : World} {r : Reach} {base : Nat} {v : Value} {d : DataW H} {p : List MemPlace} (hv : Value.okWide Try.prog W r base 34 v) (h : DataW.Trod enc Try.prog W 0 (fun _ => true) true 34 v d p) :
    ∃ E : Dd8, v = .agg E.cells.toArray ∧ E.Ok := by
  simp only [Value.okWide, Try.underlying34] at hv
  obtain ⟨cs, rfl, hsz, _⟩ := hv
  obtain ⟨fuel, hf⟩ := h
  obtain ⟨E, hE, hO⟩ := deed_of_trod hf
  exact ⟨E, by rw [← hE]; rfl, hO⟩
/-- Deeds in a row. -/
structure DeedsAt (w : World) (x : Option Addr) (len cap : Nat) (ds : List Dd8) : Prop where
  len_eq : len = ds.length
  le : len ≤ cap
  top : cap ≤ 9223372036854775807
  at_ : len = 0 ∨ ∃ b off, x = some ⟨b, off, none⟩ ∧ ∀ j (hj : j < ds.length) (i : Nat) v, ds[j].cells[i]? = some v → w.cell? ⟨b, off + j * 7 + i, none⟩ = some v
  ok : ∀ d ∈ ds, d.Ok
theorem DeedsAt.below {w w' : World} {x : Option Addr} {len cap : Nat} {ds : List Dd8} (h : DeedsAt w x len cap ds) (hb : Below w.heap.size w w') : DeedsAt w' x len cap ds :=
  ⟨h.len_eq, h.le, h.top, by
    rcases h.at_ with h0 | ⟨b, off, hx, hc⟩
    · exact .inl h0
    · refine .inr ⟨b, off, hx, fun j hj i v hv => ?_⟩
      have := hc j hj i v hv
      exact (hb.cell (p := ⟨b, off + j * 7 + i, none⟩) (block_lt_of_cell this)).trans this, h.ok⟩
theorem deeds_of_trod {H : Type} {enc : TypeId × Value → H} {W : World} {fuel : Nat} {cs : List Value} {x : DataW H × List MemPlace} (h : DataW.trod enc Try.prog W 0 (fun _ => true) true fuel 22 cs = some x) : ∃ y len cap ds, cs = [.slice y len cap] ∧ DeedsAt W y len cap ds := by
  have hc : Try.prog.cellsOf 34 = 7 := by kernel_rfl
  rcases DataW.trod_slice Try.underlying22 h with ⟨hcs, _⟩ | ⟨a, len, cap, elems, rest, m, _, hcs, _, _, hl, hm, hlen, hel, _⟩
  · exact ⟨none, 0, 0, [], hcs, ⟨rfl, by omega, by omega, .inl rfl, (fun e he => by cases he)⟩⟩
  · have each : ∀ i, i < len → ∃ e : Dd8, (∀ (j : Nat) v, e.cells[j]? = some v → W.cell? ((a.add (i * 7)).add j) = some v) ∧ e.Ok := fun i hi => by
      have h1 := hel i hi
      rw [hc, List.getElem?_eq_getElem (by omega), Option.bind_eq_some_iff] at h1
      obtain ⟨ci, hci, hti⟩ := h1
      obtain ⟨e, rfl, hin⟩ := deed_of_trod hti
      have hs := World.cells?_some hci
      refine ⟨e, fun j v hv => ?_, hin⟩
      have hj : j < 7 := by
        have := (List.getElem?_eq_some_iff.1 hv).1
        have := hs.2.1
        omega
      rw [hs.2.2 j hj]; exact hv
    obtain ⟨ds, hdl, hds⟩ := exists_listC len _ each
    refine ⟨some a, len, cap, ds, hcs, ⟨hdl.symm, hl, by simpa [maxLen] using hm, ?_, fun e he => ?_⟩⟩
    · by_cases h0 : len = 0
      · exact .inl h0
      · obtain ⟨b, off, spot⟩ := a
        obtain ⟨hl0, h00, _⟩ := hds 0 (by omega)
        have h00 := h00 0 (.int .i64 (ds[0]).kind) rfl
        have hspot : spot = none := by
          have := World.cell?_spot h00
          simpa [Addr.add] using this
        subst hspot
        refine .inr ⟨b, off, rfl, fun j hj i v hv => ?_⟩
        obtain ⟨_, hj2, _⟩ := hds j (by omega)
        have := hj2 i v hv
        rw [addC_mid, addC_mid] at this
        exact this
    · obtain ⟨i, hi, rfl⟩ := List.mem_iff_getElem.1 he
      obtain ⟨_, _, h2⟩ := hds i (by omega)
      exact h2
theorem open_deeds {H : Type} {enc : TypeId × Value → H} {W : World} {x : Option Addr} {len cap : Nat} {d : DataW H} {p : List MemPlace} (h : DataW.Trod enc Try.prog W 0 (fun _ => true) true 22 (.slice x len cap) d p) : ∃ ds, DeedsAt W x len cap ds := by
  obtain ⟨fuel, hf⟩ := h
  obtain ⟨y, l, c, ds, hcs, hd⟩ := deeds_of_trod hf
  simp [Value.cells] at hcs
  obtain ⟨rfl, rfl, rfl⟩ := hcs
  exact ⟨ds, hd⟩
def ddZ : Dd8 := ⟨0, (0, 0), (0, 0), false, 0⟩
end Go.Proofs.Ytdkkenlehdblpaa

