/- What every row of fugue wants: deeds, and rows of deeds, that came in, opened. -/
import Derived.Test.YthjkcfpdkhghpaaGoC
import Derived.Test.YthjkcfpdkhghpaaMMgFkFg7
namespace Go.Proofs.Ythjkcfpdkhghpaa
open Go.ChangeShapes Go.WideShapes Go.ChangeAt Go.RowKit
set_option maxRecDepth 20000
set_option linter.unusedSimpArgs false
/-- A deed. -/
structure Dd8 where
  kind : Int
  id : Int × Int
  par : Int × Int
  right : Bool
  chr : Int
def Dd8.cells (d : Dd8) : List Value := [.int .i64 d.kind] ++ encF d.id ++ encF d.par ++ [.bool d.right] ++ [.int .u8 d.chr]
structure Dd8.Ok (d : Dd8) : Prop where
  id : okDF d.id
  par : okDF d.par
  chr : 0 ≤ d.chr ∧ d.chr ≤ 255
/-- Deeds in a row. -/
structure DeedsAt (w : World) (x : Option Addr) (len cap : Nat) (ds : List Dd8) : Prop where
  len_eq : len = ds.length
  le : len ≤ cap
  top : cap ≤ 9223372036854775807
  at_ : len = 0 ∨ ∃ b off, x = some ⟨b, off, none⟩ ∧ ∀ j (hj : j < ds.length) (i : Nat) v, ds[j].cells[i]? = some v → w.cell? ⟨b, off + j * 7 + i, none⟩ = some v
  ok : ∀ d ∈ ds, d.Ok
theorem DeedsAt.below {w w' : World} {x : Option Addr} {len cap : Nat} {ds : List Dd8} (h : DeedsAt w x len cap ds) (hb : Below w.heap.size w w') : DeedsAt w' x len cap ds :=
  ⟨h.len_eq, h.le, h.top, by
    rcases h.at_ with h0 | ⟨b, off, hx, hc⟩
    · exact .inl h0
    · refine .inr ⟨b, off, hx, fun j hj i v hv => ?_⟩
      have := hc j hj i v hv
      exact (hb.cell (p := ⟨b, off + j * 7 + i, none⟩) (block_lt_of_cell this)).trans this, h.ok⟩
def ddZ : Dd8 := ⟨0, (0, 0), (0, 0), false, 0⟩
end Go.Proofs.Ythjkcfpdkhghpaa

