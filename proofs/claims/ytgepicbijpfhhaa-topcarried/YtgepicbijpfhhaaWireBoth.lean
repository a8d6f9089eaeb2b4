/- 'Frame', 'Open' of wire and of the reference, of every frame, in one contract each. -/
import Derived.Test.YtgepicbijpfhhaaWr6
import Derived.Test.YtgepicbijpfhhaaWo2
namespace Go.Proofs.Ytgepicbijpfhhaa
open Go.RowKit
set_option maxRecDepth 20000
set_option linter.unusedSimpArgs false

/-- What 'Frame' says of a frame with so many wraps, and so long a body: its bytes; its error. -/
def frB (F : Fr) (ws : List Wp) (body : List Int) (lw lb : Nat) : List Int := if 64 < lw ∨ 4112 < lb then [] else frameL F ws body
def frE (lw lb : Nat) : Int := if 64 < lw ∨ 4112 < lb then 2 else 0
def opB (F : Fr) (ws : List Wp) (lw : Nat) : List Int := if 64 < lw then [] else openL F ws
theorem Frame_both (F : Fr) (xw : Option Addr) (lw cw : Nat) (ws : List Wp) (xb : Option Addr) (lb cb : Nat) (body : List Int) (w : World) (hp : F.prev.length = 32) (hm : F.mac.length = 32) (hfw : F.wraps = .slice xw lw cw) (hws : WrapsAt w xw lw cw ws) (hfb : F.body = .slice xb lb cb) (hbo : Bytes w xb lb cb body) :
    Calls Try.prog 7 #[.agg F.cells.toArray] w fun e w' => ∃ x n c, e = .returned (.tuple #[.slice x n c, .int .i64 (frE lw lb)]) ∧ Bytes w' x n c (frB F ws body lw lb) ∧ Below w.heap.size w w' := by
  by_cases h : 64 < lw ∨ 4112 < lb
  · unfold frE frB
    rw [if_pos h, if_pos h]
    exact (Frame_long F xw lw cw xb lb cb w hp hm hfw hfb h).mono fun e w' ⟨h1, h2⟩ => ⟨none, 0, 0, h1, bytes_nil _, h2⟩
  · unfold frE frB
    rw [if_neg h, if_neg h]
    exact (Frame_any F xw lw cw ws xb lb cb body w hp hm hfw hws hfb hbo (by omega) (by omega)).mono fun e w' ⟨v, h1, h2, h3⟩ => by
      obtain ⟨x, n, c, rfl, _⟩ := h2.isSlice
      exact ⟨x, n, c, h1, h2.bytes.2, h3⟩
theorem Open_both (F : Fr) (xw : Option Addr) (lw cw : Nat) (ws : List Wp) (w : World) (hp : F.prev.length = 32) (hm : F.mac.length = 32) (hfw : F.wraps = .slice xw lw cw) (hws : WrapsAt w xw lw cw ws) :
    Calls Try.prog 6 #[.agg F.cells.toArray] w fun e w' => ∃ x n c, e = .returned (.slice x n c) ∧ Bytes w' x n c (opB F ws lw) ∧ Below w.heap.size w w' := by
  by_cases h : 64 < lw
  · unfold opB
    rw [if_pos h]
    exact (Open_long F xw lw cw w hp hm hfw h).mono fun e w' ⟨h1, h2⟩ => ⟨none, 0, 0, h1, bytes_nil _, h2⟩
  · unfold opB
    rw [if_neg h]
    exact (Open_any F xw lw cw ws w hp hm hfw hws (by omega)).mono fun e w' ⟨v, h1, h2, h3⟩ => by
      obtain ⟨x, n, c, rfl, _⟩ := h2.isSlice
      exact ⟨x, n, c, h1, h2.bytes.2, h3⟩
end Go.Proofs.Ytgepicbijpfhhaa
