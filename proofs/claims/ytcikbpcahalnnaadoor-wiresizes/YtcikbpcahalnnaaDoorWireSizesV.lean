/- WireSizes, of all bytes and frames. -/
import Derived.Test.YtcikbpcahalnnaaDoorWireSizesW
import Derived.Test.YtcikbpcahalnnaaDoorGoW
namespace Go.Proofs.YtcikbpcahalnnaaDoor
open Go.RowKit
theorem sizes_all (xa : Option Addr) (la ca : Nat) (za : List Int) (xb : Option Addr) (lb cb : Nat) (zb : List Int) (F : Fr) (xw : Option Addr) (lw cw : Nat) (ws : List Wp) (xd : Option Addr) (ld cd : Nat) (bo : List Int) (G : Fr) (yw : Option Addr) (mw dw : Nat) (vs : List Wp) (yd : Option Addr) (md dd : Nat) (bp : List Int) (w : World) (hT : BTab w) (ha : Bytes w xa la ca za) (hb : Bytes w xb lb cb zb) (hF : FrIn w F xw lw cw ws xd ld cd bo) (hG : FrIn w G yw mw dw vs yd md dd bp) :
    Calls Tryd.prog 4 #[.slice xa la ca, .slice xb lb cb, .agg (F.cells ++ G.cells).toArray] w fun e w' => e = .returned (.bool true) ∧ Below w.heap.size w w' := by
  by_cases h : 5000 < la ∨ 5000 < lb
  · exact sizes_long xa la ca za xb lb cb zb _ w hT ha hb h
  · exact sizes_walk xa la ca za xb lb cb zb F xw lw cw ws xd ld cd bo G yw mw dw vs yd md dd bp w hT ha hb hF.prev hF.mac hF.wraps hF.hw hF.body_ hF.hb hG.prev hG.mac hG.wraps hG.hw hG.body_ hG.hb (by omega) (by omega)
end Go.Proofs.YtcikbpcahalnnaaDoor
