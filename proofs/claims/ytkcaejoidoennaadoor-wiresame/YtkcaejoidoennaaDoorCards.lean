/-
  DERIVED. GIVEN WITH THE SEED: THE CARDS: each row of YtkcaejoidoennaaDoorRows.lean that lists a variable, with what it lists TIED to the program's text (the seventh form; the later family's looks); each row that meets fmt, with fmt's text TOLD by the authors' own Lean function (tested against real Go, not proved from fmt's source: count such statements apart). THE CARD IS WHAT COUNTS. Prove the row's statement (the work); the ties are given (YtkcaejoidoennaaDoorTie.lean); close each card by the builder's one call (the guide's Derived/Test/ToyasCard.lean, 'card_holds'). Laid BY PROGRAM, IN A SANDBOX (cutbox-door.mjs). By AI agents, Wed Nov 11 2026. No macro, syntax, notation, axiom, sorry.
-/
import Derived.Test.YtkcaejoidoennaaDoorRows
import GoSem.ClaimSeven
namespace Go.Proofs.YtkcaejoidoennaaDoor
namespace Rows

/-- THE TIED CARD OF 'escritoirelaw06.WireSame'. -/
def wireSameCard : Claim7 := { stood := { row := wireSameRow, standIns := [], harness := (true, "92724b23bd5c9c1b95f5d54a1506c79a1704388ab6d04d721e9efc79290bf2d6"), looks := false }, kinds := [], alts := [], laidByText := true, laidKinds := [.data], laidTests := true, laidLooks := .later }
def WireSameCardSaid : Prop := Claim7.holds Tryd.pinned (.plain (OpenSpec.ofChange wireSameSpec)) wireSameCard

/-- THE SECOND FORM's CARD OF 'escritoirelaw06.WireSame'. -/
def wireSameUptoCard : Claim7 := { stood := { row := wireSameUptoRow, standIns := [], harness := (true, "92724b23bd5c9c1b95f5d54a1506c79a1704388ab6d04d721e9efc79290bf2d6"), looks := false }, kinds := [], alts := [], laidByText := true, laidKinds := [.data], laidTests := true, laidLooks := .later }
def WireSameUptoCardSaid : Prop := Claim7.holds Tryd.pinned (.plain (OpenSpec.upto wireSameSpec)) wireSameUptoCard
end Rows
end Go.Proofs.YtkcaejoidoennaaDoor
