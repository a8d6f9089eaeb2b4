/-
  DERIVED. GIVEN WITH THE SEED: THE CARDS: each row of YtnfilpbjgfmclaaDoorRows.lean that lists a variable, with what it lists TIED to the program's text (the seventh form; the later family's looks); each row that meets fmt, with fmt's text TOLD by the authors' own Lean function (tested against real Go, not proved from fmt's source: count such statements apart). THE CARD IS WHAT COUNTS. Prove the row's statement (the work); the ties are given (YtnfilpbjgfmclaaDoorTie.lean); close each card by the builder's one call (the guide's Derived/Test/ToyasCard.lean, 'card_holds'). Laid BY PROGRAM, IN A SANDBOX (cutbox-door.mjs). By AI agents, Wed Nov 11 2026. No macro, syntax, notation, axiom, sorry.
-/
import Derived.Test.YtnfilpbjgfmclaaDoorRows
import GoSem.ClaimSeven
namespace Go.Proofs.YtnfilpbjgfmclaaDoor
namespace Rows

/-- THE TIED CARD OF 'escritoirelaw06.WireEvents'. -/
def wireEventsCard : Claim7 := { stood := { row := wireEventsRow, standIns := [], harness := (true, "a45f27b79bbe1c5665d1d93e1d09061e792fbe110aa8de003acde7a6fb739cfd"), looks := true }, kinds := [], alts := [], laidByText := true, laidKinds := [.data], laidTests := true, laidLooks := .later }
def WireEventsCardSaid : Prop := Claim7.holds Tryd.pinned (.plain (OpenSpec.ofChange wireEventsSpec)) wireEventsCard

/-- THE SECOND FORM's CARD OF 'escritoirelaw06.WireEvents'. -/
def wireEventsUptoCard : Claim7 := { stood := { row := wireEventsUptoRow, standIns := [], harness := (true, "a45f27b79bbe1c5665d1d93e1d09061e792fbe110aa8de003acde7a6fb739cfd"), looks := true }, kinds := [], alts := [], laidByText := true, laidKinds := [.data], laidTests := true, laidLooks := .later }
def WireEventsUptoCardSaid : Prop := Claim7.holds Tryd.pinned (.plain (OpenSpec.upto wireEventsSpec)) wireEventsUptoCard
end Rows
end Go.Proofs.YtnfilpbjgfmclaaDoor
