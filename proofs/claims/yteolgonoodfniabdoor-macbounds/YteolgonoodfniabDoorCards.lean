/-
  DERIVED. GIVEN WITH THE SEED: THE CARDS: each row of YteolgonoodfniabDoorRows.lean that lists a variable, with what it lists TIED to the program's text (the seventh form; the later family's looks); each row that meets fmt, with fmt's text TOLD by the authors' own Lean function (tested against real Go, not proved from fmt's source: count such statements apart). THE CARD IS WHAT COUNTS. Prove the row's statement (the work); the ties are given (YteolgonoodfniabDoorTie.lean); close each card by the builder's one call (the guide's Derived/Test/ToyasCard.lean, 'card_holds'). Laid BY PROGRAM, IN A SANDBOX (cutbox-door.mjs). By AI agents, Wed Nov 11 2026. No macro, syntax, notation, axiom, sorry.
-/
import Derived.Test.YteolgonoodfniabDoorRows
import GoSem.ClaimSeven
namespace Go.Proofs.YteolgonoodfniabDoor
namespace Rows

/-- THE TIED CARD OF 'escritoirelaw02.MacBounds'. -/
def macBoundsCard : Claim7 := { stood := { row := macBoundsRow, standIns := [], harness := (true, "afc334f000196f2ddc26fb0b11cc1765ace2325b0384cb5e2df83a420baeb510"), looks := false }, kinds := [], alts := [], laidByText := true, laidKinds := [.data], laidTests := true, laidLooks := .later }
def MacBoundsCardSaid : Prop := Claim7.holds Tryd.pinned (.plain (OpenSpec.ofChange macBoundsSpec)) macBoundsCard

/-- THE SECOND FORM's CARD OF 'escritoirelaw02.MacBounds'. -/
def macBoundsUptoCard : Claim7 := { stood := { row := macBoundsUptoRow, standIns := [], harness := (true, "afc334f000196f2ddc26fb0b11cc1765ace2325b0384cb5e2df83a420baeb510"), looks := false }, kinds := [], alts := [], laidByText := true, laidKinds := [.data], laidTests := true, laidLooks := .later }
def MacBoundsUptoCardSaid : Prop := Claim7.holds Tryd.pinned (.plain (OpenSpec.upto macBoundsSpec)) macBoundsUptoCard
end Rows
end Go.Proofs.YteolgonoodfniabDoor
