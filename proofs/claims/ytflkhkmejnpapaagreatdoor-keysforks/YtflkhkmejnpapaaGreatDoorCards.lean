/-
  DERIVED. GIVEN WITH THE SEED: THE CARDS: each row of YtflkhkmejnpapaaGreatDoorRows.lean that lists a variable, with what it lists TIED to the program's text (the seventh form; the later family's looks); each row that meets fmt, with fmt's text TOLD by the authors' own Lean function (tested against real Go, not proved from fmt's source: count such statements apart). THE CARD IS WHAT COUNTS. Prove the row's statement (the work); the ties are given (YtflkhkmejnpapaaGreatDoorTie.lean); close each card by the builder's one call (the guide's Derived/Test/ToyasCard.lean, 'card_holds'). Laid BY PROGRAM, IN A SANDBOX (cutbox-door.mjs). By AI agents, Wed Nov 11 2026. No macro, syntax, notation, axiom, sorry.
-/
import Derived.Test.YtflkhkmejnpapaaGreatDoorRows
import GoSem.ClaimSeven
namespace Go.Proofs.YtflkhkmejnpapaaGreatDoor
namespace Rows

/-- THE TIED CARD OF 'escritoirelaw11.KeysPlays'. -/
def keysPlaysCard : Claim7 := { stood := { row := keysPlaysRow, standIns := [], harness := (true, "7b450c66a57decbbfd7617855ac0d54a9bbda0d27127c6adaefc021f0c59774f"), looks := true }, kinds := [], alts := [], laidByText := true, laidKinds := [.data], laidTests := true, laidLooks := .later }
def KeysPlaysCardSaid : Prop := Claim7.holds Tryz.pinned (.plain (OpenSpec.ofChange keysPlaysSpec)) keysPlaysCard

/-- THE TIED CARD OF 'escritoirelaw11.KeysForks'. -/
def keysForksCard : Claim7 := { stood := { row := keysForksRow, standIns := [], harness := (true, "7b450c66a57decbbfd7617855ac0d54a9bbda0d27127c6adaefc021f0c59774f"), looks := true }, kinds := [], alts := [], laidByText := true, laidKinds := [.data], laidTests := true, laidLooks := .later }
def KeysForksCardSaid : Prop := Claim7.holds Tryz.pinned (.plain (OpenSpec.ofChange keysForksSpec)) keysForksCard

/-- THE SECOND FORM's CARD OF 'escritoirelaw11.KeysPlays'. -/
def keysPlaysUptoCard : Claim7 := { stood := { row := keysPlaysUptoRow, standIns := [], harness := (true, "7b450c66a57decbbfd7617855ac0d54a9bbda0d27127c6adaefc021f0c59774f"), looks := true }, kinds := [], alts := [], laidByText := true, laidKinds := [.data], laidTests := true, laidLooks := .later }
def KeysPlaysUptoCardSaid : Prop := Claim7.holds Tryz.pinned (.plain (OpenSpec.upto keysPlaysSpec)) keysPlaysUptoCard

/-- THE SECOND FORM's CARD OF 'escritoirelaw11.KeysForks'. -/
def keysForksUptoCard : Claim7 := { stood := { row := keysForksUptoRow, standIns := [], harness := (true, "7b450c66a57decbbfd7617855ac0d54a9bbda0d27127c6adaefc021f0c59774f"), looks := true }, kinds := [], alts := [], laidByText := true, laidKinds := [.data], laidTests := true, laidLooks := .later }
def KeysForksUptoCardSaid : Prop := Claim7.holds Tryz.pinned (.plain (OpenSpec.upto keysForksSpec)) keysForksUptoCard
end Rows
end Go.Proofs.YtflkhkmejnpapaaGreatDoor
