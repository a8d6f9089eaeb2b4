/-
  DERIVED. GIVEN WITH THE SEED: THE CARDS: each row of YtlhajphjppjlgaaGreatDoorRows.lean that lists a variable, with what it lists TIED to the program's text (the seventh form; the later family's looks); each row that meets fmt, with fmt's text TOLD by the authors' own Lean function (tested against real Go, not proved from fmt's source: count such statements apart). THE CARD IS WHAT COUNTS. Prove the row's statement (the work); the ties are given (YtlhajphjppjlgaaGreatDoorTie.lean); close each card by the builder's one call (the guide's Derived/Test/ToyasCard.lean, 'card_holds'). Laid BY PROGRAM, IN A SANDBOX (cutbox-door.mjs). By AI agents, Wed Nov 11 2026. No macro, syntax, notation, axiom, sorry.
-/
import Derived.Test.YtlhajphjppjlgaaGreatDoorRows
import GoSem.ClaimSeven
namespace Go.Proofs.YtlhajphjppjlgaaGreatDoor
namespace Rows

/-- THE TIED CARD OF 'escritoiretop.TopTales'. -/
def topTalesCard : Claim7 := { stood := { row := topTalesRow, standIns := [], harness := (true, "82adb00f016abca330bebe427d755938c91f1bc8cca5fdb10a81d6f1f5f24c6a"), looks := true }, kinds := [], alts := [], laidByText := true, laidKinds := [.data, .data], laidTests := true, laidLooks := .later }
def TopTalesCardSaid : Prop := Claim7.holds Tryz.pinned (.plain (OpenSpec.ofChange topTalesSpec)) topTalesCard

/-- THE TIED CARD OF 'escritoiretop.TopKept'. -/
def topKeptCard : Claim7 := { stood := { row := topKeptRow, standIns := [], harness := (true, "82adb00f016abca330bebe427d755938c91f1bc8cca5fdb10a81d6f1f5f24c6a"), looks := true }, kinds := [], alts := [], laidByText := true, laidKinds := [.data, .data], laidTests := true, laidLooks := .later }
def TopKeptCardSaid : Prop := Claim7.holds Tryz.pinned (.plain (OpenSpec.ofChange topKeptSpec)) topKeptCard

/-- THE SECOND FORM's CARD OF 'escritoiretop.TopTales'. -/
def topTalesUptoCard : Claim7 := { stood := { row := topTalesUptoRow, standIns := [], harness := (true, "82adb00f016abca330bebe427d755938c91f1bc8cca5fdb10a81d6f1f5f24c6a"), looks := true }, kinds := [], alts := [], laidByText := true, laidKinds := [.data, .data], laidTests := true, laidLooks := .later }
def TopTalesUptoCardSaid : Prop := Claim7.holds Tryz.pinned (.plain (OpenSpec.upto topTalesSpec)) topTalesUptoCard

/-- THE SECOND FORM's CARD OF 'escritoiretop.TopKept'. -/
def topKeptUptoCard : Claim7 := { stood := { row := topKeptUptoRow, standIns := [], harness := (true, "82adb00f016abca330bebe427d755938c91f1bc8cca5fdb10a81d6f1f5f24c6a"), looks := true }, kinds := [], alts := [], laidByText := true, laidKinds := [.data, .data], laidTests := true, laidLooks := .later }
def TopKeptUptoCardSaid : Prop := Claim7.holds Tryz.pinned (.plain (OpenSpec.upto topKeptSpec)) topKeptUptoCard
end Rows
end Go.Proofs.YtlhajphjppjlgaaGreatDoor
