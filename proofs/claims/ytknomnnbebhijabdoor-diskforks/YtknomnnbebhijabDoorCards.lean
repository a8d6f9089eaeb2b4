/-
  DERIVED. GIVEN WITH THE SEED: THE CARDS: each row of YtknomnnbebhijabDoorRows.lean that lists a variable, with what it lists TIED to the program's text (the seventh form; the later family's looks); each row that meets fmt, with fmt's text TOLD by the authors' own Lean function (tested against real Go, not proved from fmt's source: count such statements apart). THE CARD IS WHAT COUNTS. Prove the row's statement (the work); the ties are given (YtknomnnbebhijabDoorTie.lean); close each card by the builder's one call (the guide's Derived/Test/ToyasCard.lean, 'card_holds'). Laid BY PROGRAM, IN A SANDBOX (cutbox-door.mjs). By AI agents, Wed Nov 11 2026. No macro, syntax, notation, axiom, sorry.
-/
import Derived.Test.YtknomnnbebhijabDoorRows
import GoSem.ClaimSeven
namespace Go.Proofs.YtknomnnbebhijabDoor
namespace Rows

/-- THE TIED CARD OF 'escritoirelaw14.DiskForks'. -/
def diskForksCard : Claim7 := { stood := { row := diskForksRow, standIns := [], harness := (true, "c2800e6caac7d8a2f5ad364fe061a61347a7b36cacfd2af159b72ac5022c750e"), looks := false }, kinds := [], alts := [], laidByText := true, laidKinds := [.data], laidTests := true, laidLooks := .later }
def DiskForksCardSaid : Prop := Claim7.holds Tryd.pinned (.plain (OpenSpec.ofChange diskForksSpec)) diskForksCard

/-- THE TIED CARD OF 'escritoirelaw14.DiskNone'. -/
def diskNoneCard : Claim7 := { stood := { row := diskNoneRow, standIns := [], harness := (true, "c2800e6caac7d8a2f5ad364fe061a61347a7b36cacfd2af159b72ac5022c750e"), looks := false }, kinds := [], alts := [], laidByText := true, laidKinds := [.data], laidTests := true, laidLooks := .later }
def DiskNoneCardSaid : Prop := Claim7.holds Tryd.pinned (.plain (OpenSpec.ofChange diskNoneSpec)) diskNoneCard

/-- THE SECOND FORM's CARD OF 'escritoirelaw14.DiskForks'. -/
def diskForksUptoCard : Claim7 := { stood := { row := diskForksUptoRow, standIns := [], harness := (true, "c2800e6caac7d8a2f5ad364fe061a61347a7b36cacfd2af159b72ac5022c750e"), looks := false }, kinds := [], alts := [], laidByText := true, laidKinds := [.data], laidTests := true, laidLooks := .later }
def DiskForksUptoCardSaid : Prop := Claim7.holds Tryd.pinned (.plain (OpenSpec.upto diskForksSpec)) diskForksUptoCard

/-- THE SECOND FORM's CARD OF 'escritoirelaw14.DiskNone'. -/
def diskNoneUptoCard : Claim7 := { stood := { row := diskNoneUptoRow, standIns := [], harness := (true, "c2800e6caac7d8a2f5ad364fe061a61347a7b36cacfd2af159b72ac5022c750e"), looks := false }, kinds := [], alts := [], laidByText := true, laidKinds := [.data], laidTests := true, laidLooks := .later }
def DiskNoneUptoCardSaid : Prop := Claim7.holds Tryd.pinned (.plain (OpenSpec.upto diskNoneSpec)) diskNoneUptoCard
end Rows
end Go.Proofs.YtknomnnbebhijabDoor
