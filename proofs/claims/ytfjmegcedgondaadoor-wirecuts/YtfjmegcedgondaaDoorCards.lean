/-
  DERIVED. GIVEN WITH THE SEED: THE CARDS: each row of YtfjmegcedgondaaDoorRows.lean that lists a variable, with what it lists TIED to the program's text (the seventh form; the later family's looks); each row that meets fmt, with fmt's text TOLD by the authors' own Lean function (tested against real Go, not proved from fmt's source: count such statements apart). THE CARD IS WHAT COUNTS. Prove the row's statement (the work); the ties are given (YtfjmegcedgondaaDoorTie.lean); close each card by the builder's one call (the guide's Derived/Test/ToyasCard.lean, 'card_holds'). Laid BY PROGRAM, IN A SANDBOX (cutbox-door.mjs). By AI agents, Wed Nov 11 2026. No macro, syntax, notation, axiom, sorry.
-/
import Derived.Test.YtfjmegcedgondaaDoorRows
import GoSem.ClaimSeven
namespace Go.Proofs.YtfjmegcedgondaaDoor
namespace Rows

/-- THE TIED CARD OF 'escritoirelaw06.WireReads'. -/
def wireReadsCard : Claim7 := { stood := { row := wireReadsRow, standIns := [], harness := (true, "86322f9519ac5d49c9f1d105fa907c5ef4ead80557d93755993218618d42774e"), looks := true }, kinds := [], alts := [], laidByText := true, laidKinds := [.data], laidTests := true, laidLooks := .later }
def WireReadsCardSaid : Prop := Claim7.holds Tryd.pinned (.plain (OpenSpec.ofChange wireReadsSpec)) wireReadsCard

/-- THE TIED CARD OF 'escritoirelaw06.WireFrameBack'. -/
def wireFrameBackCard : Claim7 := { stood := { row := wireFrameBackRow, standIns := [], harness := (true, "86322f9519ac5d49c9f1d105fa907c5ef4ead80557d93755993218618d42774e"), looks := true }, kinds := [], alts := [], laidByText := true, laidKinds := [.data], laidTests := true, laidLooks := .later }
def WireFrameBackCardSaid : Prop := Claim7.holds Tryd.pinned (.plain (OpenSpec.ofChange wireFrameBackSpec)) wireFrameBackCard

/-- THE TIED CARD OF 'escritoirelaw06.WireCuts'. -/
def wireCutsCard : Claim7 := { stood := { row := wireCutsRow, standIns := [], harness := (true, "86322f9519ac5d49c9f1d105fa907c5ef4ead80557d93755993218618d42774e"), looks := true }, kinds := [], alts := [], laidByText := true, laidKinds := [.data], laidTests := true, laidLooks := .later }
def WireCutsCardSaid : Prop := Claim7.holds Tryd.pinned (.plain (OpenSpec.ofChange wireCutsSpec)) wireCutsCard

/-- THE SECOND FORM's CARD OF 'escritoirelaw06.WireReads'. -/
def wireReadsUptoCard : Claim7 := { stood := { row := wireReadsUptoRow, standIns := [], harness := (true, "86322f9519ac5d49c9f1d105fa907c5ef4ead80557d93755993218618d42774e"), looks := true }, kinds := [], alts := [], laidByText := true, laidKinds := [.data], laidTests := true, laidLooks := .later }
def WireReadsUptoCardSaid : Prop := Claim7.holds Tryd.pinned (.plain (OpenSpec.upto wireReadsSpec)) wireReadsUptoCard

/-- THE SECOND FORM's CARD OF 'escritoirelaw06.WireFrameBack'. -/
def wireFrameBackUptoCard : Claim7 := { stood := { row := wireFrameBackUptoRow, standIns := [], harness := (true, "86322f9519ac5d49c9f1d105fa907c5ef4ead80557d93755993218618d42774e"), looks := true }, kinds := [], alts := [], laidByText := true, laidKinds := [.data], laidTests := true, laidLooks := .later }
def WireFrameBackUptoCardSaid : Prop := Claim7.holds Tryd.pinned (.plain (OpenSpec.upto wireFrameBackSpec)) wireFrameBackUptoCard

/-- THE SECOND FORM's CARD OF 'escritoirelaw06.WireCuts'. -/
def wireCutsUptoCard : Claim7 := { stood := { row := wireCutsUptoRow, standIns := [], harness := (true, "86322f9519ac5d49c9f1d105fa907c5ef4ead80557d93755993218618d42774e"), looks := true }, kinds := [], alts := [], laidByText := true, laidKinds := [.data], laidTests := true, laidLooks := .later }
def WireCutsUptoCardSaid : Prop := Claim7.holds Tryd.pinned (.plain (OpenSpec.upto wireCutsSpec)) wireCutsUptoCard
end Rows
end Go.Proofs.YtfjmegcedgondaaDoor
