/-
  DERIVED. GIVEN WITH THE SEED: THE CARDS: each row of YtfniachmebppcaaDoorRows.lean that lists a variable, with what it lists TIED to the program's text (the seventh form; the later family's looks); each row that meets fmt, with fmt's text TOLD by the authors' own Lean function (tested against real Go, not proved from fmt's source: count such statements apart). THE CARD IS WHAT COUNTS. Prove the row's statement (the work); the ties are given (YtfniachmebppcaaDoorTie.lean); close each card by the builder's one call (the guide's Derived/Test/ToyasCard.lean, 'card_holds'). Laid BY PROGRAM, IN A SANDBOX (cutbox-door.mjs). By AI agents, Wed Nov 11 2026. No macro, syntax, notation, axiom, sorry.
-/
import Derived.Test.YtfniachmebppcaaDoorRows
import GoSem.ClaimSeven
namespace Go.Proofs.YtfniachmebppcaaDoor
namespace Rows

/-- THE TIED CARD OF 'escritoirelaw06.WireHeads'. -/
def wireHeadsCard : Claim7 := { stood := { row := wireHeadsRow, standIns := [], harness := (true, "e3059f2ed7ee2a83fc7f863185cf195df0aa1895e0e06477e2fb0965ece30767"), looks := true }, kinds := [], alts := [], laidByText := true, laidKinds := [.data], laidTests := true, laidLooks := .later }
def WireHeadsCardSaid : Prop := Claim7.holds Tryd.pinned (.plain (OpenSpec.ofChange wireHeadsSpec)) wireHeadsCard

/-- THE TIED CARD OF 'escritoirelaw06.WirePads'. -/
def wirePadsCard : Claim7 := { stood := { row := wirePadsRow, standIns := [], harness := (true, "e3059f2ed7ee2a83fc7f863185cf195df0aa1895e0e06477e2fb0965ece30767"), looks := true }, kinds := [], alts := [], laidByText := true, laidKinds := [.data], laidTests := true, laidLooks := .later }
def WirePadsCardSaid : Prop := Claim7.holds Tryd.pinned (.plain (OpenSpec.ofChange wirePadsSpec)) wirePadsCard

/-- THE TIED CARD OF 'escritoirelaw06.WireUnpads'. -/
def wireUnpadsCard : Claim7 := { stood := { row := wireUnpadsRow, standIns := [], harness := (true, "e3059f2ed7ee2a83fc7f863185cf195df0aa1895e0e06477e2fb0965ece30767"), looks := true }, kinds := [], alts := [], laidByText := true, laidKinds := [.data], laidTests := true, laidLooks := .later }
def WireUnpadsCardSaid : Prop := Claim7.holds Tryd.pinned (.plain (OpenSpec.ofChange wireUnpadsSpec)) wireUnpadsCard

/-- THE TIED CARD OF 'escritoirelaw06.WireBack'. -/
def wireBackCard : Claim7 := { stood := { row := wireBackRow, standIns := [], harness := (true, "e3059f2ed7ee2a83fc7f863185cf195df0aa1895e0e06477e2fb0965ece30767"), looks := true }, kinds := [], alts := [], laidByText := true, laidKinds := [.data], laidTests := true, laidLooks := .later }
def WireBackCardSaid : Prop := Claim7.holds Tryd.pinned (.plain (OpenSpec.ofChange wireBackSpec)) wireBackCard

/-- THE TIED CARD OF 'escritoirelaw06.WireEvents'. -/
def wireEventsCard : Claim7 := { stood := { row := wireEventsRow, standIns := [], harness := (true, "e3059f2ed7ee2a83fc7f863185cf195df0aa1895e0e06477e2fb0965ece30767"), looks := true }, kinds := [], alts := [], laidByText := true, laidKinds := [.data], laidTests := true, laidLooks := .later }
def WireEventsCardSaid : Prop := Claim7.holds Tryd.pinned (.plain (OpenSpec.ofChange wireEventsSpec)) wireEventsCard

/-- THE TIED CARD OF 'escritoirelaw06.WireReads'. -/
def wireReadsCard : Claim7 := { stood := { row := wireReadsRow, standIns := [], harness := (true, "e3059f2ed7ee2a83fc7f863185cf195df0aa1895e0e06477e2fb0965ece30767"), looks := true }, kinds := [], alts := [], laidByText := true, laidKinds := [.data], laidTests := true, laidLooks := .later }
def WireReadsCardSaid : Prop := Claim7.holds Tryd.pinned (.plain (OpenSpec.ofChange wireReadsSpec)) wireReadsCard

/-- THE SECOND FORM's CARD OF 'escritoirelaw06.WireHeads'. -/
def wireHeadsUptoCard : Claim7 := { stood := { row := wireHeadsUptoRow, standIns := [], harness := (true, "e3059f2ed7ee2a83fc7f863185cf195df0aa1895e0e06477e2fb0965ece30767"), looks := true }, kinds := [], alts := [], laidByText := true, laidKinds := [.data], laidTests := true, laidLooks := .later }
def WireHeadsUptoCardSaid : Prop := Claim7.holds Tryd.pinned (.plain (OpenSpec.upto wireHeadsSpec)) wireHeadsUptoCard

/-- THE SECOND FORM's CARD OF 'escritoirelaw06.WirePads'. -/
def wirePadsUptoCard : Claim7 := { stood := { row := wirePadsUptoRow, standIns := [], harness := (true, "e3059f2ed7ee2a83fc7f863185cf195df0aa1895e0e06477e2fb0965ece30767"), looks := true }, kinds := [], alts := [], laidByText := true, laidKinds := [.data], laidTests := true, laidLooks := .later }
def WirePadsUptoCardSaid : Prop := Claim7.holds Tryd.pinned (.plain (OpenSpec.upto wirePadsSpec)) wirePadsUptoCard

/-- THE SECOND FORM's CARD OF 'escritoirelaw06.WireUnpads'. -/
def wireUnpadsUptoCard : Claim7 := { stood := { row := wireUnpadsUptoRow, standIns := [], harness := (true, "e3059f2ed7ee2a83fc7f863185cf195df0aa1895e0e06477e2fb0965ece30767"), looks := true }, kinds := [], alts := [], laidByText := true, laidKinds := [.data], laidTests := true, laidLooks := .later }
def WireUnpadsUptoCardSaid : Prop := Claim7.holds Tryd.pinned (.plain (OpenSpec.upto wireUnpadsSpec)) wireUnpadsUptoCard

/-- THE SECOND FORM's CARD OF 'escritoirelaw06.WireBack'. -/
def wireBackUptoCard : Claim7 := { stood := { row := wireBackUptoRow, standIns := [], harness := (true, "e3059f2ed7ee2a83fc7f863185cf195df0aa1895e0e06477e2fb0965ece30767"), looks := true }, kinds := [], alts := [], laidByText := true, laidKinds := [.data], laidTests := true, laidLooks := .later }
def WireBackUptoCardSaid : Prop := Claim7.holds Tryd.pinned (.plain (OpenSpec.upto wireBackSpec)) wireBackUptoCard

/-- THE SECOND FORM's CARD OF 'escritoirelaw06.WireEvents'. -/
def wireEventsUptoCard : Claim7 := { stood := { row := wireEventsUptoRow, standIns := [], harness := (true, "e3059f2ed7ee2a83fc7f863185cf195df0aa1895e0e06477e2fb0965ece30767"), looks := true }, kinds := [], alts := [], laidByText := true, laidKinds := [.data], laidTests := true, laidLooks := .later }
def WireEventsUptoCardSaid : Prop := Claim7.holds Tryd.pinned (.plain (OpenSpec.upto wireEventsSpec)) wireEventsUptoCard

/-- THE SECOND FORM's CARD OF 'escritoirelaw06.WireReads'. -/
def wireReadsUptoCard : Claim7 := { stood := { row := wireReadsUptoRow, standIns := [], harness := (true, "e3059f2ed7ee2a83fc7f863185cf195df0aa1895e0e06477e2fb0965ece30767"), looks := true }, kinds := [], alts := [], laidByText := true, laidKinds := [.data], laidTests := true, laidLooks := .later }
def WireReadsUptoCardSaid : Prop := Claim7.holds Tryd.pinned (.plain (OpenSpec.upto wireReadsSpec)) wireReadsUptoCard
end Rows
end Go.Proofs.YtfniachmebppcaaDoor
