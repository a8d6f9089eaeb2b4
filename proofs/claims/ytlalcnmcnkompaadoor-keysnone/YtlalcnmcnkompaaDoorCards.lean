/-
  DERIVED. GIVEN WITH THE SEED: THE CARDS: each row of YtlalcnmcnkompaaDoorRows.lean that lists a variable, with what it lists TIED to the program's text (the seventh form; the later family's looks); each row that meets fmt, with fmt's text TOLD by the authors' own Lean function (tested against real Go, not proved from fmt's source: count such statements apart). THE CARD IS WHAT COUNTS. Prove the row's statement (the work); the ties are given (YtlalcnmcnkompaaDoorTie.lean); close each card by the builder's one call (the guide's Derived/Test/ToyasCard.lean, 'card_holds'). Laid BY PROGRAM, IN A SANDBOX (cutbox-door.mjs). By AI agents, Wed Nov 11 2026. No macro, syntax, notation, axiom, sorry.
-/
import Derived.Test.YtlalcnmcnkompaaDoorRows
import GoSem.ClaimSeven
namespace Go.Proofs.YtlalcnmcnkompaaDoor
namespace Rows

/-- THE TIED CARD OF 'escritoirelaw11.KeysPairs'. -/
def keysPairsCard : Claim7 := { stood := { row := keysPairsRow, standIns := [], harness := (true, "3c8b812438a7501068dc8fefc0c54c685639f6a012e65b1c7d1e659189d40eda"), looks := true }, kinds := [], alts := [], laidByText := true, laidKinds := [.data], laidTests := true, laidLooks := .later }
def KeysPairsCardSaid : Prop := Claim7.holds Tryd.pinned (.plain (OpenSpec.ofChange keysPairsSpec)) keysPairsCard

/-- THE TIED CARD OF 'escritoirelaw11.KeysWraps'. -/
def keysWrapsCard : Claim7 := { stood := { row := keysWrapsRow, standIns := [], harness := (true, "3c8b812438a7501068dc8fefc0c54c685639f6a012e65b1c7d1e659189d40eda"), looks := true }, kinds := [], alts := [], laidByText := true, laidKinds := [.data], laidTests := true, laidLooks := .later }
def KeysWrapsCardSaid : Prop := Claim7.holds Tryd.pinned (.plain (OpenSpec.ofChange keysWrapsSpec)) keysWrapsCard

/-- THE TIED CARD OF 'escritoirelaw11.KeysNonces'. -/
def keysNoncesCard : Claim7 := { stood := { row := keysNoncesRow, standIns := [], harness := (true, "3c8b812438a7501068dc8fefc0c54c685639f6a012e65b1c7d1e659189d40eda"), looks := true }, kinds := [], alts := [], laidByText := true, laidKinds := [.data], laidTests := true, laidLooks := .later }
def KeysNoncesCardSaid : Prop := Claim7.holds Tryd.pinned (.plain (OpenSpec.ofChange keysNoncesSpec)) keysNoncesCard

/-- THE TIED CARD OF 'escritoirelaw11.KeysFirst'. -/
def keysFirstCard : Claim7 := { stood := { row := keysFirstRow, standIns := [], harness := (true, "3c8b812438a7501068dc8fefc0c54c685639f6a012e65b1c7d1e659189d40eda"), looks := true }, kinds := [], alts := [], laidByText := true, laidKinds := [.data], laidTests := true, laidLooks := .later }
def KeysFirstCardSaid : Prop := Claim7.holds Tryd.pinned (.plain (OpenSpec.ofChange keysFirstSpec)) keysFirstCard

/-- THE TIED CARD OF 'escritoirelaw11.KeysLimits'. -/
def keysLimitsCard : Claim7 := { stood := { row := keysLimitsRow, standIns := [], harness := (true, "3c8b812438a7501068dc8fefc0c54c685639f6a012e65b1c7d1e659189d40eda"), looks := true }, kinds := [], alts := [], laidByText := true, laidKinds := [.data], laidTests := true, laidLooks := .later }
def KeysLimitsCardSaid : Prop := Claim7.holds Tryd.pinned (.plain (OpenSpec.ofChange keysLimitsSpec)) keysLimitsCard

/-- THE TIED CARD OF 'escritoirelaw11.KeysNone'. -/
def keysNoneCard : Claim7 := { stood := { row := keysNoneRow, standIns := [], harness := (true, "3c8b812438a7501068dc8fefc0c54c685639f6a012e65b1c7d1e659189d40eda"), looks := true }, kinds := [], alts := [], laidByText := true, laidKinds := [.data], laidTests := true, laidLooks := .later }
def KeysNoneCardSaid : Prop := Claim7.holds Tryd.pinned (.plain (OpenSpec.ofChange keysNoneSpec)) keysNoneCard

/-- THE SECOND FORM's CARD OF 'escritoirelaw11.KeysPairs'. -/
def keysPairsUptoCard : Claim7 := { stood := { row := keysPairsUptoRow, standIns := [], harness := (true, "3c8b812438a7501068dc8fefc0c54c685639f6a012e65b1c7d1e659189d40eda"), looks := true }, kinds := [], alts := [], laidByText := true, laidKinds := [.data], laidTests := true, laidLooks := .later }
def KeysPairsUptoCardSaid : Prop := Claim7.holds Tryd.pinned (.plain (OpenSpec.upto keysPairsSpec)) keysPairsUptoCard

/-- THE SECOND FORM's CARD OF 'escritoirelaw11.KeysWraps'. -/
def keysWrapsUptoCard : Claim7 := { stood := { row := keysWrapsUptoRow, standIns := [], harness := (true, "3c8b812438a7501068dc8fefc0c54c685639f6a012e65b1c7d1e659189d40eda"), looks := true }, kinds := [], alts := [], laidByText := true, laidKinds := [.data], laidTests := true, laidLooks := .later }
def KeysWrapsUptoCardSaid : Prop := Claim7.holds Tryd.pinned (.plain (OpenSpec.upto keysWrapsSpec)) keysWrapsUptoCard

/-- THE SECOND FORM's CARD OF 'escritoirelaw11.KeysNonces'. -/
def keysNoncesUptoCard : Claim7 := { stood := { row := keysNoncesUptoRow, standIns := [], harness := (true, "3c8b812438a7501068dc8fefc0c54c685639f6a012e65b1c7d1e659189d40eda"), looks := true }, kinds := [], alts := [], laidByText := true, laidKinds := [.data], laidTests := true, laidLooks := .later }
def KeysNoncesUptoCardSaid : Prop := Claim7.holds Tryd.pinned (.plain (OpenSpec.upto keysNoncesSpec)) keysNoncesUptoCard

/-- THE SECOND FORM's CARD OF 'escritoirelaw11.KeysFirst'. -/
def keysFirstUptoCard : Claim7 := { stood := { row := keysFirstUptoRow, standIns := [], harness := (true, "3c8b812438a7501068dc8fefc0c54c685639f6a012e65b1c7d1e659189d40eda"), looks := true }, kinds := [], alts := [], laidByText := true, laidKinds := [.data], laidTests := true, laidLooks := .later }
def KeysFirstUptoCardSaid : Prop := Claim7.holds Tryd.pinned (.plain (OpenSpec.upto keysFirstSpec)) keysFirstUptoCard

/-- THE SECOND FORM's CARD OF 'escritoirelaw11.KeysLimits'. -/
def keysLimitsUptoCard : Claim7 := { stood := { row := keysLimitsUptoRow, standIns := [], harness := (true, "3c8b812438a7501068dc8fefc0c54c685639f6a012e65b1c7d1e659189d40eda"), looks := true }, kinds := [], alts := [], laidByText := true, laidKinds := [.data], laidTests := true, laidLooks := .later }
def KeysLimitsUptoCardSaid : Prop := Claim7.holds Tryd.pinned (.plain (OpenSpec.upto keysLimitsSpec)) keysLimitsUptoCard

/-- THE SECOND FORM's CARD OF 'escritoirelaw11.KeysNone'. -/
def keysNoneUptoCard : Claim7 := { stood := { row := keysNoneUptoRow, standIns := [], harness := (true, "3c8b812438a7501068dc8fefc0c54c685639f6a012e65b1c7d1e659189d40eda"), looks := true }, kinds := [], alts := [], laidByText := true, laidKinds := [.data], laidTests := true, laidLooks := .later }
def KeysNoneUptoCardSaid : Prop := Claim7.holds Tryd.pinned (.plain (OpenSpec.upto keysNoneSpec)) keysNoneUptoCard
end Rows
end Go.Proofs.YtlalcnmcnkompaaDoor
