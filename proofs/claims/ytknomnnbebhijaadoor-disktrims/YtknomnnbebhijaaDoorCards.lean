/-
  DERIVED. GIVEN WITH THE SEED: THE CARDS: each row of YtknomnnbebhijaaDoorRows.lean that lists a variable, with what it lists TIED to the program's text (the seventh form; the later family's looks); each row that meets fmt, with fmt's text TOLD by the authors' own Lean function (tested against real Go, not proved from fmt's source: count such statements apart). THE CARD IS WHAT COUNTS. Prove the row's statement (the work); the ties are given (YtknomnnbebhijaaDoorTie.lean); close each card by the builder's one call (the guide's Derived/Test/ToyasCard.lean, 'card_holds'). Laid BY PROGRAM, IN A SANDBOX (cutbox-door.mjs). By AI agents, Wed Nov 11 2026. No macro, syntax, notation, axiom, sorry.
-/
import Derived.Test.YtknomnnbebhijaaDoorRows
import GoSem.ClaimSeven
namespace Go.Proofs.YtknomnnbebhijaaDoor
namespace Rows

/-- THE TIED CARD OF 'escritoirelaw14.DiskPlays'. -/
def diskPlaysCard : Claim7 := { stood := { row := diskPlaysRow, standIns := [], harness := (true, "b7522e966b629fa2ea8f16eb619a73c91307c31e9c4f31dc13eb35199c6aea68"), looks := false }, kinds := [], alts := [], laidByText := true, laidKinds := [.data], laidTests := true, laidLooks := .later }
def DiskPlaysCardSaid : Prop := Claim7.holds Tryd.pinned (.plain (OpenSpec.ofChange diskPlaysSpec)) diskPlaysCard

/-- THE TIED CARD OF 'escritoirelaw14.DiskSynced'. -/
def diskSyncedCard : Claim7 := { stood := { row := diskSyncedRow, standIns := [], harness := (true, "b7522e966b629fa2ea8f16eb619a73c91307c31e9c4f31dc13eb35199c6aea68"), looks := false }, kinds := [], alts := [], laidByText := true, laidKinds := [.data], laidTests := true, laidLooks := .later }
def DiskSyncedCardSaid : Prop := Claim7.holds Tryd.pinned (.plain (OpenSpec.ofChange diskSyncedSpec)) diskSyncedCard

/-- THE TIED CARD OF 'escritoirelaw14.DiskTorn'. -/
def diskTornCard : Claim7 := { stood := { row := diskTornRow, standIns := [], harness := (true, "b7522e966b629fa2ea8f16eb619a73c91307c31e9c4f31dc13eb35199c6aea68"), looks := false }, kinds := [], alts := [], laidByText := true, laidKinds := [.data], laidTests := true, laidLooks := .later }
def DiskTornCardSaid : Prop := Claim7.holds Tryd.pinned (.plain (OpenSpec.ofChange diskTornSpec)) diskTornCard

/-- THE TIED CARD OF 'escritoirelaw14.DiskBack'. -/
def diskBackCard : Claim7 := { stood := { row := diskBackRow, standIns := [], harness := (true, "b7522e966b629fa2ea8f16eb619a73c91307c31e9c4f31dc13eb35199c6aea68"), looks := false }, kinds := [], alts := [], laidByText := true, laidKinds := [.data], laidTests := true, laidLooks := .later }
def DiskBackCardSaid : Prop := Claim7.holds Tryd.pinned (.plain (OpenSpec.ofChange diskBackSpec)) diskBackCard

/-- THE TIED CARD OF 'escritoirelaw14.DiskTrims'. -/
def diskTrimsCard : Claim7 := { stood := { row := diskTrimsRow, standIns := [], harness := (true, "b7522e966b629fa2ea8f16eb619a73c91307c31e9c4f31dc13eb35199c6aea68"), looks := false }, kinds := [], alts := [], laidByText := true, laidKinds := [.data], laidTests := true, laidLooks := .later }
def DiskTrimsCardSaid : Prop := Claim7.holds Tryd.pinned (.plain (OpenSpec.ofChange diskTrimsSpec)) diskTrimsCard

/-- THE TIED CARD OF 'escritoirelaw14.DiskLimits'. -/
def diskLimitsCard : Claim7 := { stood := { row := diskLimitsRow, standIns := [], harness := (true, "b7522e966b629fa2ea8f16eb619a73c91307c31e9c4f31dc13eb35199c6aea68"), looks := false }, kinds := [], alts := [], laidByText := true, laidKinds := [.data], laidTests := true, laidLooks := .later }
def DiskLimitsCardSaid : Prop := Claim7.holds Tryd.pinned (.plain (OpenSpec.ofChange diskLimitsSpec)) diskLimitsCard

/-- THE SECOND FORM's CARD OF 'escritoirelaw14.DiskPlays'. -/
def diskPlaysUptoCard : Claim7 := { stood := { row := diskPlaysUptoRow, standIns := [], harness := (true, "b7522e966b629fa2ea8f16eb619a73c91307c31e9c4f31dc13eb35199c6aea68"), looks := false }, kinds := [], alts := [], laidByText := true, laidKinds := [.data], laidTests := true, laidLooks := .later }
def DiskPlaysUptoCardSaid : Prop := Claim7.holds Tryd.pinned (.plain (OpenSpec.upto diskPlaysSpec)) diskPlaysUptoCard

/-- THE SECOND FORM's CARD OF 'escritoirelaw14.DiskSynced'. -/
def diskSyncedUptoCard : Claim7 := { stood := { row := diskSyncedUptoRow, standIns := [], harness := (true, "b7522e966b629fa2ea8f16eb619a73c91307c31e9c4f31dc13eb35199c6aea68"), looks := false }, kinds := [], alts := [], laidByText := true, laidKinds := [.data], laidTests := true, laidLooks := .later }
def DiskSyncedUptoCardSaid : Prop := Claim7.holds Tryd.pinned (.plain (OpenSpec.upto diskSyncedSpec)) diskSyncedUptoCard

/-- THE SECOND FORM's CARD OF 'escritoirelaw14.DiskTorn'. -/
def diskTornUptoCard : Claim7 := { stood := { row := diskTornUptoRow, standIns := [], harness := (true, "b7522e966b629fa2ea8f16eb619a73c91307c31e9c4f31dc13eb35199c6aea68"), looks := false }, kinds := [], alts := [], laidByText := true, laidKinds := [.data], laidTests := true, laidLooks := .later }
def DiskTornUptoCardSaid : Prop := Claim7.holds Tryd.pinned (.plain (OpenSpec.upto diskTornSpec)) diskTornUptoCard

/-- THE SECOND FORM's CARD OF 'escritoirelaw14.DiskBack'. -/
def diskBackUptoCard : Claim7 := { stood := { row := diskBackUptoRow, standIns := [], harness := (true, "b7522e966b629fa2ea8f16eb619a73c91307c31e9c4f31dc13eb35199c6aea68"), looks := false }, kinds := [], alts := [], laidByText := true, laidKinds := [.data], laidTests := true, laidLooks := .later }
def DiskBackUptoCardSaid : Prop := Claim7.holds Tryd.pinned (.plain (OpenSpec.upto diskBackSpec)) diskBackUptoCard

/-- THE SECOND FORM's CARD OF 'escritoirelaw14.DiskTrims'. -/
def diskTrimsUptoCard : Claim7 := { stood := { row := diskTrimsUptoRow, standIns := [], harness := (true, "b7522e966b629fa2ea8f16eb619a73c91307c31e9c4f31dc13eb35199c6aea68"), looks := false }, kinds := [], alts := [], laidByText := true, laidKinds := [.data], laidTests := true, laidLooks := .later }
def DiskTrimsUptoCardSaid : Prop := Claim7.holds Tryd.pinned (.plain (OpenSpec.upto diskTrimsSpec)) diskTrimsUptoCard

/-- THE SECOND FORM's CARD OF 'escritoirelaw14.DiskLimits'. -/
def diskLimitsUptoCard : Claim7 := { stood := { row := diskLimitsUptoRow, standIns := [], harness := (true, "b7522e966b629fa2ea8f16eb619a73c91307c31e9c4f31dc13eb35199c6aea68"), looks := false }, kinds := [], alts := [], laidByText := true, laidKinds := [.data], laidTests := true, laidLooks := .later }
def DiskLimitsUptoCardSaid : Prop := Claim7.holds Tryd.pinned (.plain (OpenSpec.upto diskLimitsSpec)) diskLimitsUptoCard
end Rows
end Go.Proofs.YtknomnnbebhijaaDoor
