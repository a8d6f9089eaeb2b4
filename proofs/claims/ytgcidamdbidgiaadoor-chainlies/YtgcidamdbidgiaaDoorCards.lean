/-
  DERIVED. GIVEN WITH THE SEED: THE CARDS: each row of YtgcidamdbidgiaaDoorRows.lean that lists a variable, with what it lists TIED to the program's text (the seventh form; the later family's looks); each row that meets fmt, with fmt's text TOLD by the authors' own Lean function (tested against real Go, not proved from fmt's source: count such statements apart). THE CARD IS WHAT COUNTS. Prove the row's statement (the work); the ties are given (YtgcidamdbidgiaaDoorTie.lean); close each card by the builder's one call (the guide's Derived/Test/ToyasCard.lean, 'card_holds'). Laid BY PROGRAM, IN A SANDBOX (cutbox-door.mjs). By AI agents, Wed Nov 11 2026. No macro, syntax, notation, axiom, sorry.
-/
import Derived.Test.YtgcidamdbidgiaaDoorRows
import GoSem.ClaimSeven
namespace Go.Proofs.YtgcidamdbidgiaaDoor
namespace Rows

/-- THE TIED CARD OF 'escritoirelaw13.ChainPlays'. -/
def chainPlaysCard : Claim7 := { stood := { row := chainPlaysRow, standIns := [], harness := (true, "79ed25f44967e16f1c52a6b36afab42af0eeac6e526ee78f682043781c28b89f"), looks := true }, kinds := [], alts := [], laidByText := true, laidKinds := [.data], laidTests := true, laidLooks := .later }
def ChainPlaysCardSaid : Prop := Claim7.holds Tryd.pinned (.plain (OpenSpec.ofChange chainPlaysSpec)) chainPlaysCard

/-- THE TIED CARD OF 'escritoirelaw13.ChainKnown'. -/
def chainKnownCard : Claim7 := { stood := { row := chainKnownRow, standIns := [], harness := (true, "79ed25f44967e16f1c52a6b36afab42af0eeac6e526ee78f682043781c28b89f"), looks := true }, kinds := [], alts := [], laidByText := true, laidKinds := [.data], laidTests := true, laidLooks := .later }
def ChainKnownCardSaid : Prop := Claim7.holds Tryd.pinned (.plain (OpenSpec.ofChange chainKnownSpec)) chainKnownCard

/-- THE TIED CARD OF 'escritoirelaw13.ChainTrue'. -/
def chainTrueCard : Claim7 := { stood := { row := chainTrueRow, standIns := [], harness := (true, "79ed25f44967e16f1c52a6b36afab42af0eeac6e526ee78f682043781c28b89f"), looks := true }, kinds := [], alts := [], laidByText := true, laidKinds := [.data], laidTests := true, laidLooks := .later }
def ChainTrueCardSaid : Prop := Claim7.holds Tryd.pinned (.plain (OpenSpec.ofChange chainTrueSpec)) chainTrueCard

/-- THE TIED CARD OF 'escritoirelaw13.ChainLies'. -/
def chainLiesCard : Claim7 := { stood := { row := chainLiesRow, standIns := [], harness := (true, "79ed25f44967e16f1c52a6b36afab42af0eeac6e526ee78f682043781c28b89f"), looks := true }, kinds := [], alts := [], laidByText := true, laidKinds := [.data], laidTests := true, laidLooks := .later }
def ChainLiesCardSaid : Prop := Claim7.holds Tryd.pinned (.plain (OpenSpec.ofChange chainLiesSpec)) chainLiesCard

/-- THE TIED CARD OF 'escritoirelaw13.ChainProofs'. -/
def chainProofsCard : Claim7 := { stood := { row := chainProofsRow, standIns := [], harness := (true, "79ed25f44967e16f1c52a6b36afab42af0eeac6e526ee78f682043781c28b89f"), looks := true }, kinds := [], alts := [], laidByText := true, laidKinds := [.data], laidTests := true, laidLooks := .later }
def ChainProofsCardSaid : Prop := Claim7.holds Tryd.pinned (.plain (OpenSpec.ofChange chainProofsSpec)) chainProofsCard

/-- THE TIED CARD OF 'escritoirelaw13.ChainForks'. -/
def chainForksCard : Claim7 := { stood := { row := chainForksRow, standIns := [], harness := (true, "79ed25f44967e16f1c52a6b36afab42af0eeac6e526ee78f682043781c28b89f"), looks := true }, kinds := [], alts := [], laidByText := true, laidKinds := [.data], laidTests := true, laidLooks := .later }
def ChainForksCardSaid : Prop := Claim7.holds Tryd.pinned (.plain (OpenSpec.ofChange chainForksSpec)) chainForksCard

/-- THE TIED CARD OF 'escritoirelaw13.ChainNone'. -/
def chainNoneCard : Claim7 := { stood := { row := chainNoneRow, standIns := [], harness := (true, "79ed25f44967e16f1c52a6b36afab42af0eeac6e526ee78f682043781c28b89f"), looks := true }, kinds := [], alts := [], laidByText := true, laidKinds := [.data], laidTests := true, laidLooks := .later }
def ChainNoneCardSaid : Prop := Claim7.holds Tryd.pinned (.plain (OpenSpec.ofChange chainNoneSpec)) chainNoneCard

/-- THE TIED CARD OF 'escritoirelaw13.ChainCounts'. -/
def chainCountsCard : Claim7 := { stood := { row := chainCountsRow, standIns := [], harness := (true, "79ed25f44967e16f1c52a6b36afab42af0eeac6e526ee78f682043781c28b89f"), looks := true }, kinds := [], alts := [], laidByText := true, laidKinds := [.data], laidTests := true, laidLooks := .later }
def ChainCountsCardSaid : Prop := Claim7.holds Tryd.pinned (.plain (OpenSpec.ofChange chainCountsSpec)) chainCountsCard

/-- THE SECOND FORM's CARD OF 'escritoirelaw13.ChainPlays'. -/
def chainPlaysUptoCard : Claim7 := { stood := { row := chainPlaysUptoRow, standIns := [], harness := (true, "79ed25f44967e16f1c52a6b36afab42af0eeac6e526ee78f682043781c28b89f"), looks := true }, kinds := [], alts := [], laidByText := true, laidKinds := [.data], laidTests := true, laidLooks := .later }
def ChainPlaysUptoCardSaid : Prop := Claim7.holds Tryd.pinned (.plain (OpenSpec.upto chainPlaysSpec)) chainPlaysUptoCard

/-- THE SECOND FORM's CARD OF 'escritoirelaw13.ChainKnown'. -/
def chainKnownUptoCard : Claim7 := { stood := { row := chainKnownUptoRow, standIns := [], harness := (true, "79ed25f44967e16f1c52a6b36afab42af0eeac6e526ee78f682043781c28b89f"), looks := true }, kinds := [], alts := [], laidByText := true, laidKinds := [.data], laidTests := true, laidLooks := .later }
def ChainKnownUptoCardSaid : Prop := Claim7.holds Tryd.pinned (.plain (OpenSpec.upto chainKnownSpec)) chainKnownUptoCard

/-- THE SECOND FORM's CARD OF 'escritoirelaw13.ChainTrue'. -/
def chainTrueUptoCard : Claim7 := { stood := { row := chainTrueUptoRow, standIns := [], harness := (true, "79ed25f44967e16f1c52a6b36afab42af0eeac6e526ee78f682043781c28b89f"), looks := true }, kinds := [], alts := [], laidByText := true, laidKinds := [.data], laidTests := true, laidLooks := .later }
def ChainTrueUptoCardSaid : Prop := Claim7.holds Tryd.pinned (.plain (OpenSpec.upto chainTrueSpec)) chainTrueUptoCard

/-- THE SECOND FORM's CARD OF 'escritoirelaw13.ChainLies'. -/
def chainLiesUptoCard : Claim7 := { stood := { row := chainLiesUptoRow, standIns := [], harness := (true, "79ed25f44967e16f1c52a6b36afab42af0eeac6e526ee78f682043781c28b89f"), looks := true }, kinds := [], alts := [], laidByText := true, laidKinds := [.data], laidTests := true, laidLooks := .later }
def ChainLiesUptoCardSaid : Prop := Claim7.holds Tryd.pinned (.plain (OpenSpec.upto chainLiesSpec)) chainLiesUptoCard

/-- THE SECOND FORM's CARD OF 'escritoirelaw13.ChainProofs'. -/
def chainProofsUptoCard : Claim7 := { stood := { row := chainProofsUptoRow, standIns := [], harness := (true, "79ed25f44967e16f1c52a6b36afab42af0eeac6e526ee78f682043781c28b89f"), looks := true }, kinds := [], alts := [], laidByText := true, laidKinds := [.data], laidTests := true, laidLooks := .later }
def ChainProofsUptoCardSaid : Prop := Claim7.holds Tryd.pinned (.plain (OpenSpec.upto chainProofsSpec)) chainProofsUptoCard

/-- THE SECOND FORM's CARD OF 'escritoirelaw13.ChainForks'. -/
def chainForksUptoCard : Claim7 := { stood := { row := chainForksUptoRow, standIns := [], harness := (true, "79ed25f44967e16f1c52a6b36afab42af0eeac6e526ee78f682043781c28b89f"), looks := true }, kinds := [], alts := [], laidByText := true, laidKinds := [.data], laidTests := true, laidLooks := .later }
def ChainForksUptoCardSaid : Prop := Claim7.holds Tryd.pinned (.plain (OpenSpec.upto chainForksSpec)) chainForksUptoCard

/-- THE SECOND FORM's CARD OF 'escritoirelaw13.ChainNone'. -/
def chainNoneUptoCard : Claim7 := { stood := { row := chainNoneUptoRow, standIns := [], harness := (true, "79ed25f44967e16f1c52a6b36afab42af0eeac6e526ee78f682043781c28b89f"), looks := true }, kinds := [], alts := [], laidByText := true, laidKinds := [.data], laidTests := true, laidLooks := .later }
def ChainNoneUptoCardSaid : Prop := Claim7.holds Tryd.pinned (.plain (OpenSpec.upto chainNoneSpec)) chainNoneUptoCard

/-- THE SECOND FORM's CARD OF 'escritoirelaw13.ChainCounts'. -/
def chainCountsUptoCard : Claim7 := { stood := { row := chainCountsUptoRow, standIns := [], harness := (true, "79ed25f44967e16f1c52a6b36afab42af0eeac6e526ee78f682043781c28b89f"), looks := true }, kinds := [], alts := [], laidByText := true, laidKinds := [.data], laidTests := true, laidLooks := .later }
def ChainCountsUptoCardSaid : Prop := Claim7.holds Tryd.pinned (.plain (OpenSpec.upto chainCountsSpec)) chainCountsUptoCard
end Rows
end Go.Proofs.YtgcidamdbidgiaaDoor
