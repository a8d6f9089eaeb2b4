/-
  DERIVED. GIVEN WITH THE SEED: THE CARDS: each row of YtfainlfiphdaeaaGreatDoorRows.lean that lists a variable, with what it lists TIED to the program's text (the seventh form; the later family's looks); each row that meets fmt, with fmt's text TOLD by the authors' own Lean function (tested against real Go, not proved from fmt's source: count such statements apart). THE CARD IS WHAT COUNTS. Prove the row's statement (the work); the ties are given (YtfainlfiphdaeaaGreatDoorTie.lean); close each card by the builder's one call (the guide's Derived/Test/ToyasCard.lean, 'card_holds'). Laid BY PROGRAM, IN A SANDBOX (cutbox-door.mjs). By AI agents, Wed Nov 11 2026. No macro, syntax, notation, axiom, sorry.
-/
import Derived.Test.YtfainlfiphdaeaaGreatDoorRows
import GoSem.ClaimSeven
namespace Go.Proofs.YtfainlfiphdaeaaGreatDoor
namespace Rows

/-- THE TIED CARD OF 'escritoirelaw12.FrameSeals'. -/
def frameSealsCard : Claim7 := { stood := { row := frameSealsRow, standIns := [], harness := (true, "f7e8006fa5239ec79b5cead30fa93eb7a1bb2d2003d253115dd6d39090a61cc6"), looks := true }, kinds := [], alts := [], laidByText := true, laidKinds := [.data, .data], laidTests := true, laidLooks := .later }
def FrameSealsCardSaid : Prop := Claim7.holds Tryz.pinned (.plain (OpenSpec.ofChange frameSealsSpec)) frameSealsCard

/-- THE TIED CARD OF 'escritoirelaw12.FrameOpens'. -/
def frameOpensCard : Claim7 := { stood := { row := frameOpensRow, standIns := [], harness := (true, "f7e8006fa5239ec79b5cead30fa93eb7a1bb2d2003d253115dd6d39090a61cc6"), looks := true }, kinds := [], alts := [], laidByText := true, laidKinds := [.data, .data], laidTests := true, laidLooks := .later }
def FrameOpensCardSaid : Prop := Claim7.holds Tryz.pinned (.plain (OpenSpec.ofChange frameOpensSpec)) frameOpensCard

/-- THE TIED CARD OF 'escritoirelaw12.FrameBack'. -/
def frameBackCard : Claim7 := { stood := { row := frameBackRow, standIns := [], harness := (true, "f7e8006fa5239ec79b5cead30fa93eb7a1bb2d2003d253115dd6d39090a61cc6"), looks := true }, kinds := [], alts := [], laidByText := true, laidKinds := [.data, .data], laidTests := true, laidLooks := .later }
def FrameBackCardSaid : Prop := Claim7.holds Tryz.pinned (.plain (OpenSpec.ofChange frameBackSpec)) frameBackCard

/-- THE TIED CARD OF 'escritoirelaw12.FrameSizes'. -/
def frameSizesCard : Claim7 := { stood := { row := frameSizesRow, standIns := [], harness := (true, "f7e8006fa5239ec79b5cead30fa93eb7a1bb2d2003d253115dd6d39090a61cc6"), looks := true }, kinds := [], alts := [], laidByText := true, laidKinds := [.data, .data], laidTests := true, laidLooks := .later }
def FrameSizesCardSaid : Prop := Claim7.holds Tryz.pinned (.plain (OpenSpec.ofChange frameSizesSpec)) frameSizesCard

/-- THE TIED CARD OF 'escritoirelaw12.FrameTags'. -/
def frameTagsCard : Claim7 := { stood := { row := frameTagsRow, standIns := [], harness := (true, "f7e8006fa5239ec79b5cead30fa93eb7a1bb2d2003d253115dd6d39090a61cc6"), looks := true }, kinds := [], alts := [], laidByText := true, laidKinds := [.data, .data], laidTests := true, laidLooks := .later }
def FrameTagsCardSaid : Prop := Claim7.holds Tryz.pinned (.plain (OpenSpec.ofChange frameTagsSpec)) frameTagsCard

/-- THE TIED CARD OF 'escritoirelaw12.FrameTold'. -/
def frameToldCard : Claim7 := { stood := { row := frameToldRow, standIns := [], harness := (true, "f7e8006fa5239ec79b5cead30fa93eb7a1bb2d2003d253115dd6d39090a61cc6"), looks := true }, kinds := [], alts := [], laidByText := true, laidKinds := [.data, .data], laidTests := true, laidLooks := .later }
def FrameToldCardSaid : Prop := Claim7.holds Tryz.pinned (.plain (OpenSpec.ofChange frameToldSpec)) frameToldCard

/-- THE TIED CARD OF 'escritoirelaw12.FrameNone'. -/
def frameNoneCard : Claim7 := { stood := { row := frameNoneRow, standIns := [], harness := (true, "f7e8006fa5239ec79b5cead30fa93eb7a1bb2d2003d253115dd6d39090a61cc6"), looks := true }, kinds := [], alts := [], laidByText := true, laidKinds := [.data, .data], laidTests := true, laidLooks := .later }
def FrameNoneCardSaid : Prop := Claim7.holds Tryz.pinned (.plain (OpenSpec.ofChange frameNoneSpec)) frameNoneCard

/-- THE TIED CARD OF 'escritoirelaw12.FrameAgain'. -/
def frameAgainCard : Claim7 := { stood := { row := frameAgainRow, standIns := [], harness := (true, "f7e8006fa5239ec79b5cead30fa93eb7a1bb2d2003d253115dd6d39090a61cc6"), looks := true }, kinds := [], alts := [], laidByText := true, laidKinds := [.data, .data], laidTests := true, laidLooks := .later }
def FrameAgainCardSaid : Prop := Claim7.holds Tryz.pinned (.plain (OpenSpec.ofChange frameAgainSpec)) frameAgainCard

/-- THE TIED CARD OF 'escritoiretop.TopSums'. -/
def topSumsCard : Claim7 := { stood := { row := topSumsRow, standIns := [], harness := (true, "f7e8006fa5239ec79b5cead30fa93eb7a1bb2d2003d253115dd6d39090a61cc6"), looks := true }, kinds := [], alts := [], laidByText := true, laidKinds := [.data, .data], laidTests := true, laidLooks := .later }
def TopSumsCardSaid : Prop := Claim7.holds Tryz.pinned (.plain (OpenSpec.ofChange topSumsSpec)) topSumsCard

/-- THE TIED CARD OF 'escritoiretop.TopHanded'. -/
def topHandedCard : Claim7 := { stood := { row := topHandedRow, standIns := [], harness := (true, "f7e8006fa5239ec79b5cead30fa93eb7a1bb2d2003d253115dd6d39090a61cc6"), looks := true }, kinds := [], alts := [], laidByText := true, laidKinds := [.data, .data], laidTests := true, laidLooks := .later }
def TopHandedCardSaid : Prop := Claim7.holds Tryz.pinned (.plain (OpenSpec.ofChange topHandedSpec)) topHandedCard

/-- THE TIED CARD OF 'escritoirelaw11.KeysPlays'. -/
def keysPlaysCard : Claim7 := { stood := { row := keysPlaysRow, standIns := [], harness := (true, "f7e8006fa5239ec79b5cead30fa93eb7a1bb2d2003d253115dd6d39090a61cc6"), looks := true }, kinds := [], alts := [], laidByText := true, laidKinds := [.data], laidTests := true, laidLooks := .later }
def KeysPlaysCardSaid : Prop := Claim7.holds Tryz.pinned (.plain (OpenSpec.ofChange keysPlaysSpec)) keysPlaysCard

/-- THE TIED CARD OF 'escritoirelaw11.KeysForks'. -/
def keysForksCard : Claim7 := { stood := { row := keysForksRow, standIns := [], harness := (true, "f7e8006fa5239ec79b5cead30fa93eb7a1bb2d2003d253115dd6d39090a61cc6"), looks := true }, kinds := [], alts := [], laidByText := true, laidKinds := [.data], laidTests := true, laidLooks := .later }
def KeysForksCardSaid : Prop := Claim7.holds Tryz.pinned (.plain (OpenSpec.ofChange keysForksSpec)) keysForksCard

/-- THE SECOND FORM's CARD OF 'escritoirelaw12.FrameSeals'. -/
def frameSealsUptoCard : Claim7 := { stood := { row := frameSealsUptoRow, standIns := [], harness := (true, "f7e8006fa5239ec79b5cead30fa93eb7a1bb2d2003d253115dd6d39090a61cc6"), looks := true }, kinds := [], alts := [], laidByText := true, laidKinds := [.data, .data], laidTests := true, laidLooks := .later }
def FrameSealsUptoCardSaid : Prop := Claim7.holds Tryz.pinned (.plain (OpenSpec.upto frameSealsSpec)) frameSealsUptoCard

/-- THE SECOND FORM's CARD OF 'escritoirelaw12.FrameOpens'. -/
def frameOpensUptoCard : Claim7 := { stood := { row := frameOpensUptoRow, standIns := [], harness := (true, "f7e8006fa5239ec79b5cead30fa93eb7a1bb2d2003d253115dd6d39090a61cc6"), looks := true }, kinds := [], alts := [], laidByText := true, laidKinds := [.data, .data], laidTests := true, laidLooks := .later }
def FrameOpensUptoCardSaid : Prop := Claim7.holds Tryz.pinned (.plain (OpenSpec.upto frameOpensSpec)) frameOpensUptoCard

/-- THE SECOND FORM's CARD OF 'escritoirelaw12.FrameBack'. -/
def frameBackUptoCard : Claim7 := { stood := { row := frameBackUptoRow, standIns := [], harness := (true, "f7e8006fa5239ec79b5cead30fa93eb7a1bb2d2003d253115dd6d39090a61cc6"), looks := true }, kinds := [], alts := [], laidByText := true, laidKinds := [.data, .data], laidTests := true, laidLooks := .later }
def FrameBackUptoCardSaid : Prop := Claim7.holds Tryz.pinned (.plain (OpenSpec.upto frameBackSpec)) frameBackUptoCard

/-- THE SECOND FORM's CARD OF 'escritoirelaw12.FrameSizes'. -/
def frameSizesUptoCard : Claim7 := { stood := { row := frameSizesUptoRow, standIns := [], harness := (true, "f7e8006fa5239ec79b5cead30fa93eb7a1bb2d2003d253115dd6d39090a61cc6"), looks := true }, kinds := [], alts := [], laidByText := true, laidKinds := [.data, .data], laidTests := true, laidLooks := .later }
def FrameSizesUptoCardSaid : Prop := Claim7.holds Tryz.pinned (.plain (OpenSpec.upto frameSizesSpec)) frameSizesUptoCard

/-- THE SECOND FORM's CARD OF 'escritoirelaw12.FrameTags'. -/
def frameTagsUptoCard : Claim7 := { stood := { row := frameTagsUptoRow, standIns := [], harness := (true, "f7e8006fa5239ec79b5cead30fa93eb7a1bb2d2003d253115dd6d39090a61cc6"), looks := true }, kinds := [], alts := [], laidByText := true, laidKinds := [.data, .data], laidTests := true, laidLooks := .later }
def FrameTagsUptoCardSaid : Prop := Claim7.holds Tryz.pinned (.plain (OpenSpec.upto frameTagsSpec)) frameTagsUptoCard

/-- THE SECOND FORM's CARD OF 'escritoirelaw12.FrameTold'. -/
def frameToldUptoCard : Claim7 := { stood := { row := frameToldUptoRow, standIns := [], harness := (true, "f7e8006fa5239ec79b5cead30fa93eb7a1bb2d2003d253115dd6d39090a61cc6"), looks := true }, kinds := [], alts := [], laidByText := true, laidKinds := [.data, .data], laidTests := true, laidLooks := .later }
def FrameToldUptoCardSaid : Prop := Claim7.holds Tryz.pinned (.plain (OpenSpec.upto frameToldSpec)) frameToldUptoCard

/-- THE SECOND FORM's CARD OF 'escritoirelaw12.FrameNone'. -/
def frameNoneUptoCard : Claim7 := { stood := { row := frameNoneUptoRow, standIns := [], harness := (true, "f7e8006fa5239ec79b5cead30fa93eb7a1bb2d2003d253115dd6d39090a61cc6"), looks := true }, kinds := [], alts := [], laidByText := true, laidKinds := [.data, .data], laidTests := true, laidLooks := .later }
def FrameNoneUptoCardSaid : Prop := Claim7.holds Tryz.pinned (.plain (OpenSpec.upto frameNoneSpec)) frameNoneUptoCard

/-- THE SECOND FORM's CARD OF 'escritoirelaw12.FrameAgain'. -/
def frameAgainUptoCard : Claim7 := { stood := { row := frameAgainUptoRow, standIns := [], harness := (true, "f7e8006fa5239ec79b5cead30fa93eb7a1bb2d2003d253115dd6d39090a61cc6"), looks := true }, kinds := [], alts := [], laidByText := true, laidKinds := [.data, .data], laidTests := true, laidLooks := .later }
def FrameAgainUptoCardSaid : Prop := Claim7.holds Tryz.pinned (.plain (OpenSpec.upto frameAgainSpec)) frameAgainUptoCard

/-- THE SECOND FORM's CARD OF 'escritoiretop.TopSums'. -/
def topSumsUptoCard : Claim7 := { stood := { row := topSumsUptoRow, standIns := [], harness := (true, "f7e8006fa5239ec79b5cead30fa93eb7a1bb2d2003d253115dd6d39090a61cc6"), looks := true }, kinds := [], alts := [], laidByText := true, laidKinds := [.data, .data], laidTests := true, laidLooks := .later }
def TopSumsUptoCardSaid : Prop := Claim7.holds Tryz.pinned (.plain (OpenSpec.upto topSumsSpec)) topSumsUptoCard

/-- THE SECOND FORM's CARD OF 'escritoiretop.TopHanded'. -/
def topHandedUptoCard : Claim7 := { stood := { row := topHandedUptoRow, standIns := [], harness := (true, "f7e8006fa5239ec79b5cead30fa93eb7a1bb2d2003d253115dd6d39090a61cc6"), looks := true }, kinds := [], alts := [], laidByText := true, laidKinds := [.data, .data], laidTests := true, laidLooks := .later }
def TopHandedUptoCardSaid : Prop := Claim7.holds Tryz.pinned (.plain (OpenSpec.upto topHandedSpec)) topHandedUptoCard

/-- THE SECOND FORM's CARD OF 'escritoirelaw11.KeysPlays'. -/
def keysPlaysUptoCard : Claim7 := { stood := { row := keysPlaysUptoRow, standIns := [], harness := (true, "f7e8006fa5239ec79b5cead30fa93eb7a1bb2d2003d253115dd6d39090a61cc6"), looks := true }, kinds := [], alts := [], laidByText := true, laidKinds := [.data], laidTests := true, laidLooks := .later }
def KeysPlaysUptoCardSaid : Prop := Claim7.holds Tryz.pinned (.plain (OpenSpec.upto keysPlaysSpec)) keysPlaysUptoCard

/-- THE SECOND FORM's CARD OF 'escritoirelaw11.KeysForks'. -/
def keysForksUptoCard : Claim7 := { stood := { row := keysForksUptoRow, standIns := [], harness := (true, "f7e8006fa5239ec79b5cead30fa93eb7a1bb2d2003d253115dd6d39090a61cc6"), looks := true }, kinds := [], alts := [], laidByText := true, laidKinds := [.data], laidTests := true, laidLooks := .later }
def KeysForksUptoCardSaid : Prop := Claim7.holds Tryz.pinned (.plain (OpenSpec.upto keysForksSpec)) keysForksUptoCard
end Rows
end Go.Proofs.YtfainlfiphdaeaaGreatDoor
