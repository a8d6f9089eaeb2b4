/-
  DERIVED. GIVEN WITH THE SEED: THE CARDS: each row of YtobfknpgkdiicadDoorRows.lean that lists a variable, with what it lists TIED to the program's text (the seventh form; the later family's looks); each row that meets fmt, with fmt's text TOLD by the authors' own Lean function (tested against real Go, not proved from fmt's source: count such statements apart). THE CARD IS WHAT COUNTS. Prove the row's statement (the work); the ties are given (YtobfknpgkdiicadDoorTie.lean); close each card by the builder's one call (the guide's Derived/Test/ToyasCard.lean, 'card_holds'). Laid BY PROGRAM, IN A SANDBOX (cutbox-door.mjs). By AI agents, Wed Nov 11 2026. No macro, syntax, notation, axiom, sorry.
-/
import Derived.Test.YtobfknpgkdiicadDoorRows
import GoSem.ClaimSeven
namespace Go.Proofs.YtobfknpgkdiicadDoor
namespace Rows

/-- THE TIED CARD OF 'escritoirelaw02.MacFirst'. -/
def macFirstCard : Claim7 := { stood := { row := macFirstRow, standIns := [], harness := (true, "4284cac694113a00d7e0c6df48c96e7bb29d531690a556791e715137057ed5eb"), looks := false }, kinds := [], alts := [], laidByText := true, laidKinds := [.data], laidTests := true, laidLooks := .later }
def MacFirstCardSaid : Prop := Claim7.holds Tryd.pinned (.plain (OpenSpec.ofChange macFirstSpec)) macFirstCard

/-- THE TIED CARD OF 'escritoirelaw02.MacPrefix'. -/
def macPrefixCard : Claim7 := { stood := { row := macPrefixRow, standIns := [], harness := (true, "4284cac694113a00d7e0c6df48c96e7bb29d531690a556791e715137057ed5eb"), looks := false }, kinds := [], alts := [], laidByText := true, laidKinds := [.data], laidTests := true, laidLooks := .later }
def MacPrefixCardSaid : Prop := Claim7.holds Tryd.pinned (.plain (OpenSpec.ofChange macPrefixSpec)) macPrefixCard

/-- THE TIED CARD OF 'escritoirelaw02.MacLong'. -/
def macLongCard : Claim7 := { stood := { row := macLongRow, standIns := [], harness := (true, "4284cac694113a00d7e0c6df48c96e7bb29d531690a556791e715137057ed5eb"), looks := false }, kinds := [], alts := [], laidByText := true, laidKinds := [.data], laidTests := true, laidLooks := .later }
def MacLongCardSaid : Prop := Claim7.holds Tryd.pinned (.plain (OpenSpec.ofChange macLongSpec)) macLongCard

/-- THE TIED CARD OF 'escritoirelaw02.MacExpands'. -/
def macExpandsCard : Claim7 := { stood := { row := macExpandsRow, standIns := [], harness := (true, "4284cac694113a00d7e0c6df48c96e7bb29d531690a556791e715137057ed5eb"), looks := false }, kinds := [], alts := [], laidByText := true, laidKinds := [.data], laidTests := true, laidLooks := .later }
def MacExpandsCardSaid : Prop := Claim7.holds Tryd.pinned (.plain (OpenSpec.ofChange macExpandsSpec)) macExpandsCard

/-- THE TIED CARD OF 'escritoiretop.TopTags'. -/
def topTagsCard : Claim7 := { stood := { row := topTagsRow, standIns := [], harness := (true, "4284cac694113a00d7e0c6df48c96e7bb29d531690a556791e715137057ed5eb"), looks := false }, kinds := [], alts := [], laidByText := true, laidKinds := [.data], laidTests := true, laidLooks := .later }
def TopTagsCardSaid : Prop := Claim7.holds Tryd.pinned (.plain (OpenSpec.ofChange topTagsSpec)) topTagsCard

/-- THE TIED CARD OF 'escritoiretop.TopKeys'. -/
def topKeysCard : Claim7 := { stood := { row := topKeysRow, standIns := [], harness := (true, "4284cac694113a00d7e0c6df48c96e7bb29d531690a556791e715137057ed5eb"), looks := false }, kinds := [], alts := [], laidByText := true, laidKinds := [.data], laidTests := true, laidLooks := .later }
def TopKeysCardSaid : Prop := Claim7.holds Tryd.pinned (.plain (OpenSpec.ofChange topKeysSpec)) topKeysCard

/-- THE SECOND FORM's CARD OF 'escritoirelaw02.MacFirst'. -/
def macFirstUptoCard : Claim7 := { stood := { row := macFirstUptoRow, standIns := [], harness := (true, "4284cac694113a00d7e0c6df48c96e7bb29d531690a556791e715137057ed5eb"), looks := false }, kinds := [], alts := [], laidByText := true, laidKinds := [.data], laidTests := true, laidLooks := .later }
def MacFirstUptoCardSaid : Prop := Claim7.holds Tryd.pinned (.plain (OpenSpec.upto macFirstSpec)) macFirstUptoCard

/-- THE SECOND FORM's CARD OF 'escritoirelaw02.MacPrefix'. -/
def macPrefixUptoCard : Claim7 := { stood := { row := macPrefixUptoRow, standIns := [], harness := (true, "4284cac694113a00d7e0c6df48c96e7bb29d531690a556791e715137057ed5eb"), looks := false }, kinds := [], alts := [], laidByText := true, laidKinds := [.data], laidTests := true, laidLooks := .later }
def MacPrefixUptoCardSaid : Prop := Claim7.holds Tryd.pinned (.plain (OpenSpec.upto macPrefixSpec)) macPrefixUptoCard

/-- THE SECOND FORM's CARD OF 'escritoirelaw02.MacLong'. -/
def macLongUptoCard : Claim7 := { stood := { row := macLongUptoRow, standIns := [], harness := (true, "4284cac694113a00d7e0c6df48c96e7bb29d531690a556791e715137057ed5eb"), looks := false }, kinds := [], alts := [], laidByText := true, laidKinds := [.data], laidTests := true, laidLooks := .later }
def MacLongUptoCardSaid : Prop := Claim7.holds Tryd.pinned (.plain (OpenSpec.upto macLongSpec)) macLongUptoCard

/-- THE SECOND FORM's CARD OF 'escritoirelaw02.MacExpands'. -/
def macExpandsUptoCard : Claim7 := { stood := { row := macExpandsUptoRow, standIns := [], harness := (true, "4284cac694113a00d7e0c6df48c96e7bb29d531690a556791e715137057ed5eb"), looks := false }, kinds := [], alts := [], laidByText := true, laidKinds := [.data], laidTests := true, laidLooks := .later }
def MacExpandsUptoCardSaid : Prop := Claim7.holds Tryd.pinned (.plain (OpenSpec.upto macExpandsSpec)) macExpandsUptoCard

/-- THE SECOND FORM's CARD OF 'escritoiretop.TopTags'. -/
def topTagsUptoCard : Claim7 := { stood := { row := topTagsUptoRow, standIns := [], harness := (true, "4284cac694113a00d7e0c6df48c96e7bb29d531690a556791e715137057ed5eb"), looks := false }, kinds := [], alts := [], laidByText := true, laidKinds := [.data], laidTests := true, laidLooks := .later }
def TopTagsUptoCardSaid : Prop := Claim7.holds Tryd.pinned (.plain (OpenSpec.upto topTagsSpec)) topTagsUptoCard

/-- THE SECOND FORM's CARD OF 'escritoiretop.TopKeys'. -/
def topKeysUptoCard : Claim7 := { stood := { row := topKeysUptoRow, standIns := [], harness := (true, "4284cac694113a00d7e0c6df48c96e7bb29d531690a556791e715137057ed5eb"), looks := false }, kinds := [], alts := [], laidByText := true, laidKinds := [.data], laidTests := true, laidLooks := .later }
def TopKeysUptoCardSaid : Prop := Claim7.holds Tryd.pinned (.plain (OpenSpec.upto topKeysSpec)) topKeysUptoCard
end Rows
end Go.Proofs.YtobfknpgkdiicadDoor
