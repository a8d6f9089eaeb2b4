/-
  NARROWER THAN 'FOR EVERY INPUT', by the rows' own cells (each row's printed sentence says how): FrameSeals: laid · FrameOpens: laid · FrameBack: laid · FrameSizes: laid · FrameTags: laid · FrameTold: laid · FrameNone: laid · FrameAgain: laid · TopSums: laid · TopHanded: laid · KeysPlays: laid · KeysForks: laid.
  DERIVED. THE GIVEN ROWS OF THIS SEAT. 12 by the template 'for every input the law returns true; each argument reads behind the call as it read before'; 0 by the template 'total and deterministic' (their statements: YtfainlfiphdaeaaGreatDoorTotals.lean).
  GIVEN WITH THE SEED: the statements are not yours to turn. If you find one false, say at which input.
  Laid BY PROGRAM, IN A SANDBOX (cutbox-rows.mjs): the forced cells as the released guide's own fill.sh prints them over the translation 0c16f7630530c9ac… (all of the seat's roots in one cut). By AI agents, Wed Nov 11 2026. No macro, syntax, notation, axiom, sorry.
-/
import Derived.Test.YtfainlfiphdaeaaGreatDoorChecked
import GoSem.Claim
import GoSem.ClaimJoined
import GoSem.ClaimMapViews
import Derived.JoinedTies
import Derived.KernelRfl
namespace Go.Proofs.YtfainlfiphdaeaaGreatDoor
/- THE CELL 'sum', in the pinned program and in every row, IS THE sha256 OF THE DUMP (.gsa) THAT YtfainlfiphdaeaaGreatDoorProg.lean LOADS. Nothing in Lean hashes anything: it is a label: what it is worth is what the hold of that sum in a sandbox is worth. -/
noncomputable def Tryz.pinned : Pinned := { name := "ytfainlfiphdaeaagreatdoor", sum := "0c16f7630530c9acbd03ec8ad57e122d121a4d8816a0bf95bb524c9f23c43d97", checked := Tryz.checked }
namespace Rows
def none {H : Type} : Left H := { results := [], args := [] }

/- WHAT THE LISTED PACKAGE-LEVEL VARIABLES READ AS WHEN THE CALL BEGINS. Each datum BY PROGRAM (the guide's laid-datum.mjs) off the statement by which the dump's own 'gosem.cut.vars' lays the variable. In a bare row this is a premise. The card (YtfainlfiphdaeaaGreatDoorCards.lean) ties it to the program's text. -/
def laid_escritoire_sha_roundWords {H : Type} : DataW H := .agg [.lit (.int .u32 1116352408), .lit (.int .u32 1899447441), .lit (.int .u32 3049323471), .lit (.int .u32 3921009573), .lit (.int .u32 961987163), .lit (.int .u32 1508970993), .lit (.int .u32 2453635748), .lit (.int .u32 2870763221), .lit (.int .u32 3624381080), .lit (.int .u32 310598401), .lit (.int .u32 607225278), .lit (.int .u32 1426881987), .lit (.int .u32 1925078388), .lit (.int .u32 2162078206), .lit (.int .u32 2614888103), .lit (.int .u32 3248222580), .lit (.int .u32 3835390401), .lit (.int .u32 4022224774), .lit (.int .u32 264347078), .lit (.int .u32 604807628), .lit (.int .u32 770255983), .lit (.int .u32 1249150122), .lit (.int .u32 1555081692), .lit (.int .u32 1996064986), .lit (.int .u32 2554220882), .lit (.int .u32 2821834349), .lit (.int .u32 2952996808), .lit (.int .u32 3210313671), .lit (.int .u32 3336571891), .lit (.int .u32 3584528711), .lit (.int .u32 113926993), .lit (.int .u32 338241895), .lit (.int .u32 666307205), .lit (.int .u32 773529912), .lit (.int .u32 1294757372), .lit (.int .u32 1396182291), .lit (.int .u32 1695183700), .lit (.int .u32 1986661051), .lit (.int .u32 2177026350), .lit (.int .u32 2456956037), .lit (.int .u32 2730485921), .lit (.int .u32 2820302411), .lit (.int .u32 3259730800), .lit (.int .u32 3345764771), .lit (.int .u32 3516065817), .lit (.int .u32 3600352804), .lit (.int .u32 4094571909), .lit (.int .u32 275423344), .lit (.int .u32 430227734), .lit (.int .u32 506948616), .lit (.int .u32 659060556), .lit (.int .u32 883997877), .lit (.int .u32 958139571), .lit (.int .u32 1322822218), .lit (.int .u32 1537002063), .lit (.int .u32 1747873779), .lit (.int .u32 1955562222), .lit (.int .u32 2024104815), .lit (.int .u32 2227730452), .lit (.int .u32 2361852424), .lit (.int .u32 2428436474), .lit (.int .u32 2756734187), .lit (.int .u32 3204031479), .lit (.int .u32 3329325298)]
def laid_escritoire_wire_buckets {H : Type} : DataW H := .agg [.lit (.int .i64 128), .lit (.int .i64 256), .lit (.int .i64 512), .lit (.int .i64 1024), .lit (.int .i64 2048), .lit (.int .i64 4096)]

/-- 'escritoirelaw12.FrameSeals': WHATEVER THE INPUT: true; the input reads as it did. -/
def frameSealsSpec : ChangeSpec := { name := "frameSeals", fn := fun _ => fun
  | [d] => { results := [.lit (.bool true)], args := [d] }
  | _ => none }
def frameSealsRow : OpenClaim := { program := "ytfainlfiphdaeaagreatdoor", sum := "0c16f7630530c9acbd03ec8ad57e122d121a4d8816a0bf95bb524c9f23c43d97", func := "escritoire/escritoirelaw12.FrameSeals", spec := "frameSeals", unfollowed := true, recurses := true, named := ["escritoire/sha.roundWords", "escritoire/wire.buckets"], plainKeys := false, apart := false, laid := [("escritoire/sha.roundWords", laid_escritoire_sha_roundWords), ("escritoire/wire.buckets", laid_escritoire_wire_buckets)] }
def FrameSealsSaid : Prop := frameSealsRow.holds Tryz.pinned (OpenSpec.ofChange frameSealsSpec)

/-- ITS FALSE NEIGHBOUR: 'it returns false'. Refute it at one input. -/
def frameSealsWrong : ChangeSpec := { name := "frameSeals", fn := fun _ => fun
  | [d] => { results := [.lit (.bool false)], args := [d] }
  | _ => none }
def FrameSealsWrongFalsely : Prop := frameSealsRow.holds Tryz.pinned (OpenSpec.ofChange frameSealsWrong)

/-- 'escritoirelaw12.FrameOpens': WHATEVER THE INPUT: true; the input reads as it did. -/
def frameOpensSpec : ChangeSpec := { name := "frameOpens", fn := fun _ => fun
  | [d1, d2, d3] => { results := [.lit (.bool true)], args := [d1, d2, d3] }
  | _ => none }
def frameOpensRow : OpenClaim := { program := "ytfainlfiphdaeaagreatdoor", sum := "0c16f7630530c9acbd03ec8ad57e122d121a4d8816a0bf95bb524c9f23c43d97", func := "escritoire/escritoirelaw12.FrameOpens", spec := "frameOpens", unfollowed := true, recurses := true, named := ["escritoire/sha.roundWords", "escritoire/wire.buckets"], plainKeys := false, apart := false, laid := [("escritoire/sha.roundWords", laid_escritoire_sha_roundWords), ("escritoire/wire.buckets", laid_escritoire_wire_buckets)] }
def FrameOpensSaid : Prop := frameOpensRow.holds Tryz.pinned (OpenSpec.ofChange frameOpensSpec)

/-- ITS FALSE NEIGHBOUR: 'it returns false'. Refute it at one input. -/
def frameOpensWrong : ChangeSpec := { name := "frameOpens", fn := fun _ => fun
  | [d1, d2, d3] => { results := [.lit (.bool false)], args := [d1, d2, d3] }
  | _ => none }
def FrameOpensWrongFalsely : Prop := frameOpensRow.holds Tryz.pinned (OpenSpec.ofChange frameOpensWrong)

/-- 'escritoirelaw12.FrameBack': WHATEVER THE INPUT: true; the input reads as it did. -/
def frameBackSpec : ChangeSpec := { name := "frameBack", fn := fun _ => fun
  | [d1, d2] => { results := [.lit (.bool true)], args := [d1, d2] }
  | _ => none }
def frameBackRow : OpenClaim := { program := "ytfainlfiphdaeaagreatdoor", sum := "0c16f7630530c9acbd03ec8ad57e122d121a4d8816a0bf95bb524c9f23c43d97", func := "escritoire/escritoirelaw12.FrameBack", spec := "frameBack", unfollowed := true, recurses := true, named := ["escritoire/sha.roundWords", "escritoire/wire.buckets"], plainKeys := false, apart := false, laid := [("escritoire/sha.roundWords", laid_escritoire_sha_roundWords), ("escritoire/wire.buckets", laid_escritoire_wire_buckets)] }
def FrameBackSaid : Prop := frameBackRow.holds Tryz.pinned (OpenSpec.ofChange frameBackSpec)

/-- ITS FALSE NEIGHBOUR: 'it returns false'. Refute it at one input. -/
def frameBackWrong : ChangeSpec := { name := "frameBack", fn := fun _ => fun
  | [d1, d2] => { results := [.lit (.bool false)], args := [d1, d2] }
  | _ => none }
def FrameBackWrongFalsely : Prop := frameBackRow.holds Tryz.pinned (OpenSpec.ofChange frameBackWrong)

/-- 'escritoirelaw12.FrameSizes': WHATEVER THE INPUT: true; the input reads as it did. -/
def frameSizesSpec : ChangeSpec := { name := "frameSizes", fn := fun _ => fun
  | [d1, d2] => { results := [.lit (.bool true)], args := [d1, d2] }
  | _ => none }
def frameSizesRow : OpenClaim := { program := "ytfainlfiphdaeaagreatdoor", sum := "0c16f7630530c9acbd03ec8ad57e122d121a4d8816a0bf95bb524c9f23c43d97", func := "escritoire/escritoirelaw12.FrameSizes", spec := "frameSizes", unfollowed := true, recurses := true, named := ["escritoire/sha.roundWords", "escritoire/wire.buckets"], plainKeys := false, apart := false, laid := [("escritoire/sha.roundWords", laid_escritoire_sha_roundWords), ("escritoire/wire.buckets", laid_escritoire_wire_buckets)] }
def FrameSizesSaid : Prop := frameSizesRow.holds Tryz.pinned (OpenSpec.ofChange frameSizesSpec)

/-- ITS FALSE NEIGHBOUR: 'it returns false'. Refute it at one input. -/
def frameSizesWrong : ChangeSpec := { name := "frameSizes", fn := fun _ => fun
  | [d1, d2] => { results := [.lit (.bool false)], args := [d1, d2] }
  | _ => none }
def FrameSizesWrongFalsely : Prop := frameSizesRow.holds Tryz.pinned (OpenSpec.ofChange frameSizesWrong)

/-- 'escritoirelaw12.FrameTags': WHATEVER THE INPUT: true; the input reads as it did. -/
def frameTagsSpec : ChangeSpec := { name := "frameTags", fn := fun _ => fun
  | [d1, d2] => { results := [.lit (.bool true)], args := [d1, d2] }
  | _ => none }
def frameTagsRow : OpenClaim := { program := "ytfainlfiphdaeaagreatdoor", sum := "0c16f7630530c9acbd03ec8ad57e122d121a4d8816a0bf95bb524c9f23c43d97", func := "escritoire/escritoirelaw12.FrameTags", spec := "frameTags", unfollowed := true, recurses := true, named := ["escritoire/sha.roundWords", "escritoire/wire.buckets"], plainKeys := false, apart := false, laid := [("escritoire/sha.roundWords", laid_escritoire_sha_roundWords), ("escritoire/wire.buckets", laid_escritoire_wire_buckets)] }
def FrameTagsSaid : Prop := frameTagsRow.holds Tryz.pinned (OpenSpec.ofChange frameTagsSpec)

/-- ITS FALSE NEIGHBOUR: 'it returns false'. Refute it at one input. -/
def frameTagsWrong : ChangeSpec := { name := "frameTags", fn := fun _ => fun
  | [d1, d2] => { results := [.lit (.bool false)], args := [d1, d2] }
  | _ => none }
def FrameTagsWrongFalsely : Prop := frameTagsRow.holds Tryz.pinned (OpenSpec.ofChange frameTagsWrong)

/-- 'escritoirelaw12.FrameTold': WHATEVER THE INPUT: true; the input reads as it did. -/
def frameToldSpec : ChangeSpec := { name := "frameTold", fn := fun _ => fun
  | [d1, d2, d3] => { results := [.lit (.bool true)], args := [d1, d2, d3] }
  | _ => none }
def frameToldRow : OpenClaim := { program := "ytfainlfiphdaeaagreatdoor", sum := "0c16f7630530c9acbd03ec8ad57e122d121a4d8816a0bf95bb524c9f23c43d97", func := "escritoire/escritoirelaw12.FrameTold", spec := "frameTold", unfollowed := true, recurses := true, named := ["escritoire/sha.roundWords", "escritoire/wire.buckets"], plainKeys := false, apart := false, laid := [("escritoire/sha.roundWords", laid_escritoire_sha_roundWords), ("escritoire/wire.buckets", laid_escritoire_wire_buckets)] }
def FrameToldSaid : Prop := frameToldRow.holds Tryz.pinned (OpenSpec.ofChange frameToldSpec)

/-- ITS FALSE NEIGHBOUR: 'it returns false'. Refute it at one input. -/
def frameToldWrong : ChangeSpec := { name := "frameTold", fn := fun _ => fun
  | [d1, d2, d3] => { results := [.lit (.bool false)], args := [d1, d2, d3] }
  | _ => none }
def FrameToldWrongFalsely : Prop := frameToldRow.holds Tryz.pinned (OpenSpec.ofChange frameToldWrong)

/-- 'escritoirelaw12.FrameNone': WHATEVER THE INPUT: true; the input reads as it did. -/
def frameNoneSpec : ChangeSpec := { name := "frameNone", fn := fun _ => fun
  | [d1, d2] => { results := [.lit (.bool true)], args := [d1, d2] }
  | _ => none }
def frameNoneRow : OpenClaim := { program := "ytfainlfiphdaeaagreatdoor", sum := "0c16f7630530c9acbd03ec8ad57e122d121a4d8816a0bf95bb524c9f23c43d97", func := "escritoire/escritoirelaw12.FrameNone", spec := "frameNone", unfollowed := true, recurses := true, named := ["escritoire/sha.roundWords", "escritoire/wire.buckets"], plainKeys := false, apart := false, laid := [("escritoire/sha.roundWords", laid_escritoire_sha_roundWords), ("escritoire/wire.buckets", laid_escritoire_wire_buckets)] }
def FrameNoneSaid : Prop := frameNoneRow.holds Tryz.pinned (OpenSpec.ofChange frameNoneSpec)

/-- ITS FALSE NEIGHBOUR: 'it returns false'. Refute it at one input. -/
def frameNoneWrong : ChangeSpec := { name := "frameNone", fn := fun _ => fun
  | [d1, d2] => { results := [.lit (.bool false)], args := [d1, d2] }
  | _ => none }
def FrameNoneWrongFalsely : Prop := frameNoneRow.holds Tryz.pinned (OpenSpec.ofChange frameNoneWrong)

/-- 'escritoirelaw12.FrameAgain': WHATEVER THE INPUT: true; the input reads as it did. -/
def frameAgainSpec : ChangeSpec := { name := "frameAgain", fn := fun _ => fun
  | [d1, d2] => { results := [.lit (.bool true)], args := [d1, d2] }
  | _ => none }
def frameAgainRow : OpenClaim := { program := "ytfainlfiphdaeaagreatdoor", sum := "0c16f7630530c9acbd03ec8ad57e122d121a4d8816a0bf95bb524c9f23c43d97", func := "escritoire/escritoirelaw12.FrameAgain", spec := "frameAgain", unfollowed := true, recurses := true, named := ["escritoire/sha.roundWords", "escritoire/wire.buckets"], plainKeys := false, apart := false, laid := [("escritoire/sha.roundWords", laid_escritoire_sha_roundWords), ("escritoire/wire.buckets", laid_escritoire_wire_buckets)] }
def FrameAgainSaid : Prop := frameAgainRow.holds Tryz.pinned (OpenSpec.ofChange frameAgainSpec)

/-- ITS FALSE NEIGHBOUR: 'it returns false'. Refute it at one input. -/
def frameAgainWrong : ChangeSpec := { name := "frameAgain", fn := fun _ => fun
  | [d1, d2] => { results := [.lit (.bool false)], args := [d1, d2] }
  | _ => none }
def FrameAgainWrongFalsely : Prop := frameAgainRow.holds Tryz.pinned (OpenSpec.ofChange frameAgainWrong)

/-- 'escritoiretop.TopSums': WHATEVER THE INPUT: true; the input reads as it did. -/
def topSumsSpec : ChangeSpec := { name := "topSums", fn := fun _ => fun
  | [d1, d2, d3] => { results := [.lit (.bool true)], args := [d1, d2, d3] }
  | _ => none }
def topSumsRow : OpenClaim := { program := "ytfainlfiphdaeaagreatdoor", sum := "0c16f7630530c9acbd03ec8ad57e122d121a4d8816a0bf95bb524c9f23c43d97", func := "escritoire/escritoiretop.TopSums", spec := "topSums", unfollowed := true, recurses := true, named := ["escritoire/sha.roundWords", "escritoire/wire.buckets"], plainKeys := false, apart := false, laid := [("escritoire/sha.roundWords", laid_escritoire_sha_roundWords), ("escritoire/wire.buckets", laid_escritoire_wire_buckets)] }
def TopSumsSaid : Prop := topSumsRow.holds Tryz.pinned (OpenSpec.ofChange topSumsSpec)

/-- ITS FALSE NEIGHBOUR: 'it returns false'. Refute it at one input. -/
def topSumsWrong : ChangeSpec := { name := "topSums", fn := fun _ => fun
  | [d1, d2, d3] => { results := [.lit (.bool false)], args := [d1, d2, d3] }
  | _ => none }
def TopSumsWrongFalsely : Prop := topSumsRow.holds Tryz.pinned (OpenSpec.ofChange topSumsWrong)

/-- 'escritoiretop.TopHanded': WHATEVER THE INPUT: true; the input reads as it did. -/
def topHandedSpec : ChangeSpec := { name := "topHanded", fn := fun _ => fun
  | [d1, d2, d3] => { results := [.lit (.bool true)], args := [d1, d2, d3] }
  | _ => none }
def topHandedRow : OpenClaim := { program := "ytfainlfiphdaeaagreatdoor", sum := "0c16f7630530c9acbd03ec8ad57e122d121a4d8816a0bf95bb524c9f23c43d97", func := "escritoire/escritoiretop.TopHanded", spec := "topHanded", unfollowed := true, recurses := true, named := ["escritoire/sha.roundWords", "escritoire/wire.buckets"], plainKeys := false, apart := false, laid := [("escritoire/sha.roundWords", laid_escritoire_sha_roundWords), ("escritoire/wire.buckets", laid_escritoire_wire_buckets)] }
def TopHandedSaid : Prop := topHandedRow.holds Tryz.pinned (OpenSpec.ofChange topHandedSpec)

/-- ITS FALSE NEIGHBOUR: 'it returns false'. Refute it at one input. -/
def topHandedWrong : ChangeSpec := { name := "topHanded", fn := fun _ => fun
  | [d1, d2, d3] => { results := [.lit (.bool false)], args := [d1, d2, d3] }
  | _ => none }
def TopHandedWrongFalsely : Prop := topHandedRow.holds Tryz.pinned (OpenSpec.ofChange topHandedWrong)

/-- 'escritoirelaw11.KeysPlays': WHATEVER THE INPUT: true; the input reads as it did. -/
def keysPlaysSpec : ChangeSpec := { name := "keysPlays", fn := fun _ => fun
  | [d1, d2, d3] => { results := [.lit (.bool true)], args := [d1, d2, d3] }
  | _ => none }
def keysPlaysRow : OpenClaim := { program := "ytfainlfiphdaeaagreatdoor", sum := "0c16f7630530c9acbd03ec8ad57e122d121a4d8816a0bf95bb524c9f23c43d97", func := "escritoire/escritoirelaw11.KeysPlays", spec := "keysPlays", unfollowed := true, recurses := true, named := ["escritoire/sha.roundWords"], plainKeys := false, apart := false, laid := [("escritoire/sha.roundWords", laid_escritoire_sha_roundWords)] }
def KeysPlaysSaid : Prop := keysPlaysRow.holds Tryz.pinned (OpenSpec.ofChange keysPlaysSpec)

/-- ITS FALSE NEIGHBOUR: 'it returns false'. Refute it at one input. -/
def keysPlaysWrong : ChangeSpec := { name := "keysPlays", fn := fun _ => fun
  | [d1, d2, d3] => { results := [.lit (.bool false)], args := [d1, d2, d3] }
  | _ => none }
def KeysPlaysWrongFalsely : Prop := keysPlaysRow.holds Tryz.pinned (OpenSpec.ofChange keysPlaysWrong)

/-- 'escritoirelaw11.KeysForks': WHATEVER THE INPUT: true; the input reads as it did. -/
def keysForksSpec : ChangeSpec := { name := "keysForks", fn := fun _ => fun
  | [d1, d2, d3] => { results := [.lit (.bool true)], args := [d1, d2, d3] }
  | _ => none }
def keysForksRow : OpenClaim := { program := "ytfainlfiphdaeaagreatdoor", sum := "0c16f7630530c9acbd03ec8ad57e122d121a4d8816a0bf95bb524c9f23c43d97", func := "escritoire/escritoirelaw11.KeysForks", spec := "keysForks", inPlace := ["maps.clone"], unfollowed := true, recurses := true, named := ["escritoire/sha.roundWords"], plainKeys := false, apart := false, laid := [("escritoire/sha.roundWords", laid_escritoire_sha_roundWords)] }
def KeysForksSaid : Prop := keysForksRow.holds Tryz.pinned (OpenSpec.ofChange keysForksSpec)

/-- ITS FALSE NEIGHBOUR: 'it returns false'. Refute it at one input. -/
def keysForksWrong : ChangeSpec := { name := "keysForks", fn := fun _ => fun
  | [d1, d2, d3] => { results := [.lit (.bool false)], args := [d1, d2, d3] }
  | _ => none }
def KeysForksWrongFalsely : Prop := keysForksRow.holds Tryz.pinned (OpenSpec.ofChange keysForksWrong)

/- THE SECOND FORM. 'bulk': how many values and letters a reading holds, each counted each time it is reached (what is shared counts as often as it is met; a slice's spare places count too). A statement '..UptoSaid' is the law's where the arguments, and the package variables that the reading takes, are together of bulk at most 1048576: NARROWER than '..Said'. Prove '..Said' where nothing that the law and all that it calls make is longer than what came in: it says more and counts as full. Else prove '..UptoSaid'. A law counts once. -/
mutual
def uptoBulk {H : Type} : DataW H → Nat
  | .lit (.string bytes) => bytes.length + 1
  | .lit _ => 1
  | .nil => 1
  | .ptr d => uptoBulk d + 1
  | .slice elems spare => uptoBulkAll elems + uptoBulkAll spare + 1
  | .agg parts => uptoBulkAll parts + 1
  | .iface _ d => uptoBulk d + 1
  | .map entries => uptoBulkEntries entries + 1
  | .held _ => 1
def uptoBulkAll {H : Type} : List (DataW H) → Nat
  | [] => 0
  | d :: r => uptoBulk d + uptoBulkAll r
def uptoBulkEntries {H : Type} : List (Lit × DataW H) → Nat
  | [] => 0
  | x :: r => uptoBulkEntry x + uptoBulkEntries r
def uptoBulkEntry {H : Type} : Lit × DataW H → Nat
  | (.string bytes, d) => bytes.length + uptoBulk d + 1
  | (_, d) => uptoBulk d + 1
 end
def uptoSmall : (H : Type) → List (DataW H) → Bool := fun _ ds => decide (uptoBulkAll ds ≤ 1048576)
def OpenSpec.upto (s : _root_.Go.ChangeSpec) : _root_.Go.OpenSpec := { _root_.Go.OpenSpec.ofChange s with cond := some uptoSmall }

/-- 'escritoirelaw12.FrameSeals', WHERE WHAT IT READS IS OF BULK AT MOST 1048576: true; the input reads as it did. -/
def frameSealsUptoRow : OpenClaim := { program := "ytfainlfiphdaeaagreatdoor", sum := "0c16f7630530c9acbd03ec8ad57e122d121a4d8816a0bf95bb524c9f23c43d97", func := "escritoire/escritoirelaw12.FrameSeals", spec := "frameSeals", unfollowed := true, recurses := true, named := ["escritoire/sha.roundWords", "escritoire/wire.buckets"], plainKeys := false, apart := false, laid := [("escritoire/sha.roundWords", laid_escritoire_sha_roundWords), ("escritoire/wire.buckets", laid_escritoire_wire_buckets)], narrowed := true }
def FrameSealsUptoSaid : Prop := frameSealsUptoRow.holds Tryz.pinned (OpenSpec.upto frameSealsSpec)

/-- 'escritoirelaw12.FrameOpens', WHERE WHAT IT READS IS OF BULK AT MOST 1048576: true; the input reads as it did. -/
def frameOpensUptoRow : OpenClaim := { program := "ytfainlfiphdaeaagreatdoor", sum := "0c16f7630530c9acbd03ec8ad57e122d121a4d8816a0bf95bb524c9f23c43d97", func := "escritoire/escritoirelaw12.FrameOpens", spec := "frameOpens", unfollowed := true, recurses := true, named := ["escritoire/sha.roundWords", "escritoire/wire.buckets"], plainKeys := false, apart := false, laid := [("escritoire/sha.roundWords", laid_escritoire_sha_roundWords), ("escritoire/wire.buckets", laid_escritoire_wire_buckets)], narrowed := true }
def FrameOpensUptoSaid : Prop := frameOpensUptoRow.holds Tryz.pinned (OpenSpec.upto frameOpensSpec)

/-- 'escritoirelaw12.FrameBack', WHERE WHAT IT READS IS OF BULK AT MOST 1048576: true; the input reads as it did. -/
def frameBackUptoRow : OpenClaim := { program := "ytfainlfiphdaeaagreatdoor", sum := "0c16f7630530c9acbd03ec8ad57e122d121a4d8816a0bf95bb524c9f23c43d97", func := "escritoire/escritoirelaw12.FrameBack", spec := "frameBack", unfollowed := true, recurses := true, named := ["escritoire/sha.roundWords", "escritoire/wire.buckets"], plainKeys := false, apart := false, laid := [("escritoire/sha.roundWords", laid_escritoire_sha_roundWords), ("escritoire/wire.buckets", laid_escritoire_wire_buckets)], narrowed := true }
def FrameBackUptoSaid : Prop := frameBackUptoRow.holds Tryz.pinned (OpenSpec.upto frameBackSpec)

/-- 'escritoirelaw12.FrameSizes', WHERE WHAT IT READS IS OF BULK AT MOST 1048576: true; the input reads as it did. -/
def frameSizesUptoRow : OpenClaim := { program := "ytfainlfiphdaeaagreatdoor", sum := "0c16f7630530c9acbd03ec8ad57e122d121a4d8816a0bf95bb524c9f23c43d97", func := "escritoire/escritoirelaw12.FrameSizes", spec := "frameSizes", unfollowed := true, recurses := true, named := ["escritoire/sha.roundWords", "escritoire/wire.buckets"], plainKeys := false, apart := false, laid := [("escritoire/sha.roundWords", laid_escritoire_sha_roundWords), ("escritoire/wire.buckets", laid_escritoire_wire_buckets)], narrowed := true }
def FrameSizesUptoSaid : Prop := frameSizesUptoRow.holds Tryz.pinned (OpenSpec.upto frameSizesSpec)

/-- 'escritoirelaw12.FrameTags', WHERE WHAT IT READS IS OF BULK AT MOST 1048576: true; the input reads as it did. -/
def frameTagsUptoRow : OpenClaim := { program := "ytfainlfiphdaeaagreatdoor", sum := "0c16f7630530c9acbd03ec8ad57e122d121a4d8816a0bf95bb524c9f23c43d97", func := "escritoire/escritoirelaw12.FrameTags", spec := "frameTags", unfollowed := true, recurses := true, named := ["escritoire/sha.roundWords", "escritoire/wire.buckets"], plainKeys := false, apart := false, laid := [("escritoire/sha.roundWords", laid_escritoire_sha_roundWords), ("escritoire/wire.buckets", laid_escritoire_wire_buckets)], narrowed := true }
def FrameTagsUptoSaid : Prop := frameTagsUptoRow.holds Tryz.pinned (OpenSpec.upto frameTagsSpec)

/-- 'escritoirelaw12.FrameTold', WHERE WHAT IT READS IS OF BULK AT MOST 1048576: true; the input reads as it did. -/
def frameToldUptoRow : OpenClaim := { program := "ytfainlfiphdaeaagreatdoor", sum := "0c16f7630530c9acbd03ec8ad57e122d121a4d8816a0bf95bb524c9f23c43d97", func := "escritoire/escritoirelaw12.FrameTold", spec := "frameTold", unfollowed := true, recurses := true, named := ["escritoire/sha.roundWords", "escritoire/wire.buckets"], plainKeys := false, apart := false, laid := [("escritoire/sha.roundWords", laid_escritoire_sha_roundWords), ("escritoire/wire.buckets", laid_escritoire_wire_buckets)], narrowed := true }
def FrameToldUptoSaid : Prop := frameToldUptoRow.holds Tryz.pinned (OpenSpec.upto frameToldSpec)

/-- 'escritoirelaw12.FrameNone', WHERE WHAT IT READS IS OF BULK AT MOST 1048576: true; the input reads as it did. -/
def frameNoneUptoRow : OpenClaim := { program := "ytfainlfiphdaeaagreatdoor", sum := "0c16f7630530c9acbd03ec8ad57e122d121a4d8816a0bf95bb524c9f23c43d97", func := "escritoire/escritoirelaw12.FrameNone", spec := "frameNone", unfollowed := true, recurses := true, named := ["escritoire/sha.roundWords", "escritoire/wire.buckets"], plainKeys := false, apart := false, laid := [("escritoire/sha.roundWords", laid_escritoire_sha_roundWords), ("escritoire/wire.buckets", laid_escritoire_wire_buckets)], narrowed := true }
def FrameNoneUptoSaid : Prop := frameNoneUptoRow.holds Tryz.pinned (OpenSpec.upto frameNoneSpec)

/-- 'escritoirelaw12.FrameAgain', WHERE WHAT IT READS IS OF BULK AT MOST 1048576: true; the input reads as it did. -/
def frameAgainUptoRow : OpenClaim := { program := "ytfainlfiphdaeaagreatdoor", sum := "0c16f7630530c9acbd03ec8ad57e122d121a4d8816a0bf95bb524c9f23c43d97", func := "escritoire/escritoirelaw12.FrameAgain", spec := "frameAgain", unfollowed := true, recurses := true, named := ["escritoire/sha.roundWords", "escritoire/wire.buckets"], plainKeys := false, apart := false, laid := [("escritoire/sha.roundWords", laid_escritoire_sha_roundWords), ("escritoire/wire.buckets", laid_escritoire_wire_buckets)], narrowed := true }
def FrameAgainUptoSaid : Prop := frameAgainUptoRow.holds Tryz.pinned (OpenSpec.upto frameAgainSpec)

/-- 'escritoiretop.TopSums', WHERE WHAT IT READS IS OF BULK AT MOST 1048576: true; the input reads as it did. -/
def topSumsUptoRow : OpenClaim := { program := "ytfainlfiphdaeaagreatdoor", sum := "0c16f7630530c9acbd03ec8ad57e122d121a4d8816a0bf95bb524c9f23c43d97", func := "escritoire/escritoiretop.TopSums", spec := "topSums", unfollowed := true, recurses := true, named := ["escritoire/sha.roundWords", "escritoire/wire.buckets"], plainKeys := false, apart := false, laid := [("escritoire/sha.roundWords", laid_escritoire_sha_roundWords), ("escritoire/wire.buckets", laid_escritoire_wire_buckets)], narrowed := true }
def TopSumsUptoSaid : Prop := topSumsUptoRow.holds Tryz.pinned (OpenSpec.upto topSumsSpec)

/-- 'escritoiretop.TopHanded', WHERE WHAT IT READS IS OF BULK AT MOST 1048576: true; the input reads as it did. -/
def topHandedUptoRow : OpenClaim := { program := "ytfainlfiphdaeaagreatdoor", sum := "0c16f7630530c9acbd03ec8ad57e122d121a4d8816a0bf95bb524c9f23c43d97", func := "escritoire/escritoiretop.TopHanded", spec := "topHanded", unfollowed := true, recurses := true, named := ["escritoire/sha.roundWords", "escritoire/wire.buckets"], plainKeys := false, apart := false, laid := [("escritoire/sha.roundWords", laid_escritoire_sha_roundWords), ("escritoire/wire.buckets", laid_escritoire_wire_buckets)], narrowed := true }
def TopHandedUptoSaid : Prop := topHandedUptoRow.holds Tryz.pinned (OpenSpec.upto topHandedSpec)

/-- 'escritoirelaw11.KeysPlays', WHERE WHAT IT READS IS OF BULK AT MOST 1048576: true; the input reads as it did. -/
def keysPlaysUptoRow : OpenClaim := { program := "ytfainlfiphdaeaagreatdoor", sum := "0c16f7630530c9acbd03ec8ad57e122d121a4d8816a0bf95bb524c9f23c43d97", func := "escritoire/escritoirelaw11.KeysPlays", spec := "keysPlays", unfollowed := true, recurses := true, named := ["escritoire/sha.roundWords"], plainKeys := false, apart := false, laid := [("escritoire/sha.roundWords", laid_escritoire_sha_roundWords)], narrowed := true }
def KeysPlaysUptoSaid : Prop := keysPlaysUptoRow.holds Tryz.pinned (OpenSpec.upto keysPlaysSpec)

/-- 'escritoirelaw11.KeysForks', WHERE WHAT IT READS IS OF BULK AT MOST 1048576: true; the input reads as it did. -/
def keysForksUptoRow : OpenClaim := { program := "ytfainlfiphdaeaagreatdoor", sum := "0c16f7630530c9acbd03ec8ad57e122d121a4d8816a0bf95bb524c9f23c43d97", func := "escritoire/escritoirelaw11.KeysForks", spec := "keysForks", inPlace := ["maps.clone"], unfollowed := true, recurses := true, named := ["escritoire/sha.roundWords"], plainKeys := false, apart := false, laid := [("escritoire/sha.roundWords", laid_escritoire_sha_roundWords)], narrowed := true }
def KeysForksUptoSaid : Prop := keysForksUptoRow.holds Tryz.pinned (OpenSpec.upto keysForksSpec)

end Rows
end Go.Proofs.YtfainlfiphdaeaaGreatDoor
