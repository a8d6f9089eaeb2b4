/-
  NARROWER THAN 'FOR EVERY INPUT', by the rows' own cells (each row's printed sentence says how): KeysPairs: laid · KeysWraps: laid · KeysNonces: laid · KeysFirst: laid · KeysLimits: laid · KeysNone: laid.
  DERIVED. THE GIVEN ROWS OF THIS SEAT. 6 by the template 'for every input the law returns true; each argument reads behind the call as it read before'; 0 by the template 'total and deterministic' (their statements: YtlalcnmcnkompaaDoorTotals.lean).
  GIVEN WITH THE SEED: the statements are not yours to turn. If you find one false, say at which input.
  Laid BY PROGRAM, IN A SANDBOX (cutbox-rows.mjs): the forced cells as the released guide's own fill.sh prints them over the translation 4204e29c8d6f3aaf… (all of the seat's roots in one cut). By AI agents, Wed Nov 11 2026. No macro, syntax, notation, axiom, sorry.
-/
import Derived.Test.YtlalcnmcnkompaaDoorChecked
import GoSem.Claim
import GoSem.ClaimJoined
import GoSem.ClaimMapViews
import Derived.JoinedTies
import Derived.KernelRfl
namespace Go.Proofs.YtlalcnmcnkompaaDoor
/- THE CELL 'sum', in the pinned program and in every row, IS THE sha256 OF THE DUMP (.gsa) THAT YtlalcnmcnkompaaDoorProg.lean LOADS. Nothing in Lean hashes anything: it is a label: what it is worth is what the hold of that sum in a sandbox is worth. -/
noncomputable def Tryd.pinned : Pinned := { name := "ytlalcnmcnkompaadoor", sum := "4204e29c8d6f3aaf8b5a1794723830af5bc7b6f3ef513edcf8a08566461203f4", checked := Tryd.checked }
namespace Rows
def none {H : Type} : Left H := { results := [], args := [] }

/- WHAT THE LISTED PACKAGE-LEVEL VARIABLES READ AS WHEN THE CALL BEGINS. Each datum BY PROGRAM (the guide's laid-datum.mjs) off the statement by which the dump's own 'gosem.cut.vars' lays the variable. In a bare row this is a premise. The card (YtlalcnmcnkompaaDoorCards.lean) ties it to the program's text. -/
def laid_escritoire_sha_roundWords {H : Type} : DataW H := .agg [.lit (.int .u32 1116352408), .lit (.int .u32 1899447441), .lit (.int .u32 3049323471), .lit (.int .u32 3921009573), .lit (.int .u32 961987163), .lit (.int .u32 1508970993), .lit (.int .u32 2453635748), .lit (.int .u32 2870763221), .lit (.int .u32 3624381080), .lit (.int .u32 310598401), .lit (.int .u32 607225278), .lit (.int .u32 1426881987), .lit (.int .u32 1925078388), .lit (.int .u32 2162078206), .lit (.int .u32 2614888103), .lit (.int .u32 3248222580), .lit (.int .u32 3835390401), .lit (.int .u32 4022224774), .lit (.int .u32 264347078), .lit (.int .u32 604807628), .lit (.int .u32 770255983), .lit (.int .u32 1249150122), .lit (.int .u32 1555081692), .lit (.int .u32 1996064986), .lit (.int .u32 2554220882), .lit (.int .u32 2821834349), .lit (.int .u32 2952996808), .lit (.int .u32 3210313671), .lit (.int .u32 3336571891), .lit (.int .u32 3584528711), .lit (.int .u32 113926993), .lit (.int .u32 338241895), .lit (.int .u32 666307205), .lit (.int .u32 773529912), .lit (.int .u32 1294757372), .lit (.int .u32 1396182291), .lit (.int .u32 1695183700), .lit (.int .u32 1986661051), .lit (.int .u32 2177026350), .lit (.int .u32 2456956037), .lit (.int .u32 2730485921), .lit (.int .u32 2820302411), .lit (.int .u32 3259730800), .lit (.int .u32 3345764771), .lit (.int .u32 3516065817), .lit (.int .u32 3600352804), .lit (.int .u32 4094571909), .lit (.int .u32 275423344), .lit (.int .u32 430227734), .lit (.int .u32 506948616), .lit (.int .u32 659060556), .lit (.int .u32 883997877), .lit (.int .u32 958139571), .lit (.int .u32 1322822218), .lit (.int .u32 1537002063), .lit (.int .u32 1747873779), .lit (.int .u32 1955562222), .lit (.int .u32 2024104815), .lit (.int .u32 2227730452), .lit (.int .u32 2361852424), .lit (.int .u32 2428436474), .lit (.int .u32 2756734187), .lit (.int .u32 3204031479), .lit (.int .u32 3329325298)]

/-- 'escritoirelaw11.KeysPairs': WHATEVER THE INPUT: true; the input reads as it did. -/
def keysPairsSpec : ChangeSpec := { name := "keysPairs", fn := fun _ => fun
  | [d1, d2, d3] => { results := [.lit (.bool true)], args := [d1, d2, d3] }
  | _ => none }
def keysPairsRow : OpenClaim := { program := "ytlalcnmcnkompaadoor", sum := "4204e29c8d6f3aaf8b5a1794723830af5bc7b6f3ef513edcf8a08566461203f4", func := "escritoire/escritoirelaw11.KeysPairs", spec := "keysPairs", unfollowed := true, recurses := true, named := ["escritoire/sha.roundWords"], plainKeys := false, apart := false, laid := [("escritoire/sha.roundWords", laid_escritoire_sha_roundWords)] }
def KeysPairsSaid : Prop := keysPairsRow.holds Tryd.pinned (OpenSpec.ofChange keysPairsSpec)

/-- ITS FALSE NEIGHBOUR: 'it returns false'. Refute it at one input. -/
def keysPairsWrong : ChangeSpec := { name := "keysPairs", fn := fun _ => fun
  | [d1, d2, d3] => { results := [.lit (.bool false)], args := [d1, d2, d3] }
  | _ => none }
def KeysPairsWrongFalsely : Prop := keysPairsRow.holds Tryd.pinned (OpenSpec.ofChange keysPairsWrong)

/-- 'escritoirelaw11.KeysWraps': WHATEVER THE INPUT: true; the input reads as it did. -/
def keysWrapsSpec : ChangeSpec := { name := "keysWraps", fn := fun _ => fun
  | [d1, d2, d3] => { results := [.lit (.bool true)], args := [d1, d2, d3] }
  | _ => none }
def keysWrapsRow : OpenClaim := { program := "ytlalcnmcnkompaadoor", sum := "4204e29c8d6f3aaf8b5a1794723830af5bc7b6f3ef513edcf8a08566461203f4", func := "escritoire/escritoirelaw11.KeysWraps", spec := "keysWraps", unfollowed := true, recurses := true, named := ["escritoire/sha.roundWords"], plainKeys := false, apart := false, laid := [("escritoire/sha.roundWords", laid_escritoire_sha_roundWords)] }
def KeysWrapsSaid : Prop := keysWrapsRow.holds Tryd.pinned (OpenSpec.ofChange keysWrapsSpec)

/-- ITS FALSE NEIGHBOUR: 'it returns false'. Refute it at one input. -/
def keysWrapsWrong : ChangeSpec := { name := "keysWraps", fn := fun _ => fun
  | [d1, d2, d3] => { results := [.lit (.bool false)], args := [d1, d2, d3] }
  | _ => none }
def KeysWrapsWrongFalsely : Prop := keysWrapsRow.holds Tryd.pinned (OpenSpec.ofChange keysWrapsWrong)

/-- 'escritoirelaw11.KeysNonces': WHATEVER THE INPUT: true; the input reads as it did. -/
def keysNoncesSpec : ChangeSpec := { name := "keysNonces", fn := fun _ => fun
  | [d1, d2] => { results := [.lit (.bool true)], args := [d1, d2] }
  | _ => none }
def keysNoncesRow : OpenClaim := { program := "ytlalcnmcnkompaadoor", sum := "4204e29c8d6f3aaf8b5a1794723830af5bc7b6f3ef513edcf8a08566461203f4", func := "escritoire/escritoirelaw11.KeysNonces", spec := "keysNonces", unfollowed := true, recurses := true, named := ["escritoire/sha.roundWords"], plainKeys := false, apart := false, laid := [("escritoire/sha.roundWords", laid_escritoire_sha_roundWords)] }
def KeysNoncesSaid : Prop := keysNoncesRow.holds Tryd.pinned (OpenSpec.ofChange keysNoncesSpec)

/-- ITS FALSE NEIGHBOUR: 'it returns false'. Refute it at one input. -/
def keysNoncesWrong : ChangeSpec := { name := "keysNonces", fn := fun _ => fun
  | [d1, d2] => { results := [.lit (.bool false)], args := [d1, d2] }
  | _ => none }
def KeysNoncesWrongFalsely : Prop := keysNoncesRow.holds Tryd.pinned (OpenSpec.ofChange keysNoncesWrong)

/-- 'escritoirelaw11.KeysFirst': WHATEVER THE INPUT: true; the input reads as it did. -/
def keysFirstSpec : ChangeSpec := { name := "keysFirst", fn := fun _ => fun
  | [d1, d2] => { results := [.lit (.bool true)], args := [d1, d2] }
  | _ => none }
def keysFirstRow : OpenClaim := { program := "ytlalcnmcnkompaadoor", sum := "4204e29c8d6f3aaf8b5a1794723830af5bc7b6f3ef513edcf8a08566461203f4", func := "escritoire/escritoirelaw11.KeysFirst", spec := "keysFirst", unfollowed := true, recurses := true, named := ["escritoire/sha.roundWords"], plainKeys := false, apart := false, laid := [("escritoire/sha.roundWords", laid_escritoire_sha_roundWords)] }
def KeysFirstSaid : Prop := keysFirstRow.holds Tryd.pinned (OpenSpec.ofChange keysFirstSpec)

/-- ITS FALSE NEIGHBOUR: 'it returns false'. Refute it at one input. -/
def keysFirstWrong : ChangeSpec := { name := "keysFirst", fn := fun _ => fun
  | [d1, d2] => { results := [.lit (.bool false)], args := [d1, d2] }
  | _ => none }
def KeysFirstWrongFalsely : Prop := keysFirstRow.holds Tryd.pinned (OpenSpec.ofChange keysFirstWrong)

/-- 'escritoirelaw11.KeysLimits': WHATEVER THE INPUT: true; the input reads as it did. -/
def keysLimitsSpec : ChangeSpec := { name := "keysLimits", fn := fun _ => fun
  | [d1, d2, d3] => { results := [.lit (.bool true)], args := [d1, d2, d3] }
  | _ => none }
def keysLimitsRow : OpenClaim := { program := "ytlalcnmcnkompaadoor", sum := "4204e29c8d6f3aaf8b5a1794723830af5bc7b6f3ef513edcf8a08566461203f4", func := "escritoire/escritoirelaw11.KeysLimits", spec := "keysLimits", unfollowed := true, recurses := true, named := ["escritoire/sha.roundWords"], plainKeys := false, apart := false, laid := [("escritoire/sha.roundWords", laid_escritoire_sha_roundWords)] }
def KeysLimitsSaid : Prop := keysLimitsRow.holds Tryd.pinned (OpenSpec.ofChange keysLimitsSpec)

/-- ITS FALSE NEIGHBOUR: 'it returns false'. Refute it at one input. -/
def keysLimitsWrong : ChangeSpec := { name := "keysLimits", fn := fun _ => fun
  | [d1, d2, d3] => { results := [.lit (.bool false)], args := [d1, d2, d3] }
  | _ => none }
def KeysLimitsWrongFalsely : Prop := keysLimitsRow.holds Tryd.pinned (OpenSpec.ofChange keysLimitsWrong)

/-- 'escritoirelaw11.KeysNone': WHATEVER THE INPUT: true; the input reads as it did. -/
def keysNoneSpec : ChangeSpec := { name := "keysNone", fn := fun _ => fun
  | [d] => { results := [.lit (.bool true)], args := [d] }
  | _ => none }
def keysNoneRow : OpenClaim := { program := "ytlalcnmcnkompaadoor", sum := "4204e29c8d6f3aaf8b5a1794723830af5bc7b6f3ef513edcf8a08566461203f4", func := "escritoire/escritoirelaw11.KeysNone", spec := "keysNone", inPlace := ["maps.clone"], unfollowed := true, recurses := true, named := ["escritoire/sha.roundWords"], plainKeys := false, apart := false, laid := [("escritoire/sha.roundWords", laid_escritoire_sha_roundWords)] }
def KeysNoneSaid : Prop := keysNoneRow.holds Tryd.pinned (OpenSpec.ofChange keysNoneSpec)

/-- ITS FALSE NEIGHBOUR: 'it returns false'. Refute it at one input. -/
def keysNoneWrong : ChangeSpec := { name := "keysNone", fn := fun _ => fun
  | [d] => { results := [.lit (.bool false)], args := [d] }
  | _ => none }
def KeysNoneWrongFalsely : Prop := keysNoneRow.holds Tryd.pinned (OpenSpec.ofChange keysNoneWrong)

/- THE SECOND FORM. 'bulk': how many values and letters a reading holds, each counted each time it is reached (what is shared counts as often as it is met; a slice's spare places count too). A statement '..UptoSaid' is the law's where the arguments, and the package variables that the reading takes, are together of bulk at most 1048576: NARROWER than '..Said'. Prove '..Said' where nothing that the law and all that it calls make is longer than what came in: it says more and counts as full. Else prove '..UptoSaid'. A law counts once. -/
mutual
def uptoBulk {H : Type} : DataW H → Nat
  | .lit (.string bytes) => bytes.length + 1
  | .lit _ => 1
  | .nil => 1
  | .ptr d => uptoBulk d + 1
  | .slice elems spare => uptoBulkAll elems + uptoBulkAll spare + 1
  | .agg parts => uptoBulkAll parts + 1
  | .iface _ d => uptoBulk d + 1
  | .map entries => uptoBulkEntries entries + 1
  | .held _ => 1
def uptoBulkAll {H : Type} : List (DataW H) → Nat
  | [] => 0
  | d :: r => uptoBulk d + uptoBulkAll r
def uptoBulkEntries {H : Type} : List (Lit × DataW H) → Nat
  | [] => 0
  | x :: r => uptoBulkEntry x + uptoBulkEntries r
def uptoBulkEntry {H : Type} : Lit × DataW H → Nat
  | (.string bytes, d) => bytes.length + uptoBulk d + 1
  | (_, d) => uptoBulk d + 1
 end
def uptoSmall : (H : Type) → List (DataW H) → Bool := fun _ ds => decide (uptoBulkAll ds ≤ 1048576)
def OpenSpec.upto (s : _root_.Go.ChangeSpec) : _root_.Go.OpenSpec := { _root_.Go.OpenSpec.ofChange s with cond := some uptoSmall }

/-- 'escritoirelaw11.KeysPairs', WHERE WHAT IT READS IS OF BULK AT MOST 1048576: true; the input reads as it did. -/
def keysPairsUptoRow : OpenClaim := { program := "ytlalcnmcnkompaadoor", sum := "4204e29c8d6f3aaf8b5a1794723830af5bc7b6f3ef513edcf8a08566461203f4", func := "escritoire/escritoirelaw11.KeysPairs", spec := "keysPairs", unfollowed := true, recurses := true, named := ["escritoire/sha.roundWords"], plainKeys := false, apart := false, laid := [("escritoire/sha.roundWords", laid_escritoire_sha_roundWords)], narrowed := true }
def KeysPairsUptoSaid : Prop := keysPairsUptoRow.holds Tryd.pinned (OpenSpec.upto keysPairsSpec)

/-- 'escritoirelaw11.KeysWraps', WHERE WHAT IT READS IS OF BULK AT MOST 1048576: true; the input reads as it did. -/
def keysWrapsUptoRow : OpenClaim := { program := "ytlalcnmcnkompaadoor", sum := "4204e29c8d6f3aaf8b5a1794723830af5bc7b6f3ef513edcf8a08566461203f4", func := "escritoire/escritoirelaw11.KeysWraps", spec := "keysWraps", unfollowed := true, recurses := true, named := ["escritoire/sha.roundWords"], plainKeys := false, apart := false, laid := [("escritoire/sha.roundWords", laid_escritoire_sha_roundWords)], narrowed := true }
def KeysWrapsUptoSaid : Prop := keysWrapsUptoRow.holds Tryd.pinned (OpenSpec.upto keysWrapsSpec)

/-- 'escritoirelaw11.KeysNonces', WHERE WHAT IT READS IS OF BULK AT MOST 1048576: true; the input reads as it did. -/
def keysNoncesUptoRow : OpenClaim := { program := "ytlalcnmcnkompaadoor", sum := "4204e29c8d6f3aaf8b5a1794723830af5bc7b6f3ef513edcf8a08566461203f4", func := "escritoire/escritoirelaw11.KeysNonces", spec := "keysNonces", unfollowed := true, recurses := true, named := ["escritoire/sha.roundWords"], plainKeys := false, apart := false, laid := [("escritoire/sha.roundWords", laid_escritoire_sha_roundWords)], narrowed := true }
def KeysNoncesUptoSaid : Prop := keysNoncesUptoRow.holds Tryd.pinned (OpenSpec.upto keysNoncesSpec)

/-- 'escritoirelaw11.KeysFirst', WHERE WHAT IT READS IS OF BULK AT MOST 1048576: true; the input reads as it did. -/
def keysFirstUptoRow : OpenClaim := { program := "ytlalcnmcnkompaadoor", sum := "4204e29c8d6f3aaf8b5a1794723830af5bc7b6f3ef513edcf8a08566461203f4", func := "escritoire/escritoirelaw11.KeysFirst", spec := "keysFirst", unfollowed := true, recurses := true, named := ["escritoire/sha.roundWords"], plainKeys := false, apart := false, laid := [("escritoire/sha.roundWords", laid_escritoire_sha_roundWords)], narrowed := true }
def KeysFirstUptoSaid : Prop := keysFirstUptoRow.holds Tryd.pinned (OpenSpec.upto keysFirstSpec)

/-- 'escritoirelaw11.KeysLimits', WHERE WHAT IT READS IS OF BULK AT MOST 1048576: true; the input reads as it did. -/
def keysLimitsUptoRow : OpenClaim := { program := "ytlalcnmcnkompaadoor", sum := "4204e29c8d6f3aaf8b5a1794723830af5bc7b6f3ef513edcf8a08566461203f4", func := "escritoire/escritoirelaw11.KeysLimits", spec := "keysLimits", unfollowed := true, recurses := true, named := ["escritoire/sha.roundWords"], plainKeys := false, apart := false, laid := [("escritoire/sha.roundWords", laid_escritoire_sha_roundWords)], narrowed := true }
def KeysLimitsUptoSaid : Prop := keysLimitsUptoRow.holds Tryd.pinned (OpenSpec.upto keysLimitsSpec)

/-- 'escritoirelaw11.KeysNone', WHERE WHAT IT READS IS OF BULK AT MOST 1048576: true; the input reads as it did. -/
def keysNoneUptoRow : OpenClaim := { program := "ytlalcnmcnkompaadoor", sum := "4204e29c8d6f3aaf8b5a1794723830af5bc7b6f3ef513edcf8a08566461203f4", func := "escritoire/escritoirelaw11.KeysNone", spec := "keysNone", inPlace := ["maps.clone"], unfollowed := true, recurses := true, named := ["escritoire/sha.roundWords"], plainKeys := false, apart := false, laid := [("escritoire/sha.roundWords", laid_escritoire_sha_roundWords)], narrowed := true }
def KeysNoneUptoSaid : Prop := keysNoneUptoRow.holds Tryd.pinned (OpenSpec.upto keysNoneSpec)

end Rows
end Go.Proofs.YtlalcnmcnkompaaDoor
