/-
  No cell of these rows narrows 'for every input' (looked for: loops, veiled, ifaces, maps, wideKeys, modest, calm, conditions, laid).
  DERIVED. THE GIVEN ROWS OF THIS SEAT. 8 by the template 'for every input the law returns true; each argument reads behind the call as it read before'; 0 by the template 'total and deterministic' (their statements: YtmbdohnmbkpfaaaGreatTotals.lean).
  GIVEN WITH THE SEED: the statements are not yours to turn. If you find one false, say at which input.
  Laid BY PROGRAM, IN A SANDBOX (cutbox-rows.mjs): the forced cells as the released guide's own fill.sh prints them over the translation 4d3e2a807b1e765f… (all of the seat's roots in one cut). By AI agents, Wed Nov 11 2026. No macro, syntax, notation, axiom, sorry.
-/
import Derived.Test.YtmbdohnmbkpfaaaGreatChecked
import GoSem.Claim
import GoSem.ClaimJoined
import GoSem.ClaimMapViews
import Derived.JoinedTies
import Derived.KernelRfl
namespace Go.Proofs.YtmbdohnmbkpfaaaGreat
/- THE CELL 'sum', in the pinned program and in every row, IS THE sha256 OF THE DUMP (.gsa) THAT YtmbdohnmbkpfaaaGreatProg.lean LOADS. Nothing in Lean hashes anything: it is a label: what it is worth is what the hold of that sum in a sandbox is worth. -/
noncomputable def Tryz.pinned : Pinned := { name := "ytmbdohnmbkpfaaagreat", sum := "4d3e2a807b1e765f92a23e0e4da63f25bbdef71ab5f1f3b865d8887ab07d6a16", checked := Tryz.checked }
namespace Rows
def none {H : Type} : Left H := { results := [], args := [] }

/-- 'escritoirelaw10.DocPlays': WHATEVER THE INPUT: true; the input reads as it did. -/
def docPlaysSpec : ChangeSpec := { name := "docPlays", fn := fun _ => fun
  | [d] => { results := [.lit (.bool true)], args := [d] }
  | _ => none }
def docPlaysRow : OpenClaim := { program := "ytmbdohnmbkpfaaagreat", sum := "4d3e2a807b1e765f92a23e0e4da63f25bbdef71ab5f1f3b865d8887ab07d6a16", func := "escritoire/escritoirelaw10.DocPlays", spec := "docPlays", inPlace := ["slices.overlaps[escritoire/api.Dot]"], unfollowed := true, recurses := true, plainKeys := false, apart := false }
def DocPlaysSaid : Prop := docPlaysRow.holds Tryz.pinned (OpenSpec.ofChange docPlaysSpec)

/-- ITS FALSE NEIGHBOUR: 'it returns false'. Refute it at one input. -/
def docPlaysWrong : ChangeSpec := { name := "docPlays", fn := fun _ => fun
  | [d] => { results := [.lit (.bool false)], args := [d] }
  | _ => none }
def DocPlaysWrongFalsely : Prop := docPlaysRow.holds Tryz.pinned (OpenSpec.ofChange docPlaysWrong)

/-- 'escritoirelaw10.DocTurns': WHATEVER THE INPUT: true; the input reads as it did. -/
def docTurnsSpec : ChangeSpec := { name := "docTurns", fn := fun _ => fun
  | [d1, d2] => { results := [.lit (.bool true)], args := [d1, d2] }
  | _ => none }
def docTurnsRow : OpenClaim := { program := "ytmbdohnmbkpfaaagreat", sum := "4d3e2a807b1e765f92a23e0e4da63f25bbdef71ab5f1f3b865d8887ab07d6a16", func := "escritoire/escritoirelaw10.DocTurns", spec := "docTurns", inPlace := ["slices.overlaps[escritoire/api.Dot]"], unfollowed := true, recurses := true, plainKeys := false, apart := false }
def DocTurnsSaid : Prop := docTurnsRow.holds Tryz.pinned (OpenSpec.ofChange docTurnsSpec)

/-- ITS FALSE NEIGHBOUR: 'it returns false'. Refute it at one input. -/
def docTurnsWrong : ChangeSpec := { name := "docTurns", fn := fun _ => fun
  | [d1, d2] => { results := [.lit (.bool false)], args := [d1, d2] }
  | _ => none }
def DocTurnsWrongFalsely : Prop := docTurnsRow.holds Tryz.pinned (OpenSpec.ofChange docTurnsWrong)

/-- 'escritoirelaw10.DocForce': WHATEVER THE INPUT: true; the input reads as it did. -/
def docForceSpec : ChangeSpec := { name := "docForce", fn := fun _ => fun
  | [d] => { results := [.lit (.bool true)], args := [d] }
  | _ => none }
def docForceRow : OpenClaim := { program := "ytmbdohnmbkpfaaagreat", sum := "4d3e2a807b1e765f92a23e0e4da63f25bbdef71ab5f1f3b865d8887ab07d6a16", func := "escritoire/escritoirelaw10.DocForce", spec := "docForce", inPlace := ["slices.overlaps[escritoire/api.Dot]"], unfollowed := true, recurses := true, plainKeys := false, apart := false }
def DocForceSaid : Prop := docForceRow.holds Tryz.pinned (OpenSpec.ofChange docForceSpec)

/-- ITS FALSE NEIGHBOUR: 'it returns false'. Refute it at one input. -/
def docForceWrong : ChangeSpec := { name := "docForce", fn := fun _ => fun
  | [d] => { results := [.lit (.bool false)], args := [d] }
  | _ => none }
def DocForceWrongFalsely : Prop := docForceRow.holds Tryz.pinned (OpenSpec.ofChange docForceWrong)

/-- 'escritoirelaw10.DocWrites': WHATEVER THE INPUT: true; the input reads as it did. -/
def docWritesSpec : ChangeSpec := { name := "docWrites", fn := fun _ => fun
  | [d1, d2] => { results := [.lit (.bool true)], args := [d1, d2] }
  | _ => none }
def docWritesRow : OpenClaim := { program := "ytmbdohnmbkpfaaagreat", sum := "4d3e2a807b1e765f92a23e0e4da63f25bbdef71ab5f1f3b865d8887ab07d6a16", func := "escritoire/escritoirelaw10.DocWrites", spec := "docWrites", inPlace := ["slices.overlaps[escritoire/api.Dot]"], unfollowed := true, recurses := true, plainKeys := false, apart := false }
def DocWritesSaid : Prop := docWritesRow.holds Tryz.pinned (OpenSpec.ofChange docWritesSpec)

/-- ITS FALSE NEIGHBOUR: 'it returns false'. Refute it at one input. -/
def docWritesWrong : ChangeSpec := { name := "docWrites", fn := fun _ => fun
  | [d1, d2] => { results := [.lit (.bool false)], args := [d1, d2] }
  | _ => none }
def DocWritesWrongFalsely : Prop := docWritesRow.holds Tryz.pinned (OpenSpec.ofChange docWritesWrong)

/-- 'escritoirelaw10.DocTells': WHATEVER THE INPUT: true; the input reads as it did. -/
def docTellsSpec : ChangeSpec := { name := "docTells", fn := fun _ => fun
  | [d1, d2] => { results := [.lit (.bool true)], args := [d1, d2] }
  | _ => none }
def docTellsRow : OpenClaim := { program := "ytmbdohnmbkpfaaagreat", sum := "4d3e2a807b1e765f92a23e0e4da63f25bbdef71ab5f1f3b865d8887ab07d6a16", func := "escritoire/escritoirelaw10.DocTells", spec := "docTells", inPlace := ["slices.overlaps[escritoire/api.Dot]", "maps.clone"], unfollowed := true, recurses := true, plainKeys := false, apart := false }
def DocTellsSaid : Prop := docTellsRow.holds Tryz.pinned (OpenSpec.ofChange docTellsSpec)

/-- ITS FALSE NEIGHBOUR: 'it returns false'. Refute it at one input. -/
def docTellsWrong : ChangeSpec := { name := "docTells", fn := fun _ => fun
  | [d1, d2] => { results := [.lit (.bool false)], args := [d1, d2] }
  | _ => none }
def DocTellsWrongFalsely : Prop := docTellsRow.holds Tryz.pinned (OpenSpec.ofChange docTellsWrong)

/-- 'escritoirelaw10.DocRoles': WHATEVER THE INPUT: true; the input reads as it did. -/
def docRolesSpec : ChangeSpec := { name := "docRoles", fn := fun _ => fun
  | [d1, d2] => { results := [.lit (.bool true)], args := [d1, d2] }
  | _ => none }
def docRolesRow : OpenClaim := { program := "ytmbdohnmbkpfaaagreat", sum := "4d3e2a807b1e765f92a23e0e4da63f25bbdef71ab5f1f3b865d8887ab07d6a16", func := "escritoire/escritoirelaw10.DocRoles", spec := "docRoles", inPlace := ["slices.overlaps[escritoire/api.Dot]"], unfollowed := true, recurses := true, plainKeys := false, apart := false }
def DocRolesSaid : Prop := docRolesRow.holds Tryz.pinned (OpenSpec.ofChange docRolesSpec)

/-- ITS FALSE NEIGHBOUR: 'it returns false'. Refute it at one input. -/
def docRolesWrong : ChangeSpec := { name := "docRoles", fn := fun _ => fun
  | [d1, d2] => { results := [.lit (.bool false)], args := [d1, d2] }
  | _ => none }
def DocRolesWrongFalsely : Prop := docRolesRow.holds Tryz.pinned (OpenSpec.ofChange docRolesWrong)

/-- 'escritoirelaw10.DocGaps': WHATEVER THE INPUT: true; the input reads as it did. -/
def docGapsSpec : ChangeSpec := { name := "docGaps", fn := fun _ => fun
  | [d1, d2] => { results := [.lit (.bool true)], args := [d1, d2] }
  | _ => none }
def docGapsRow : OpenClaim := { program := "ytmbdohnmbkpfaaagreat", sum := "4d3e2a807b1e765f92a23e0e4da63f25bbdef71ab5f1f3b865d8887ab07d6a16", func := "escritoire/escritoirelaw10.DocGaps", spec := "docGaps", inPlace := ["slices.overlaps[escritoire/api.Dot]"], unfollowed := true, recurses := true, plainKeys := false, apart := false }
def DocGapsSaid : Prop := docGapsRow.holds Tryz.pinned (OpenSpec.ofChange docGapsSpec)

/-- ITS FALSE NEIGHBOUR: 'it returns false'. Refute it at one input. -/
def docGapsWrong : ChangeSpec := { name := "docGaps", fn := fun _ => fun
  | [d1, d2] => { results := [.lit (.bool false)], args := [d1, d2] }
  | _ => none }
def DocGapsWrongFalsely : Prop := docGapsRow.holds Tryz.pinned (OpenSpec.ofChange docGapsWrong)

/-- 'escritoirelaw10.DocForks': WHATEVER THE INPUT: true; the input reads as it did. -/
def docForksSpec : ChangeSpec := { name := "docForks", fn := fun _ => fun
  | [d1, d2] => { results := [.lit (.bool true)], args := [d1, d2] }
  | _ => none }
def docForksRow : OpenClaim := { program := "ytmbdohnmbkpfaaagreat", sum := "4d3e2a807b1e765f92a23e0e4da63f25bbdef71ab5f1f3b865d8887ab07d6a16", func := "escritoire/escritoirelaw10.DocForks", spec := "docForks", inPlace := ["slices.overlaps[escritoire/api.Dot]", "maps.clone"], unfollowed := true, recurses := true, plainKeys := false, apart := false }
def DocForksSaid : Prop := docForksRow.holds Tryz.pinned (OpenSpec.ofChange docForksSpec)

/-- ITS FALSE NEIGHBOUR: 'it returns false'. Refute it at one input. -/
def docForksWrong : ChangeSpec := { name := "docForks", fn := fun _ => fun
  | [d1, d2] => { results := [.lit (.bool false)], args := [d1, d2] }
  | _ => none }
def DocForksWrongFalsely : Prop := docForksRow.holds Tryz.pinned (OpenSpec.ofChange docForksWrong)

/- THE SECOND FORM. 'bulk': how many values and letters a reading holds, each counted each time it is reached (what is shared counts as often as it is met; a slice's spare places count too). A statement '..UptoSaid' is the law's where the arguments, and the package variables that the reading takes, are together of bulk at most 1048576: NARROWER than '..Said'. Prove '..Said' where nothing that the law and all that it calls make is longer than what came in: it says more and counts as full. Else prove '..UptoSaid'. A law counts once. -/
mutual
def uptoBulk {H : Type} : DataW H → Nat
  | .lit (.string bytes) => bytes.length + 1
  | .lit _ => 1
  | .nil => 1
  | .ptr d => uptoBulk d + 1
  | .slice elems spare => uptoBulkAll elems + uptoBulkAll spare + 1
  | .agg parts => uptoBulkAll parts + 1
  | .iface _ d => uptoBulk d + 1
  | .map entries => uptoBulkEntries entries + 1
  | .held _ => 1
def uptoBulkAll {H : Type} : List (DataW H) → Nat
  | [] => 0
  | d :: r => uptoBulk d + uptoBulkAll r
def uptoBulkEntries {H : Type} : List (Lit × DataW H) → Nat
  | [] => 0
  | x :: r => uptoBulkEntry x + uptoBulkEntries r
def uptoBulkEntry {H : Type} : Lit × DataW H → Nat
  | (.string bytes, d) => bytes.length + uptoBulk d + 1
  | (_, d) => uptoBulk d + 1
 end
def uptoSmall : (H : Type) → List (DataW H) → Bool := fun _ ds => decide (uptoBulkAll ds ≤ 1048576)
def OpenSpec.upto (s : _root_.Go.ChangeSpec) : _root_.Go.OpenSpec := { _root_.Go.OpenSpec.ofChange s with cond := some uptoSmall }

/-- 'escritoirelaw10.DocPlays', WHERE WHAT IT READS IS OF BULK AT MOST 1048576: true; the input reads as it did. -/
def docPlaysUptoRow : OpenClaim := { program := "ytmbdohnmbkpfaaagreat", sum := "4d3e2a807b1e765f92a23e0e4da63f25bbdef71ab5f1f3b865d8887ab07d6a16", func := "escritoire/escritoirelaw10.DocPlays", spec := "docPlays", inPlace := ["slices.overlaps[escritoire/api.Dot]"], unfollowed := true, recurses := true, plainKeys := false, apart := false, narrowed := true }
def DocPlaysUptoSaid : Prop := docPlaysUptoRow.holds Tryz.pinned (OpenSpec.upto docPlaysSpec)

/-- 'escritoirelaw10.DocTurns', WHERE WHAT IT READS IS OF BULK AT MOST 1048576: true; the input reads as it did. -/
def docTurnsUptoRow : OpenClaim := { program := "ytmbdohnmbkpfaaagreat", sum := "4d3e2a807b1e765f92a23e0e4da63f25bbdef71ab5f1f3b865d8887ab07d6a16", func := "escritoire/escritoirelaw10.DocTurns", spec := "docTurns", inPlace := ["slices.overlaps[escritoire/api.Dot]"], unfollowed := true, recurses := true, plainKeys := false, apart := false, narrowed := true }
def DocTurnsUptoSaid : Prop := docTurnsUptoRow.holds Tryz.pinned (OpenSpec.upto docTurnsSpec)

/-- 'escritoirelaw10.DocForce', WHERE WHAT IT READS IS OF BULK AT MOST 1048576: true; the input reads as it did. -/
def docForceUptoRow : OpenClaim := { program := "ytmbdohnmbkpfaaagreat", sum := "4d3e2a807b1e765f92a23e0e4da63f25bbdef71ab5f1f3b865d8887ab07d6a16", func := "escritoire/escritoirelaw10.DocForce", spec := "docForce", inPlace := ["slices.overlaps[escritoire/api.Dot]"], unfollowed := true, recurses := true, plainKeys := false, apart := false, narrowed := true }
def DocForceUptoSaid : Prop := docForceUptoRow.holds Tryz.pinned (OpenSpec.upto docForceSpec)

/-- 'escritoirelaw10.DocWrites', WHERE WHAT IT READS IS OF BULK AT MOST 1048576: true; the input reads as it did. -/
def docWritesUptoRow : OpenClaim := { program := "ytmbdohnmbkpfaaagreat", sum := "4d3e2a807b1e765f92a23e0e4da63f25bbdef71ab5f1f3b865d8887ab07d6a16", func := "escritoire/escritoirelaw10.DocWrites", spec := "docWrites", inPlace := ["slices.overlaps[escritoire/api.Dot]"], unfollowed := true, recurses := true, plainKeys := false, apart := false, narrowed := true }
def DocWritesUptoSaid : Prop := docWritesUptoRow.holds Tryz.pinned (OpenSpec.upto docWritesSpec)

/-- 'escritoirelaw10.DocTells', WHERE WHAT IT READS IS OF BULK AT MOST 1048576: true; the input reads as it did. -/
def docTellsUptoRow : OpenClaim := { program := "ytmbdohnmbkpfaaagreat", sum := "4d3e2a807b1e765f92a23e0e4da63f25bbdef71ab5f1f3b865d8887ab07d6a16", func := "escritoire/escritoirelaw10.DocTells", spec := "docTells", inPlace := ["slices.overlaps[escritoire/api.Dot]", "maps.clone"], unfollowed := true, recurses := true, plainKeys := false, apart := false, narrowed := true }
def DocTellsUptoSaid : Prop := docTellsUptoRow.holds Tryz.pinned (OpenSpec.upto docTellsSpec)

/-- 'escritoirelaw10.DocRoles', WHERE WHAT IT READS IS OF BULK AT MOST 1048576: true; the input reads as it did. -/
def docRolesUptoRow : OpenClaim := { program := "ytmbdohnmbkpfaaagreat", sum := "4d3e2a807b1e765f92a23e0e4da63f25bbdef71ab5f1f3b865d8887ab07d6a16", func := "escritoire/escritoirelaw10.DocRoles", spec := "docRoles", inPlace := ["slices.overlaps[escritoire/api.Dot]"], unfollowed := true, recurses := true, plainKeys := false, apart := false, narrowed := true }
def DocRolesUptoSaid : Prop := docRolesUptoRow.holds Tryz.pinned (OpenSpec.upto docRolesSpec)

/-- 'escritoirelaw10.DocGaps', WHERE WHAT IT READS IS OF BULK AT MOST 1048576: true; the input reads as it did. -/
def docGapsUptoRow : OpenClaim := { program := "ytmbdohnmbkpfaaagreat", sum := "4d3e2a807b1e765f92a23e0e4da63f25bbdef71ab5f1f3b865d8887ab07d6a16", func := "escritoire/escritoirelaw10.DocGaps", spec := "docGaps", inPlace := ["slices.overlaps[escritoire/api.Dot]"], unfollowed := true, recurses := true, plainKeys := false, apart := false, narrowed := true }
def DocGapsUptoSaid : Prop := docGapsUptoRow.holds Tryz.pinned (OpenSpec.upto docGapsSpec)

/-- 'escritoirelaw10.DocForks', WHERE WHAT IT READS IS OF BULK AT MOST 1048576: true; the input reads as it did. -/
def docForksUptoRow : OpenClaim := { program := "ytmbdohnmbkpfaaagreat", sum := "4d3e2a807b1e765f92a23e0e4da63f25bbdef71ab5f1f3b865d8887ab07d6a16", func := "escritoire/escritoirelaw10.DocForks", spec := "docForks", inPlace := ["slices.overlaps[escritoire/api.Dot]", "maps.clone"], unfollowed := true, recurses := true, plainKeys := false, apart := false, narrowed := true }
def DocForksUptoSaid : Prop := docForksUptoRow.holds Tryz.pinned (OpenSpec.upto docForksSpec)

end Rows
end Go.Proofs.YtmbdohnmbkpfaaaGreat
