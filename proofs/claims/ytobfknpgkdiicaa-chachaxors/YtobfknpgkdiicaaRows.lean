/-
  No cell of these rows narrows 'for every input' (looked for: loops, veiled, ifaces, maps, wideKeys, modest, calm, conditions, laid).
  DERIVED. THE GIVEN ROWS OF THIS SEAT. 6 by the template 'for every input the law returns true; each argument reads behind the call as it read before'; 0 by the template 'total and deterministic' (their statements: YtobfknpgkdiicaaTotals.lean).
  GIVEN WITH THE SEED: the statements are not yours to turn. If you find one false, say at which input.
  Laid BY PROGRAM, IN A SANDBOX (cutbox-rows.mjs): the forced cells as the released guide's own fill.sh prints them over the translation b9d1f63c1acc3fee… (all of the seat's roots in one cut). By AI agents, Wed Nov 11 2026. No macro, syntax, notation, axiom, sorry.
-/
import Derived.Test.YtobfknpgkdiicaaChecked
import GoSem.Claim
import GoSem.ClaimJoined
import GoSem.ClaimMapViews
import Derived.JoinedTies
import Derived.KernelRfl
namespace Go.Proofs.Ytobfknpgkdiicaa
/- THE CELL 'sum', in the pinned program and in every row, IS THE sha256 OF THE DUMP (.gsa) THAT YtobfknpgkdiicaaProg.lean LOADS. Nothing in Lean hashes anything: it is a label: what it is worth is what the hold of that sum in a sandbox is worth. -/
noncomputable def Try.pinned : Pinned := { name := "ytobfknpgkdiicaa", sum := "b9d1f63c1acc3fee7f9351a7843468d10dd9e3ccfff683368a2da93974688013", checked := Try.checked }
namespace Rows
def none {H : Type} : Left H := { results := [], args := [] }

/-- 'escritoirelaw03.ChachaQuarters': WHATEVER THE INPUT: true; the input reads as it did. -/
def chachaQuartersSpec : ChangeSpec := { name := "chachaQuarters", fn := fun _ => fun
  | [d] => { results := [.lit (.bool true)], args := [d] }
  | _ => none }
def chachaQuartersRow : OpenClaim := { program := "ytobfknpgkdiicaa", sum := "b9d1f63c1acc3fee7f9351a7843468d10dd9e3ccfff683368a2da93974688013", func := "escritoire/escritoirelaw03.ChachaQuarters", spec := "chachaQuarters", apart := false }
def ChachaQuartersSaid : Prop := chachaQuartersRow.holds Try.pinned (OpenSpec.ofChange chachaQuartersSpec)

/-- ITS FALSE NEIGHBOUR: 'it returns false'. Refute it at one input. -/
def chachaQuartersWrong : ChangeSpec := { name := "chachaQuarters", fn := fun _ => fun
  | [d] => { results := [.lit (.bool false)], args := [d] }
  | _ => none }
def ChachaQuartersWrongFalsely : Prop := chachaQuartersRow.holds Try.pinned (OpenSpec.ofChange chachaQuartersWrong)

/-- 'escritoirelaw03.ChachaUndo': WHATEVER THE INPUT: true; the input reads as it did. -/
def chachaUndoSpec : ChangeSpec := { name := "chachaUndo", fn := fun _ => fun
  | [d] => { results := [.lit (.bool true)], args := [d] }
  | _ => none }
def chachaUndoRow : OpenClaim := { program := "ytobfknpgkdiicaa", sum := "b9d1f63c1acc3fee7f9351a7843468d10dd9e3ccfff683368a2da93974688013", func := "escritoire/escritoirelaw03.ChachaUndo", spec := "chachaUndo", apart := false }
def ChachaUndoSaid : Prop := chachaUndoRow.holds Try.pinned (OpenSpec.ofChange chachaUndoSpec)

/-- ITS FALSE NEIGHBOUR: 'it returns false'. Refute it at one input. -/
def chachaUndoWrong : ChangeSpec := { name := "chachaUndo", fn := fun _ => fun
  | [d] => { results := [.lit (.bool false)], args := [d] }
  | _ => none }
def ChachaUndoWrongFalsely : Prop := chachaUndoRow.holds Try.pinned (OpenSpec.ofChange chachaUndoWrong)

/-- 'escritoirelaw03.ChachaBlocks': WHATEVER THE INPUT: true; the input reads as it did. -/
def chachaBlocksSpec : ChangeSpec := { name := "chachaBlocks", fn := fun _ => fun
  | [d1, d2, d3] => { results := [.lit (.bool true)], args := [d1, d2, d3] }
  | _ => none }
def chachaBlocksRow : OpenClaim := { program := "ytobfknpgkdiicaa", sum := "b9d1f63c1acc3fee7f9351a7843468d10dd9e3ccfff683368a2da93974688013", func := "escritoire/escritoirelaw03.ChachaBlocks", spec := "chachaBlocks", apart := false }
def ChachaBlocksSaid : Prop := chachaBlocksRow.holds Try.pinned (OpenSpec.ofChange chachaBlocksSpec)

/-- ITS FALSE NEIGHBOUR: 'it returns false'. Refute it at one input. -/
def chachaBlocksWrong : ChangeSpec := { name := "chachaBlocks", fn := fun _ => fun
  | [d1, d2, d3] => { results := [.lit (.bool false)], args := [d1, d2, d3] }
  | _ => none }
def ChachaBlocksWrongFalsely : Prop := chachaBlocksRow.holds Try.pinned (OpenSpec.ofChange chachaBlocksWrong)

/-- 'escritoirelaw03.ChachaXors': WHATEVER THE INPUT: true; the input reads as it did. -/
def chachaXorsSpec : ChangeSpec := { name := "chachaXors", fn := fun _ => fun
  | [d1, d2] => { results := [.lit (.bool true)], args := [d1, d2] }
  | _ => none }
def chachaXorsRow : OpenClaim := { program := "ytobfknpgkdiicaa", sum := "b9d1f63c1acc3fee7f9351a7843468d10dd9e3ccfff683368a2da93974688013", func := "escritoire/escritoirelaw03.ChachaXors", spec := "chachaXors", apart := false }
def ChachaXorsSaid : Prop := chachaXorsRow.holds Try.pinned (OpenSpec.ofChange chachaXorsSpec)

/-- ITS FALSE NEIGHBOUR: 'it returns false'. Refute it at one input. -/
def chachaXorsWrong : ChangeSpec := { name := "chachaXors", fn := fun _ => fun
  | [d1, d2] => { results := [.lit (.bool false)], args := [d1, d2] }
  | _ => none }
def ChachaXorsWrongFalsely : Prop := chachaXorsRow.holds Try.pinned (OpenSpec.ofChange chachaXorsWrong)

/-- 'escritoirelaw03.ChachaTwice': WHATEVER THE INPUT: true; the input reads as it did. -/
def chachaTwiceSpec : ChangeSpec := { name := "chachaTwice", fn := fun _ => fun
  | [d1, d2] => { results := [.lit (.bool true)], args := [d1, d2] }
  | _ => none }
def chachaTwiceRow : OpenClaim := { program := "ytobfknpgkdiicaa", sum := "b9d1f63c1acc3fee7f9351a7843468d10dd9e3ccfff683368a2da93974688013", func := "escritoire/escritoirelaw03.ChachaTwice", spec := "chachaTwice", apart := false }
def ChachaTwiceSaid : Prop := chachaTwiceRow.holds Try.pinned (OpenSpec.ofChange chachaTwiceSpec)

/-- ITS FALSE NEIGHBOUR: 'it returns false'. Refute it at one input. -/
def chachaTwiceWrong : ChangeSpec := { name := "chachaTwice", fn := fun _ => fun
  | [d1, d2] => { results := [.lit (.bool false)], args := [d1, d2] }
  | _ => none }
def ChachaTwiceWrongFalsely : Prop := chachaTwiceRow.holds Try.pinned (OpenSpec.ofChange chachaTwiceWrong)

/-- 'escritoirelaw03.ChachaJoins': WHATEVER THE INPUT: true; the input reads as it did. -/
def chachaJoinsSpec : ChangeSpec := { name := "chachaJoins", fn := fun _ => fun
  | [d1, d2, d3] => { results := [.lit (.bool true)], args := [d1, d2, d3] }
  | _ => none }
def chachaJoinsRow : OpenClaim := { program := "ytobfknpgkdiicaa", sum := "b9d1f63c1acc3fee7f9351a7843468d10dd9e3ccfff683368a2da93974688013", func := "escritoire/escritoirelaw03.ChachaJoins", spec := "chachaJoins", apart := false }
def ChachaJoinsSaid : Prop := chachaJoinsRow.holds Try.pinned (OpenSpec.ofChange chachaJoinsSpec)

/-- ITS FALSE NEIGHBOUR: 'it returns false'. Refute it at one input. -/
def chachaJoinsWrong : ChangeSpec := { name := "chachaJoins", fn := fun _ => fun
  | [d1, d2, d3] => { results := [.lit (.bool false)], args := [d1, d2, d3] }
  | _ => none }
def ChachaJoinsWrongFalsely : Prop := chachaJoinsRow.holds Try.pinned (OpenSpec.ofChange chachaJoinsWrong)

/- THE SECOND FORM. 'bulk': how many values and letters a reading holds, each counted each time it is reached (what is shared counts as often as it is met; a slice's spare places count too). A statement '..UptoSaid' is the law's where the arguments, and the package variables that the reading takes, are together of bulk at most 1048576: NARROWER than '..Said'. Prove '..Said' where nothing that the law and all that it calls make is longer than what came in: it says more and counts as full. Else prove '..UptoSaid'. A law counts once. -/
mutual
def uptoBulk {H : Type} : DataW H → Nat
  | .lit (.string bytes) => bytes.length + 1
  | .lit _ => 1
  | .nil => 1
  | .ptr d => uptoBulk d + 1
  | .slice elems spare => uptoBulkAll elems + uptoBulkAll spare + 1
  | .agg parts => uptoBulkAll parts + 1
  | .iface _ d => uptoBulk d + 1
  | .map entries => uptoBulkEntries entries + 1
  | .held _ => 1
def uptoBulkAll {H : Type} : List (DataW H) → Nat
  | [] => 0
  | d :: r => uptoBulk d + uptoBulkAll r
def uptoBulkEntries {H : Type} : List (Lit × DataW H) → Nat
  | [] => 0
  | x :: r => uptoBulkEntry x + uptoBulkEntries r
def uptoBulkEntry {H : Type} : Lit × DataW H → Nat
  | (.string bytes, d) => bytes.length + uptoBulk d + 1
  | (_, d) => uptoBulk d + 1
 end
def uptoSmall : (H : Type) → List (DataW H) → Bool := fun _ ds => decide (uptoBulkAll ds ≤ 1048576)
def OpenSpec.upto (s : _root_.Go.ChangeSpec) : _root_.Go.OpenSpec := { _root_.Go.OpenSpec.ofChange s with cond := some uptoSmall }

/-- 'escritoirelaw03.ChachaQuarters', WHERE WHAT IT READS IS OF BULK AT MOST 1048576: true; the input reads as it did. -/
def chachaQuartersUptoRow : OpenClaim := { program := "ytobfknpgkdiicaa", sum := "b9d1f63c1acc3fee7f9351a7843468d10dd9e3ccfff683368a2da93974688013", func := "escritoire/escritoirelaw03.ChachaQuarters", spec := "chachaQuarters", apart := false, narrowed := true }
def ChachaQuartersUptoSaid : Prop := chachaQuartersUptoRow.holds Try.pinned (OpenSpec.upto chachaQuartersSpec)

/-- 'escritoirelaw03.ChachaUndo', WHERE WHAT IT READS IS OF BULK AT MOST 1048576: true; the input reads as it did. -/
def chachaUndoUptoRow : OpenClaim := { program := "ytobfknpgkdiicaa", sum := "b9d1f63c1acc3fee7f9351a7843468d10dd9e3ccfff683368a2da93974688013", func := "escritoire/escritoirelaw03.ChachaUndo", spec := "chachaUndo", apart := false, narrowed := true }
def ChachaUndoUptoSaid : Prop := chachaUndoUptoRow.holds Try.pinned (OpenSpec.upto chachaUndoSpec)

/-- 'escritoirelaw03.ChachaBlocks', WHERE WHAT IT READS IS OF BULK AT MOST 1048576: true; the input reads as it did. -/
def chachaBlocksUptoRow : OpenClaim := { program := "ytobfknpgkdiicaa", sum := "b9d1f63c1acc3fee7f9351a7843468d10dd9e3ccfff683368a2da93974688013", func := "escritoire/escritoirelaw03.ChachaBlocks", spec := "chachaBlocks", apart := false, narrowed := true }
def ChachaBlocksUptoSaid : Prop := chachaBlocksUptoRow.holds Try.pinned (OpenSpec.upto chachaBlocksSpec)

/-- 'escritoirelaw03.ChachaXors', WHERE WHAT IT READS IS OF BULK AT MOST 1048576: true; the input reads as it did. -/
def chachaXorsUptoRow : OpenClaim := { program := "ytobfknpgkdiicaa", sum := "b9d1f63c1acc3fee7f9351a7843468d10dd9e3ccfff683368a2da93974688013", func := "escritoire/escritoirelaw03.ChachaXors", spec := "chachaXors", apart := false, narrowed := true }
def ChachaXorsUptoSaid : Prop := chachaXorsUptoRow.holds Try.pinned (OpenSpec.upto chachaXorsSpec)

/-- 'escritoirelaw03.ChachaTwice', WHERE WHAT IT READS IS OF BULK AT MOST 1048576: true; the input reads as it did. -/
def chachaTwiceUptoRow : OpenClaim := { program := "ytobfknpgkdiicaa", sum := "b9d1f63c1acc3fee7f9351a7843468d10dd9e3ccfff683368a2da93974688013", func := "escritoire/escritoirelaw03.ChachaTwice", spec := "chachaTwice", apart := false, narrowed := true }
def ChachaTwiceUptoSaid : Prop := chachaTwiceUptoRow.holds Try.pinned (OpenSpec.upto chachaTwiceSpec)

/-- 'escritoirelaw03.ChachaJoins', WHERE WHAT IT READS IS OF BULK AT MOST 1048576: true; the input reads as it did. -/
def chachaJoinsUptoRow : OpenClaim := { program := "ytobfknpgkdiicaa", sum := "b9d1f63c1acc3fee7f9351a7843468d10dd9e3ccfff683368a2da93974688013", func := "escritoire/escritoirelaw03.ChachaJoins", spec := "chachaJoins", apart := false, narrowed := true }
def ChachaJoinsUptoSaid : Prop := chachaJoinsUptoRow.holds Try.pinned (OpenSpec.upto chachaJoinsSpec)

end Rows
end Go.Proofs.Ytobfknpgkdiicaa
