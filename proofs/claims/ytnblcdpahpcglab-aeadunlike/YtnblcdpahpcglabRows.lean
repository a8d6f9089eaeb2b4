/-
  No cell of these rows narrows 'for every input' (looked for: loops, veiled, ifaces, maps, wideKeys, modest, calm, conditions, laid).
  DERIVED. THE GIVEN ROWS OF THIS SEAT. 2 by the template 'for every input the law returns true; each argument reads behind the call as it read before'; 0 by the template 'total and deterministic' (their statements: YtnblcdpahpcglabTotals.lean).
  GIVEN WITH THE SEED: the statements are not yours to turn. If you find one false, say at which input.
  Laid BY PROGRAM, IN A SANDBOX (cutbox-rows.mjs): the forced cells as the released guide's own fill.sh prints them over the translation 7a7d9580deaf9b45… (all of the seat's roots in one cut). By AI agents, Wed Nov 11 2026. No macro, syntax, notation, axiom, sorry.
-/
import Derived.Test.YtnblcdpahpcglabChecked
import GoSem.Claim
import GoSem.ClaimJoined
import GoSem.ClaimMapViews
import Derived.JoinedTies
import Derived.KernelRfl
namespace Go.Proofs.Ytnblcdpahpcglab
/- THE CELL 'sum', in the pinned program and in every row, IS THE sha256 OF THE DUMP (.gsa) THAT YtnblcdpahpcglabProg.lean LOADS. Nothing in Lean hashes anything: it is a label: what it is worth is what the hold of that sum in a sandbox is worth. -/
noncomputable def Try.pinned : Pinned := { name := "ytnblcdpahpcglab", sum := "7a7d9580deaf9b45a668f8b3a40a005cea5ab6da90f51de8979fee4d63fa4455", checked := Try.checked }
namespace Rows
def none {H : Type} : Left H := { results := [], args := [] }

/-- 'escritoirelaw05.AeadShort': WHATEVER THE INPUT: true; the input reads as it did. -/
def aeadShortSpec : ChangeSpec := { name := "aeadShort", fn := fun _ => fun
  | [d1, d2] => { results := [.lit (.bool true)], args := [d1, d2] }
  | _ => none }
def aeadShortRow : OpenClaim := { program := "ytnblcdpahpcglab", sum := "7a7d9580deaf9b45a668f8b3a40a005cea5ab6da90f51de8979fee4d63fa4455", func := "escritoire/escritoirelaw05.AeadShort", spec := "aeadShort", unfollowed := true, recurses := true, apart := false }
def AeadShortSaid : Prop := aeadShortRow.holds Try.pinned (OpenSpec.ofChange aeadShortSpec)

/-- ITS FALSE NEIGHBOUR: 'it returns false'. Refute it at one input. -/
def aeadShortWrong : ChangeSpec := { name := "aeadShort", fn := fun _ => fun
  | [d1, d2] => { results := [.lit (.bool false)], args := [d1, d2] }
  | _ => none }
def AeadShortWrongFalsely : Prop := aeadShortRow.holds Try.pinned (OpenSpec.ofChange aeadShortWrong)

/-- 'escritoirelaw05.AeadUnlike': WHATEVER THE INPUT: true; the input reads as it did. -/
def aeadUnlikeSpec : ChangeSpec := { name := "aeadUnlike", fn := fun _ => fun
  | [d1, d2] => { results := [.lit (.bool true)], args := [d1, d2] }
  | _ => none }
def aeadUnlikeRow : OpenClaim := { program := "ytnblcdpahpcglab", sum := "7a7d9580deaf9b45a668f8b3a40a005cea5ab6da90f51de8979fee4d63fa4455", func := "escritoire/escritoirelaw05.AeadUnlike", spec := "aeadUnlike", unfollowed := true, recurses := true, apart := false }
def AeadUnlikeSaid : Prop := aeadUnlikeRow.holds Try.pinned (OpenSpec.ofChange aeadUnlikeSpec)

/-- ITS FALSE NEIGHBOUR: 'it returns false'. Refute it at one input. -/
def aeadUnlikeWrong : ChangeSpec := { name := "aeadUnlike", fn := fun _ => fun
  | [d1, d2] => { results := [.lit (.bool false)], args := [d1, d2] }
  | _ => none }
def AeadUnlikeWrongFalsely : Prop := aeadUnlikeRow.holds Try.pinned (OpenSpec.ofChange aeadUnlikeWrong)

/- THE SECOND FORM. 'bulk': how many values and letters a reading holds, each counted each time it is reached (what is shared counts as often as it is met; a slice's spare places count too). A statement '..UptoSaid' is the law's where the arguments, and the package variables that the reading takes, are together of bulk at most 1048576: NARROWER than '..Said'. Prove '..Said' where nothing that the law and all that it calls make is longer than what came in: it says more and counts as full. Else prove '..UptoSaid'. A law counts once. -/
mutual
def uptoBulk {H : Type} : DataW H → Nat
  | .lit (.string bytes) => bytes.length + 1
  | .lit _ => 1
  | .nil => 1
  | .ptr d => uptoBulk d + 1
  | .slice elems spare => uptoBulkAll elems + uptoBulkAll spare + 1
  | .agg parts => uptoBulkAll parts + 1
  | .iface _ d => uptoBulk d + 1
  | .map entries => uptoBulkEntries entries + 1
  | .held _ => 1
def uptoBulkAll {H : Type} : List (DataW H) → Nat
  | [] => 0
  | d :: r => uptoBulk d + uptoBulkAll r
def uptoBulkEntries {H : Type} : List (Lit × DataW H) → Nat
  | [] => 0
  | x :: r => uptoBulkEntry x + uptoBulkEntries r
def uptoBulkEntry {H : Type} : Lit × DataW H → Nat
  | (.string bytes, d) => bytes.length + uptoBulk d + 1
  | (_, d) => uptoBulk d + 1
 end
def uptoSmall : (H : Type) → List (DataW H) → Bool := fun _ ds => decide (uptoBulkAll ds ≤ 1048576)
def OpenSpec.upto (s : _root_.Go.ChangeSpec) : _root_.Go.OpenSpec := { _root_.Go.OpenSpec.ofChange s with cond := some uptoSmall }

/-- 'escritoirelaw05.AeadShort', WHERE WHAT IT READS IS OF BULK AT MOST 1048576: true; the input reads as it did. -/
def aeadShortUptoRow : OpenClaim := { program := "ytnblcdpahpcglab", sum := "7a7d9580deaf9b45a668f8b3a40a005cea5ab6da90f51de8979fee4d63fa4455", func := "escritoire/escritoirelaw05.AeadShort", spec := "aeadShort", unfollowed := true, recurses := true, apart := false, narrowed := true }
def AeadShortUptoSaid : Prop := aeadShortUptoRow.holds Try.pinned (OpenSpec.upto aeadShortSpec)

/-- 'escritoirelaw05.AeadUnlike', WHERE WHAT IT READS IS OF BULK AT MOST 1048576: true; the input reads as it did. -/
def aeadUnlikeUptoRow : OpenClaim := { program := "ytnblcdpahpcglab", sum := "7a7d9580deaf9b45a668f8b3a40a005cea5ab6da90f51de8979fee4d63fa4455", func := "escritoire/escritoirelaw05.AeadUnlike", spec := "aeadUnlike", unfollowed := true, recurses := true, apart := false, narrowed := true }
def AeadUnlikeUptoSaid : Prop := aeadUnlikeUptoRow.holds Try.pinned (OpenSpec.upto aeadUnlikeSpec)

end Rows
end Go.Proofs.Ytnblcdpahpcglab
