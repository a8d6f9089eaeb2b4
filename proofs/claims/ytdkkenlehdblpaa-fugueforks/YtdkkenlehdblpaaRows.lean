/-
  No cell of these rows narrows 'for every input' (looked for: loops, veiled, ifaces, maps, wideKeys, modest, calm, conditions, laid).
  DERIVED. THE GIVEN ROWS OF THIS SEAT. 8 by the template 'for every input the law returns true; each argument reads behind the call as it read before'; 0 by the template 'total and deterministic' (their statements: YtdkkenlehdblpaaTotals.lean).
  GIVEN WITH THE SEED: the statements are not yours to turn. If you find one false, say at which input.
  Laid BY PROGRAM, IN A SANDBOX (cutbox-rows.mjs): the forced cells as the released guide's own fill.sh prints them over the translation e13e87664407c4e9… (all of the seat's roots in one cut). By AI agents, Wed Nov 11 2026. No macro, syntax, notation, axiom, sorry.
-/
import Derived.Test.YtdkkenlehdblpaaChecked
import GoSem.Claim
import GoSem.ClaimJoined
import GoSem.ClaimMapViews
import Derived.JoinedTies
import Derived.KernelRfl
namespace Go.Proofs.Ytdkkenlehdblpaa
/- THE CELL 'sum', in the pinned program and in every row, IS THE sha256 OF THE DUMP (.gsa) THAT YtdkkenlehdblpaaProg.lean LOADS. Nothing in Lean hashes anything: it is a label: what it is worth is what the hold of that sum in a sandbox is worth. -/
noncomputable def Try.pinned : Pinned := { name := "ytdkkenlehdblpaa", sum := "e13e87664407c4e9ebe5d88aa45196d7b149cfc412d6cb8b018d2eabae351036", checked := Try.checked }
namespace Rows
def none {H : Type} : Left H := { results := [], args := [] }

/-- 'escritoirelaw08.FuguePlays': WHATEVER THE INPUT: true; the input reads as it did. -/
def fuguePlaysSpec : ChangeSpec := { name := "fuguePlays", fn := fun _ => fun
  | [d1, d2] => { results := [.lit (.bool true)], args := [d1, d2] }
  | _ => none }
def fuguePlaysRow : OpenClaim := { program := "ytdkkenlehdblpaa", sum := "e13e87664407c4e9ebe5d88aa45196d7b149cfc412d6cb8b018d2eabae351036", func := "escritoire/escritoirelaw08.FuguePlays", spec := "fuguePlays", inPlace := ["slices.overlaps[escritoire/api.Dot]"], unfollowed := true, recurses := true, plainKeys := false, apart := false }
def FuguePlaysSaid : Prop := fuguePlaysRow.holds Try.pinned (OpenSpec.ofChange fuguePlaysSpec)

/-- ITS FALSE NEIGHBOUR: 'it returns false'. Refute it at one input. -/
def fuguePlaysWrong : ChangeSpec := { name := "fuguePlays", fn := fun _ => fun
  | [d1, d2] => { results := [.lit (.bool false)], args := [d1, d2] }
  | _ => none }
def FuguePlaysWrongFalsely : Prop := fuguePlaysRow.holds Try.pinned (OpenSpec.ofChange fuguePlaysWrong)

/-- 'escritoirelaw08.FuguePlaces': WHATEVER THE INPUT: true; the input reads as it did. -/
def fuguePlacesSpec : ChangeSpec := { name := "fuguePlaces", fn := fun _ => fun
  | [d1, d2, d3] => { results := [.lit (.bool true)], args := [d1, d2, d3] }
  | _ => none }
def fuguePlacesRow : OpenClaim := { program := "ytdkkenlehdblpaa", sum := "e13e87664407c4e9ebe5d88aa45196d7b149cfc412d6cb8b018d2eabae351036", func := "escritoire/escritoirelaw08.FuguePlaces", spec := "fuguePlaces", inPlace := ["slices.overlaps[escritoire/api.Dot]"], unfollowed := true, recurses := true, plainKeys := false, apart := false }
def FuguePlacesSaid : Prop := fuguePlacesRow.holds Try.pinned (OpenSpec.ofChange fuguePlacesSpec)

/-- ITS FALSE NEIGHBOUR: 'it returns false'. Refute it at one input. -/
def fuguePlacesWrong : ChangeSpec := { name := "fuguePlaces", fn := fun _ => fun
  | [d1, d2, d3] => { results := [.lit (.bool false)], args := [d1, d2, d3] }
  | _ => none }
def FuguePlacesWrongFalsely : Prop := fuguePlacesRow.holds Try.pinned (OpenSpec.ofChange fuguePlacesWrong)

/-- 'escritoirelaw08.FugueOrder': WHATEVER THE INPUT: true; the input reads as it did. -/
def fugueOrderSpec : ChangeSpec := { name := "fugueOrder", fn := fun _ => fun
  | [d] => { results := [.lit (.bool true)], args := [d] }
  | _ => none }
def fugueOrderRow : OpenClaim := { program := "ytdkkenlehdblpaa", sum := "e13e87664407c4e9ebe5d88aa45196d7b149cfc412d6cb8b018d2eabae351036", func := "escritoire/escritoirelaw08.FugueOrder", spec := "fugueOrder", inPlace := ["slices.overlaps[escritoire/api.Dot]"], unfollowed := true, recurses := true, plainKeys := false, apart := false }
def FugueOrderSaid : Prop := fugueOrderRow.holds Try.pinned (OpenSpec.ofChange fugueOrderSpec)

/-- ITS FALSE NEIGHBOUR: 'it returns false'. Refute it at one input. -/
def fugueOrderWrong : ChangeSpec := { name := "fugueOrder", fn := fun _ => fun
  | [d] => { results := [.lit (.bool false)], args := [d] }
  | _ => none }
def FugueOrderWrongFalsely : Prop := fugueOrderRow.holds Try.pinned (OpenSpec.ofChange fugueOrderWrong)

/-- 'escritoirelaw08.FugueRuns': WHATEVER THE INPUT: true; the input reads as it did. -/
def fugueRunsSpec : ChangeSpec := { name := "fugueRuns", fn := fun _ => fun
  | [d1, d2, d3] => { results := [.lit (.bool true)], args := [d1, d2, d3] }
  | _ => none }
def fugueRunsRow : OpenClaim := { program := "ytdkkenlehdblpaa", sum := "e13e87664407c4e9ebe5d88aa45196d7b149cfc412d6cb8b018d2eabae351036", func := "escritoire/escritoirelaw08.FugueRuns", spec := "fugueRuns", inPlace := ["slices.overlaps[escritoire/api.Dot]", "maps.clone"], unfollowed := true, recurses := true, plainKeys := false, apart := false }
def FugueRunsSaid : Prop := fugueRunsRow.holds Try.pinned (OpenSpec.ofChange fugueRunsSpec)

/-- ITS FALSE NEIGHBOUR: 'it returns false'. Refute it at one input. -/
def fugueRunsWrong : ChangeSpec := { name := "fugueRuns", fn := fun _ => fun
  | [d1, d2, d3] => { results := [.lit (.bool false)], args := [d1, d2, d3] }
  | _ => none }
def FugueRunsWrongFalsely : Prop := fugueRunsRow.holds Try.pinned (OpenSpec.ofChange fugueRunsWrong)

/-- 'escritoirelaw08.FugueDeletes': WHATEVER THE INPUT: true; the input reads as it did. -/
def fugueDeletesSpec : ChangeSpec := { name := "fugueDeletes", fn := fun _ => fun
  | [d1, d2] => { results := [.lit (.bool true)], args := [d1, d2] }
  | _ => none }
def fugueDeletesRow : OpenClaim := { program := "ytdkkenlehdblpaa", sum := "e13e87664407c4e9ebe5d88aa45196d7b149cfc412d6cb8b018d2eabae351036", func := "escritoire/escritoirelaw08.FugueDeletes", spec := "fugueDeletes", inPlace := ["slices.overlaps[escritoire/api.Dot]"], unfollowed := true, recurses := true, plainKeys := false, apart := false }
def FugueDeletesSaid : Prop := fugueDeletesRow.holds Try.pinned (OpenSpec.ofChange fugueDeletesSpec)

/-- ITS FALSE NEIGHBOUR: 'it returns false'. Refute it at one input. -/
def fugueDeletesWrong : ChangeSpec := { name := "fugueDeletes", fn := fun _ => fun
  | [d1, d2] => { results := [.lit (.bool false)], args := [d1, d2] }
  | _ => none }
def FugueDeletesWrongFalsely : Prop := fugueDeletesRow.holds Try.pinned (OpenSpec.ofChange fugueDeletesWrong)

/-- 'escritoirelaw08.FugueForks': WHATEVER THE INPUT: true; the input reads as it did. -/
def fugueForksSpec : ChangeSpec := { name := "fugueForks", fn := fun _ => fun
  | [d1, d2] => { results := [.lit (.bool true)], args := [d1, d2] }
  | _ => none }
def fugueForksRow : OpenClaim := { program := "ytdkkenlehdblpaa", sum := "e13e87664407c4e9ebe5d88aa45196d7b149cfc412d6cb8b018d2eabae351036", func := "escritoire/escritoirelaw08.FugueForks", spec := "fugueForks", inPlace := ["slices.overlaps[escritoire/api.Dot]", "maps.clone"], unfollowed := true, recurses := true, plainKeys := false, apart := false }
def FugueForksSaid : Prop := fugueForksRow.holds Try.pinned (OpenSpec.ofChange fugueForksSpec)

/-- ITS FALSE NEIGHBOUR: 'it returns false'. Refute it at one input. -/
def fugueForksWrong : ChangeSpec := { name := "fugueForks", fn := fun _ => fun
  | [d1, d2] => { results := [.lit (.bool false)], args := [d1, d2] }
  | _ => none }
def FugueForksWrongFalsely : Prop := fugueForksRow.holds Try.pinned (OpenSpec.ofChange fugueForksWrong)

/-- 'escritoirelaw08.FugueNone': WHATEVER THE INPUT: true; the input reads as it did. -/
def fugueNoneSpec : ChangeSpec := { name := "fugueNone", fn := fun _ => fun
  | [d1, d2] => { results := [.lit (.bool true)], args := [d1, d2] }
  | _ => none }
def fugueNoneRow : OpenClaim := { program := "ytdkkenlehdblpaa", sum := "e13e87664407c4e9ebe5d88aa45196d7b149cfc412d6cb8b018d2eabae351036", func := "escritoire/escritoirelaw08.FugueNone", spec := "fugueNone", inPlace := ["slices.overlaps[escritoire/api.Dot]", "maps.clone"], unfollowed := true, recurses := true, plainKeys := false, apart := false }
def FugueNoneSaid : Prop := fugueNoneRow.holds Try.pinned (OpenSpec.ofChange fugueNoneSpec)

/-- ITS FALSE NEIGHBOUR: 'it returns false'. Refute it at one input. -/
def fugueNoneWrong : ChangeSpec := { name := "fugueNone", fn := fun _ => fun
  | [d1, d2] => { results := [.lit (.bool false)], args := [d1, d2] }
  | _ => none }
def FugueNoneWrongFalsely : Prop := fugueNoneRow.holds Try.pinned (OpenSpec.ofChange fugueNoneWrong)

/-- 'escritoirelaw08.FugueAts': WHATEVER THE INPUT: true; the input reads as it did. -/
def fugueAtsSpec : ChangeSpec := { name := "fugueAts", fn := fun _ => fun
  | [d] => { results := [.lit (.bool true)], args := [d] }
  | _ => none }
def fugueAtsRow : OpenClaim := { program := "ytdkkenlehdblpaa", sum := "e13e87664407c4e9ebe5d88aa45196d7b149cfc412d6cb8b018d2eabae351036", func := "escritoire/escritoirelaw08.FugueAts", spec := "fugueAts", inPlace := ["slices.overlaps[escritoire/api.Dot]"], unfollowed := true, recurses := true, plainKeys := false, apart := false }
def FugueAtsSaid : Prop := fugueAtsRow.holds Try.pinned (OpenSpec.ofChange fugueAtsSpec)

/-- ITS FALSE NEIGHBOUR: 'it returns false'. Refute it at one input. -/
def fugueAtsWrong : ChangeSpec := { name := "fugueAts", fn := fun _ => fun
  | [d] => { results := [.lit (.bool false)], args := [d] }
  | _ => none }
def FugueAtsWrongFalsely : Prop := fugueAtsRow.holds Try.pinned (OpenSpec.ofChange fugueAtsWrong)

/- THE SECOND FORM. 'bulk': how many values and letters a reading holds, each counted each time it is reached (what is shared counts as often as it is met; a slice's spare places count too). A statement '..UptoSaid' is the law's where the arguments, and the package variables that the reading takes, are together of bulk at most 1048576: NARROWER than '..Said'. Prove '..Said' where nothing that the law and all that it calls make is longer than what came in: it says more and counts as full. Else prove '..UptoSaid'. A law counts once. -/
mutual
def uptoBulk {H : Type} : DataW H → Nat
  | .lit (.string bytes) => bytes.length + 1
  | .lit _ => 1
  | .nil => 1
  | .ptr d => uptoBulk d + 1
  | .slice elems spare => uptoBulkAll elems + uptoBulkAll spare + 1
  | .agg parts => uptoBulkAll parts + 1
  | .iface _ d => uptoBulk d + 1
  | .map entries => uptoBulkEntries entries + 1
  | .held _ => 1
def uptoBulkAll {H : Type} : List (DataW H) → Nat
  | [] => 0
  | d :: r => uptoBulk d + uptoBulkAll r
def uptoBulkEntries {H : Type} : List (Lit × DataW H) → Nat
  | [] => 0
  | x :: r => uptoBulkEntry x + uptoBulkEntries r
def uptoBulkEntry {H : Type} : Lit × DataW H → Nat
  | (.string bytes, d) => bytes.length + uptoBulk d + 1
  | (_, d) => uptoBulk d + 1
 end
def uptoSmall : (H : Type) → List (DataW H) → Bool := fun _ ds => decide (uptoBulkAll ds ≤ 1048576)
def OpenSpec.upto (s : _root_.Go.ChangeSpec) : _root_.Go.OpenSpec := { _root_.Go.OpenSpec.ofChange s with cond := some uptoSmall }

/-- 'escritoirelaw08.FuguePlays', WHERE WHAT IT READS IS OF BULK AT MOST 1048576: true; the input reads as it did. -/
def fuguePlaysUptoRow : OpenClaim := { program := "ytdkkenlehdblpaa", sum := "e13e87664407c4e9ebe5d88aa45196d7b149cfc412d6cb8b018d2eabae351036", func := "escritoire/escritoirelaw08.FuguePlays", spec := "fuguePlays", inPlace := ["slices.overlaps[escritoire/api.Dot]"], unfollowed := true, recurses := true, plainKeys := false, apart := false, narrowed := true }
def FuguePlaysUptoSaid : Prop := fuguePlaysUptoRow.holds Try.pinned (OpenSpec.upto fuguePlaysSpec)

/-- 'escritoirelaw08.FuguePlaces', WHERE WHAT IT READS IS OF BULK AT MOST 1048576: true; the input reads as it did. -/
def fuguePlacesUptoRow : OpenClaim := { program := "ytdkkenlehdblpaa", sum := "e13e87664407c4e9ebe5d88aa45196d7b149cfc412d6cb8b018d2eabae351036", func := "escritoire/escritoirelaw08.FuguePlaces", spec := "fuguePlaces", inPlace := ["slices.overlaps[escritoire/api.Dot]"], unfollowed := true, recurses := true, plainKeys := false, apart := false, narrowed := true }
def FuguePlacesUptoSaid : Prop := fuguePlacesUptoRow.holds Try.pinned (OpenSpec.upto fuguePlacesSpec)

/-- 'escritoirelaw08.FugueOrder', WHERE WHAT IT READS IS OF BULK AT MOST 1048576: true; the input reads as it did. -/
def fugueOrderUptoRow : OpenClaim := { program := "ytdkkenlehdblpaa", sum := "e13e87664407c4e9ebe5d88aa45196d7b149cfc412d6cb8b018d2eabae351036", func := "escritoire/escritoirelaw08.FugueOrder", spec := "fugueOrder", inPlace := ["slices.overlaps[escritoire/api.Dot]"], unfollowed := true, recurses := true, plainKeys := false, apart := false, narrowed := true }
def FugueOrderUptoSaid : Prop := fugueOrderUptoRow.holds Try.pinned (OpenSpec.upto fugueOrderSpec)

/-- 'escritoirelaw08.FugueRuns', WHERE WHAT IT READS IS OF BULK AT MOST 1048576: true; the input reads as it did. -/
def fugueRunsUptoRow : OpenClaim := { program := "ytdkkenlehdblpaa", sum := "e13e87664407c4e9ebe5d88aa45196d7b149cfc412d6cb8b018d2eabae351036", func := "escritoire/escritoirelaw08.FugueRuns", spec := "fugueRuns", inPlace := ["slices.overlaps[escritoire/api.Dot]", "maps.clone"], unfollowed := true, recurses := true, plainKeys := false, apart := false, narrowed := true }
def FugueRunsUptoSaid : Prop := fugueRunsUptoRow.holds Try.pinned (OpenSpec.upto fugueRunsSpec)

/-- 'escritoirelaw08.FugueDeletes', WHERE WHAT IT READS IS OF BULK AT MOST 1048576: true; the input reads as it did. -/
def fugueDeletesUptoRow : OpenClaim := { program := "ytdkkenlehdblpaa", sum := "e13e87664407c4e9ebe5d88aa45196d7b149cfc412d6cb8b018d2eabae351036", func := "escritoire/escritoirelaw08.FugueDeletes", spec := "fugueDeletes", inPlace := ["slices.overlaps[escritoire/api.Dot]"], unfollowed := true, recurses := true, plainKeys := false, apart := false, narrowed := true }
def FugueDeletesUptoSaid : Prop := fugueDeletesUptoRow.holds Try.pinned (OpenSpec.upto fugueDeletesSpec)

/-- 'escritoirelaw08.FugueForks', WHERE WHAT IT READS IS OF BULK AT MOST 1048576: true; the input reads as it did. -/
def fugueForksUptoRow : OpenClaim := { program := "ytdkkenlehdblpaa", sum := "e13e87664407c4e9ebe5d88aa45196d7b149cfc412d6cb8b018d2eabae351036", func := "escritoire/escritoirelaw08.FugueForks", spec := "fugueForks", inPlace := ["slices.overlaps[escritoire/api.Dot]", "maps.clone"], unfollowed := true, recurses := true, plainKeys := false, apart := false, narrowed := true }
def FugueForksUptoSaid : Prop := fugueForksUptoRow.holds Try.pinned (OpenSpec.upto fugueForksSpec)

/-- 'escritoirelaw08.FugueNone', WHERE WHAT IT READS IS OF BULK AT MOST 1048576: true; the input reads as it did. -/
def fugueNoneUptoRow : OpenClaim := { program := "ytdkkenlehdblpaa", sum := "e13e87664407c4e9ebe5d88aa45196d7b149cfc412d6cb8b018d2eabae351036", func := "escritoire/escritoirelaw08.FugueNone", spec := "fugueNone", inPlace := ["slices.overlaps[escritoire/api.Dot]", "maps.clone"], unfollowed := true, recurses := true, plainKeys := false, apart := false, narrowed := true }
def FugueNoneUptoSaid : Prop := fugueNoneUptoRow.holds Try.pinned (OpenSpec.upto fugueNoneSpec)

/-- 'escritoirelaw08.FugueAts', WHERE WHAT IT READS IS OF BULK AT MOST 1048576: true; the input reads as it did. -/
def fugueAtsUptoRow : OpenClaim := { program := "ytdkkenlehdblpaa", sum := "e13e87664407c4e9ebe5d88aa45196d7b149cfc412d6cb8b018d2eabae351036", func := "escritoire/escritoirelaw08.FugueAts", spec := "fugueAts", inPlace := ["slices.overlaps[escritoire/api.Dot]"], unfollowed := true, recurses := true, plainKeys := false, apart := false, narrowed := true }
def FugueAtsUptoSaid : Prop := fugueAtsUptoRow.holds Try.pinned (OpenSpec.upto fugueAtsSpec)

end Rows
end Go.Proofs.Ytdkkenlehdblpaa
