/- AclForks holds of every events, more of them on the Fork, and a vector: what becomes of a Fork changes nothing; conditions: none. -/
import Derived.Test.YthodlbkgggaibaaGoC
import Derived.Test.YthodlbkgggaibaaAclForksW
namespace Go.Proofs.Ythodlbkgggaibaa.aclForks
open Go.ChangeShapes Go.WideShapes Go.ChangeAt Go.RowKit
set_option maxRecDepth 100000
theorem laid_met (os : Os) : laidMet Try.prog Rows.aclForksRow.laid ((laidWorld os).forCall (fun _ _ => 0) ⟨#[], #[.slice none 0 0, .slice none 0 0, .agg (row .u32 (List.replicate 8 0))], []⟩).memory := laid_none _
theorem reads (os : Os) {H : Type} (enc : TypeId × Value → H) : ∃ places ds, DataW.whole enc Try.prog ((laidWorld os).forCall (fun _ _ => 0) ⟨#[], #[.slice none 0 0, .slice none 0 0, .agg (row .u32 (List.replicate 8 0))], []⟩).memory Try.f10.params.toList Rows.aclForksSpec.vars false ((#[.slice none 0 0, .slice none 0 0, .agg (row .u32 (List.replicate 8 0))] : Array Value).toList) 8 = some (ds, [], places) :=
  ⟨[], [.nil, .nil, .agg (List.replicate 8 (.lit (.int .u32 0)))], by kernel_rfl⟩

end Go.Proofs.Ythodlbkgggaibaa.aclForks
namespace Go.Proofs.Ythodlbkgggaibaa
end Go.Proofs.Ythodlbkgggaibaa

