/- acl: another book with the same. -/
import Derived.Shelf.SlMaps.Clone
import Derived.Test.YthodlbkgggaibaaAb10
namespace Go.Proofs.Ythodlbkgggaibaa
open Go.RowKit Go.Shelf
set_option maxRecDepth 20000
set_option linter.unusedSimpArgs false
theorem mapDotEnt : Try.prog.underlying 69 = some (.map 38 68) := by kernel_rfl
end Go.Proofs.Ythodlbkgggaibaa

