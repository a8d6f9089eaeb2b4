/- AclForks, walked. -/
import Derived.Test.YthodlbkgggaibaaRk6
import Derived.Test.YthodlbkgggaibaaAbk
namespace Go.Proofs.Ythodlbkgggaibaa
open Go.RowKit Go.Shelf
set_option maxRecDepth 20000
set_option linter.unusedSimpArgs false
end Go.Proofs.Ythodlbkgggaibaa

