/- 'few' of the statements on chacha. -/
import Derived.Test.YtobfknpgkdiicabGb
namespace Go.Proofs.Ytobfknpgkdiicab
open Go.RowKit

end Go.Proofs.Ytobfknpgkdiicab
