/- Contracts of the laws' comparisons, where both sides are the same. -/
import Derived.Test.YtcdobpnejbfbpabTy
import Derived.Test.YtcdobpnejbfbpabRoof
import Derived.Deep.QuietTactic
import Derived.BigQuiet
import Derived.StillTailTactics
namespace Go.Proofs.Ytcdobpnejbfbpab
open Go.RowKit

end Go.Proofs.Ytcdobpnejbfbpab
