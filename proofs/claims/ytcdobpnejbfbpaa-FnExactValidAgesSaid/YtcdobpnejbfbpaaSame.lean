/- Contracts of the laws' comparisons, where both sides are the same. -/
import Derived.Test.YtcdobpnejbfbpaaTy
import Derived.Test.YtcdobpnejbfbpaaRoof
import Derived.Deep.QuietTactic
import Derived.BigQuiet
import Derived.StillTailTactics
namespace Go.Proofs.Ytcdobpnejbfbpaa
open Go.RowKit

end Go.Proofs.Ytcdobpnejbfbpaa
