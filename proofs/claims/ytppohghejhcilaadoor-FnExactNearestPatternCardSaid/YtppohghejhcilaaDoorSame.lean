/- Contracts of the laws' comparisons, where both sides are the same. -/
import Derived.Test.YtppohghejhcilaaDoorTy
import Derived.Test.YtppohghejhcilaaDoorRoof
import Derived.Deep.QuietTactic
import Derived.BigQuiet
import Derived.StillTailTactics
namespace Go.Proofs.YtppohghejhcilaaDoor
open Go.RowKit

end Go.Proofs.YtppohghejhcilaaDoor
