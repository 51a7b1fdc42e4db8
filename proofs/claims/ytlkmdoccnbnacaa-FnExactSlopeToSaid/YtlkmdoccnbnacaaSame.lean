/- Contracts of the laws' comparisons, where both sides are the same. -/
import Derived.Test.YtlkmdoccnbnacaaTy
import Derived.Test.YtlkmdoccnbnacaaRoof
import Derived.Deep.QuietTactic
import Derived.BigQuiet
import Derived.StillTailTactics
namespace Go.Proofs.Ytlkmdoccnbnacaa
open Go.RowKit

end Go.Proofs.Ytlkmdoccnbnacaa
