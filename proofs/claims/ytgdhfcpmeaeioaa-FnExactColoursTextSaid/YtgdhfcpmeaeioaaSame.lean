/- Contracts of the laws' comparisons, where both sides are the same. -/
import Derived.Test.YtgdhfcpmeaeioaaTy
import Derived.Test.YtgdhfcpmeaeioaaRoof
import Derived.Deep.QuietTactic
import Derived.BigQuiet
import Derived.StillTailTactics
namespace Go.Proofs.Ytgdhfcpmeaeioaa
open Go.RowKit

end Go.Proofs.Ytgdhfcpmeaeioaa
