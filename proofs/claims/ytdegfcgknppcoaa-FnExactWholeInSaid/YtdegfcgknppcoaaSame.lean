/- Contracts of the laws' comparisons, where both sides are the same. -/
import Derived.Test.YtdegfcgknppcoaaTy
import Derived.Test.YtdegfcgknppcoaaRoof
import Derived.Deep.QuietTactic
import Derived.BigQuiet
import Derived.StillTailTactics
namespace Go.Proofs.Ytdegfcgknppcoaa
open Go.RowKit

end Go.Proofs.Ytdegfcgknppcoaa
