/- Contracts of the laws' comparisons, where both sides are the same. -/
import Derived.Test.YtfdoehakpeddnaaTy
import Derived.Test.YtfdoehakpeddnaaRoof
import Derived.Deep.QuietTactic
import Derived.BigQuiet
import Derived.StillTailTactics
namespace Go.Proofs.Ytfdoehakpeddnaa
open Go.RowKit

end Go.Proofs.Ytfdoehakpeddnaa
