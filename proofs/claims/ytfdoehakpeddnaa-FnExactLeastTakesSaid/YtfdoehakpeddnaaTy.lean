/- The program's own array and struct types of many cells. -/
import Derived.Test.YtfdoehakpeddnaaRows
import Derived.Test.YtfdoehakpeddnaaAgg
namespace Go.Proofs.Ytfdoehakpeddnaa
open Go.RowKit

end Go.Proofs.Ytfdoehakpeddnaa
