/- Contracts of the program's small functions over roofs: codes, kinds. -/
import Derived.Test.YtfdoehakpeddnaaValid
import Derived.Test.YtfdoehakpeddnaaSpecB
namespace Go.Proofs.Ytfdoehakpeddnaa
open Go.RowKit

end Go.Proofs.Ytfdoehakpeddnaa
