/- Contracts of the program's small functions over roofs: codes, kinds. -/
import Derived.Test.YtlkmdoccnbnacaaValid
import Derived.Test.YtlkmdoccnbnacaaSpecB
namespace Go.Proofs.Ytlkmdoccnbnacaa
open Go.RowKit

end Go.Proofs.Ytlkmdoccnbnacaa
