/- The program's own array and struct types of many cells. -/
import Derived.Test.YtlkmdoccnbnacaaRows
import Derived.Test.YtlkmdoccnbnacaaAgg
namespace Go.Proofs.Ytlkmdoccnbnacaa
open Go.RowKit

end Go.Proofs.Ytlkmdoccnbnacaa
