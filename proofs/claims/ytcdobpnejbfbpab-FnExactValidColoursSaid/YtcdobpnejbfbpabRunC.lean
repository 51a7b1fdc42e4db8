/- The program's closures that tell what drips. -/
import Derived.Test.YtcdobpnejbfbpabRunD
namespace Go.Proofs.Ytcdobpnejbfbpab
open Go.RowKit

end Go.Proofs.Ytcdobpnejbfbpab
