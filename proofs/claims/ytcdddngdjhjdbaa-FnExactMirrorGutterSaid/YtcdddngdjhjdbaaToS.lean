/- To where a cell flows: the model. -/
import Derived.Test.YtcdddngdjhjdbaaFlu
namespace Go.Proofs.Ytcdddngdjhjdbaa
open Go.RowKit

end Go.Proofs.Ytcdddngdjhjdbaa
