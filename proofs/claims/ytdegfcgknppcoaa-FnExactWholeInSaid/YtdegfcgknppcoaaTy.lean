/- The program's own array and struct types of many cells. -/
import Derived.Test.YtdegfcgknppcoaaRows
import Derived.Test.YtdegfcgknppcoaaAgg
namespace Go.Proofs.Ytdegfcgknppcoaa
open Go.RowKit

end Go.Proofs.Ytdegfcgknppcoaa
