/- Contracts of the program's small functions over roofs: codes, kinds. -/
import Derived.Test.YtdegfcgknppcoaaValid
import Derived.Test.YtdegfcgknppcoaaSpecB
namespace Go.Proofs.Ytdegfcgknppcoaa
open Go.RowKit

end Go.Proofs.Ytdegfcgknppcoaa
