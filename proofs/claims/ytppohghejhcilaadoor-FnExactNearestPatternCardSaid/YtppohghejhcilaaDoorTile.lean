/- Contracts on the tile that covers a cell, and on how many cells there are. -/
import Derived.Test.YtppohghejhcilaaDoorCourse
namespace Go.Proofs.YtppohghejhcilaaDoor
open Go.RowKit

/-- The tile that covers a cell, or -1. -/
def Rf.tile (r : Rf) (k cell : Int) : Int := if cell - r.by k < 0 ∨ r.w ≤ (cell - r.by k) / 2 then -1 else (cell - r.by k) / 2

end Go.Proofs.YtppohghejhcilaaDoor
