/- The laws' helpers that compare, mark and hold lists of places. -/
import Derived.Test.YtfdoehakpeddnaaList
import Derived.Test.YtfdoehakpeddnaaSame
namespace Go.Proofs.Ytfdoehakpeddnaa
open Go.RowKit

/-- What is marked: the numbers from m on, as they fit. -/
def markP (m i : Nat) : Int := IntKind.i8.wrap ((m : Int) + i)

end Go.Proofs.Ytfdoehakpeddnaa
