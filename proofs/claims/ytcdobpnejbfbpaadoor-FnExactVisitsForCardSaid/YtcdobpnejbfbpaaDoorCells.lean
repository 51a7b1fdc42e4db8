/- Contracts on the cells of a tile. -/
import Derived.Test.YtcdobpnejbfbpaaDoorCourse
import Derived.Test.YtcdobpnejbfbpaaDoorList
namespace Go.Proofs.YtcdobpnejbfbpaaDoor
open Go.RowKit

/-- What a call that makes a list of numbers ends with. -/
def GivesInts (w : World) (n : Nat) (f : Nat → Int) (code : Int) (e : Ending) (w' : World) : Prop :=
  ∃ v, e = .returned (.tuple #[v, .int .i64 code]) ∧ IsList w' w.heap.size v 1 n (fun i => .int .i64 (f i)) ∧ Below w.heap.size w w'

end Go.Proofs.YtcdobpnejbfbpaaDoor
