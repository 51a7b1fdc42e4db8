/- What a call ends with that makes a shape and tells some numbers beside. -/
import Derived.Test.YtdegfcgknppcoaaShape
namespace Go.Proofs.Ytdegfcgknppcoaa
open Go.RowKit
def GivesShT (w : World) (s : Int) (n : Nat) (f : Nat → Int) (rest : List Value) (e : Ending) (w' : World) : Prop :=
  ∃ v, e = .returned (.tuple (.agg #[.int .u8 s, v] :: rest).toArray) ∧ IsList w' w.heap.size v 2 n (fun i => .int .i16 (f i)) ∧ Below w.heap.size w w'
theorem below_of_eq {w W : World} (h : W = w) : Below w.heap.size w W := by rw [h]; exact Below.refl _ _
end Go.Proofs.Ytdegfcgknppcoaa
