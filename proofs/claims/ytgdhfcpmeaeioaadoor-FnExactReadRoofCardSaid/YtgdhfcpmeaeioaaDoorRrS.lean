/- Roofs read from texts: the model's side, both cases of the first mark. -/
import Derived.Test.YtgdhfcpmeaeioaaDoorRrSA
import Derived.Test.YtgdhfcpmeaeioaaDoorRrSB
namespace Go.Proofs.YtgdhfcpmeaeioaaDoor
open Go.RowKit

theorem specReadRoof_any (s : ByteArray) (w : World) (hs : s.size ≤ 2000000) (F : Array Value) (hF : rrA s.data.toList = F) :
    Calls Tryd.prog 8 #[.string s] w fun e w' => e = .returned (.tuple #[.agg F, .int .i64 (rrC s.data.toList)]) ∧ Below w.heap.size w w' := by
  rcases (show rSh (splitL 10 s.data.toList).1 = 0 ∨ rSh (splitL 10 s.data.toList).1 = 1 by have := rSh_bd (splitL 10 s.data.toList).1; omega) with h | h
  · exact specReadRoof_A s w hs h F hF
  · exact specReadRoof_B s w hs h F hF
end Go.Proofs.YtgdhfcpmeaeioaaDoor
