/- Contracts of the program's small functions over roofs: codes, kinds. -/
import Derived.Test.YtgdhfcpmeaeioaaValid
import Derived.Test.YtgdhfcpmeaeioaaSpecB
namespace Go.Proofs.Ytgdhfcpmeaeioaa
open Go.RowKit

theorem implValid_t (c : Array Value) (r : Rf) (w : World) (hR : IsRoof c r) (h : r.Ok) :
    Calls Try.prog 18 #[.agg c] w fun e w' => e = .returned (.bool true) ∧ Below w.heap.size w w' := by
  have := implValidRoof_any c r w hR; rwa [Rf.ok_true h] at this
theorem implValid_f (c : Array Value) (r : Rf) (w : World) (hR : IsRoof c r) (h : ¬ r.Ok) :
    Calls Try.prog 18 #[.agg c] w fun e w' => e = .returned (.bool false) ∧ Below w.heap.size w w' := by
  have := implValidRoof_any c r w hR; rwa [Rf.ok_false h] at this

end Go.Proofs.Ytgdhfcpmeaeioaa
