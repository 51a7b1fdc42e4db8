/- Contracts of the program's small functions over roofs: codes, kinds. -/
import Derived.Test.YtppohghejhcilaaDoorValid
import Derived.Test.YtppohghejhcilaaDoorSpecB
namespace Go.Proofs.YtppohghejhcilaaDoor
open Go.RowKit

theorem implValid_t (c : Array Value) (r : Rf) (w : World) (hR : IsRoof c r) (h : r.Ok) :
    Calls Tryd.prog 59 #[.agg c] w fun e w' => e = .returned (.bool true) ∧ Below w.heap.size w w' := by
  have := implValidRoof_any c r w hR; rwa [Rf.ok_true h] at this
theorem implValid_f (c : Array Value) (r : Rf) (w : World) (hR : IsRoof c r) (h : ¬ r.Ok) :
    Calls Tryd.prog 59 #[.agg c] w fun e w' => e = .returned (.bool false) ∧ Below w.heap.size w w' := by
  have := implValidRoof_any c r w hR; rwa [Rf.ok_false h] at this

end Go.Proofs.YtppohghejhcilaaDoor
