/- What a call ends with that makes a list and tells some numbers beside. -/
import Derived.Test.YtppohghejhcilaaDoorLs
namespace Go.Proofs.YtppohghejhcilaaDoor
open Go.RowKit
def GivesT (w : World) (sz : Nat) (k : IntKind) (n : Nat) (f : Nat → Int) (rest : List Value) (e : Ending) (w' : World) : Prop :=
  ∃ v, e = .returned (.tuple (v :: rest).toArray) ∧ IsList w' w.heap.size v sz n (fun i => .int k (f i)) ∧ Below w.heap.size w w'
theorem gen_callsW {P : Program} {f : FuncId} {args : Array Value} {Q : Ending → World → Prop} {w : World} (h : ∀ W, W = w → Calls P f args W Q) : Calls P f args w Q := h w rfl
end Go.Proofs.YtppohghejhcilaaDoor
