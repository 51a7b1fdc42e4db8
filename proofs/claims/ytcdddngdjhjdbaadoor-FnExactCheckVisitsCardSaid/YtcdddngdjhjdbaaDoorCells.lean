/- Contracts on the cells of a tile. -/
import Derived.Test.YtcdddngdjhjdbaaDoorCourse
import Derived.Test.YtcdddngdjhjdbaaDoorList
namespace Go.Proofs.YtcdddngdjhjdbaaDoor
open Go.RowKit

/-- What a call that makes a list of numbers ends with. -/
def GivesInts (w : World) (n : Nat) (f : Nat → Int) (code : Int) (e : Ending) (w' : World) : Prop :=
  ∃ v, e = .returned (.tuple #[v, .int .i64 code]) ∧ IsList w' w.heap.size v 1 n (fun i => .int .i64 (f i)) ∧ Below w.heap.size w w'

theorem l01By_q (n : Nat) (c : Array Value) (r : Rf) (k : Int) (w : World) (hr : rowAt w n = some c) (hR : IsRoof c r) (hk : 0 ≤ k ∧ k ≤ 1000) :
    Calls Tryd.prog 173 #[.pointer (some ⟨n, 0, none⟩), .int .i64 k] w fun e w' => e = .returned (.int .i64 (r.by k)) ∧ w' = w :=
  (l01By_any n c r k w hr hR hk).mono fun _ _ h => ⟨h.1, h.2.symm⟩

end Go.Proofs.YtcdddngdjhjdbaaDoor
