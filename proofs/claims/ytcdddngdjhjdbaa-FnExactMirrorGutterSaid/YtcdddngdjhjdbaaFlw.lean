/- To where a cell flows: mathematics, and the program's flowOf. -/
import Derived.Test.YtcdddngdjhjdbaaSite
import Derived.Test.YtcdddngdjhjdbaaOuts
import Derived.Deep.RegionHeld3
namespace Go.Proofs.Ytcdddngdjhjdbaa
open Go.RowKit

/-- To where a cell flows that has no pipe and no leaves, and how low that is: behind k looks. -/
def Gt.toK (g : Gt) (j : Nat) : Nat → Int
  | 0 => -1
  | 1 => if 0 < j ∧ g.h (j - 1) < g.h j then (j : Int) - 1 else -1
  | _ => if (j : Int) + 1 < g.n ∧ g.h (j + 1) < (if 0 < j ∧ g.h (j - 1) < g.h j then g.h (j - 1) else g.h j) then (j : Int) + 1 else if 0 < j ∧ g.h (j - 1) < g.h j then (j : Int) - 1 else -1
def Gt.lowK (g : Gt) (j : Nat) : Nat → Int
  | 0 => g.h j
  | 1 => if 0 < j ∧ g.h (j - 1) < g.h j then g.h (j - 1) else g.h j
  | _ => if (j : Int) + 1 < g.n ∧ g.h (j + 1) < (if 0 < j ∧ g.h (j - 1) < g.h j then g.h (j - 1) else g.h j) then g.h (j + 1) else (if 0 < j ∧ g.h (j - 1) < g.h j then g.h (j - 1) else g.h j)
/-- To where a cell flows, if b tells whether a pipe is at it. -/
def Gt.toB (g : Gt) (b : Bool) (j : Nat) : Int := if b = true ∨ g.leaf j = true then -1 else g.toK j 2

end Go.Proofs.Ytcdddngdjhjdbaa
