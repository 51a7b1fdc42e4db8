/- r.placesOf(kind): the places of all tiles of a kind. -/
import Derived.Test.YtppohghejhcilaaDoorRowT
import Derived.Test.YtppohghejhcilaaDoorLift
import Derived.Test.YtppohghejhcilaaDoorPlW
import Derived.Test.YtppohghejhcilaaDoorNums
import Derived.Deep.RegionHeld3
namespace Go.Proofs.YtppohghejhcilaaDoor
open Go.RowKit Go.Shelf
attribute [local go_sem] Oper.semAt_some

theorem A_infoPc : (Tryd.prog.info? 37).map (fun i => (i.zero, i.size, i.bytes)) = some (some (.agg #[.int .i8 0, .int .i8 0]), 2, 2) := by kernel_rfl

/-- Of some places those whose tiles are of a kind. -/
def Rf.ofKind (r : Rf) (k : Int) {h w : Nat} (l : List (Pl h w)) : List (Pl h w) := l.filter fun x => decide (r.t (x.1.1 * 8 + x.1.2) = k)
theorem Rf.ofKind_hit {r : Rf} {k : Int} {h w : Nat} {l : List (Pl h w)} {x : Pl h w} (e : r.t (x.1.1 * 8 + x.1.2) = k) : r.ofKind k (l ++ [x]) = r.ofKind k l ++ [x] := by simp [Rf.ofKind, e]
theorem Rf.ofKind_miss {r : Rf} {k : Int} {h w : Nat} {l : List (Pl h w)} {x : Pl h w} (e : ¬ r.t (x.1.1 * 8 + x.1.2) = k) : r.ofKind k (l ++ [x]) = r.ofKind k l := by simp [Rf.ofKind, e]
theorem Rf.ofKind_len {r : Rf} {k : Int} {h w : Nat} (l : List (Pl h w)) : (r.ofKind k l).length ≤ l.length := List.length_filter_le _ _

end Go.Proofs.YtppohghejhcilaaDoor
