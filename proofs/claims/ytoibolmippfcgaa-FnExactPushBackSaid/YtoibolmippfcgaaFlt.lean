/- Places of which something holds: what the model's loops and the program's ranges collect. -/
import Derived.Test.YtoibolmippfcgaaAll
import Derived.Test.YtoibolmippfcgaaReach
namespace Go.Proofs.Ytoibolmippfcgaa
open Go.RowKit

/-- Of some places those of which p holds. -/
def fltP (p : Nat → Nat → Bool) {h w : Nat} (l : List (Pl h w)) : List (Pl h w) := l.filter fun x => p x.1.1 x.1.2
theorem fltP_hit {p : Nat → Nat → Bool} {h w : Nat} {l : List (Pl h w)} {x : Pl h w} (e : p x.1.1 x.1.2 = true) : fltP p (l ++ [x]) = fltP p l ++ [x] := by simp [fltP, e]
theorem fltP_miss {p : Nat → Nat → Bool} {h w : Nat} {l : List (Pl h w)} {x : Pl h w} (e : p x.1.1 x.1.2 = false) : fltP p (l ++ [x]) = fltP p l := by simp [fltP, e]
theorem fltP_len {p : Nat → Nat → Bool} {h w : Nat} (l : List (Pl h w)) : (fltP p l).length ≤ l.length := List.length_filter_le _ _

end Go.Proofs.Ytoibolmippfcgaa
