/- What drips in a cell of a course: contracts of both sides' small functions. -/
import Derived.Test.YtcdobpnejbfbpabRunM
namespace Go.Proofs.Ytcdobpnejbfbpab
open Go.RowKit

theorem drip1_1 (a x : Int) : drip1 1 a x = (x + 1) / 2 := rfl
theorem drip1_2 (a x : Int) : drip1 2 a x = (x + 2) / 3 := rfl
theorem drip1_3t (x : Int) : drip1 3 2 x = 0 := rfl
theorem drip1_3f {a x : Int} (h : a ≠ 2) : drip1 3 a x = x := by simp [drip1, h]
theorem drip1_0 (a x : Int) : drip1 0 a x = 0 := rfl

end Go.Proofs.Ytcdobpnejbfbpab
