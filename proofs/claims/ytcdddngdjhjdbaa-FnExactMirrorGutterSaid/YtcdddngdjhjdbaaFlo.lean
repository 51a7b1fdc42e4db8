/- All outlets, all sites, all flows of a gutter: the program's lists. -/
import Derived.Test.YtcdddngdjhjdbaaFlw
import Derived.Laws.MakeOwn
import Derived.OwnWalk
import Derived.StillTailTactics
namespace Go.Proofs.Ytcdddngdjhjdbaa
open Go.RowKit

/-- The cells of outlets. -/
def outC (p : Nat → Int) (i : Nat) : Value := if i % 2 = 0 then .int .i64 (p i) else .int .i32 (p i)
theorem outC_0 (p : Nat → Int) (k : Nat) : outC p (k * 2) = .int .i64 (p (k * 2)) := by unfold outC; rw [if_pos (by omega)]
theorem outC_1 (p : Nat → Int) (k : Nat) : outC p (k * 2 + 1) = .int .i32 (p (k * 2 + 1)) := by unfold outC; rw [if_neg (by omega)]
theorem A_infoI6 : (Try.prog.info? 2).map (fun i => (i.zero, i.size, i.bytes)) = some (some (.int .i64 0), 1, 8) := by kernel_rfl
def Gives1 (w : World) (sz n : Nat) (f : Nat → Value) (e : Ending) (w' : World) : Prop :=
  ∃ a, e = .returned (.slice a n n) ∧ IsList w' w.heap.size (.slice a n n) sz n f ∧ Below w.heap.size w w'

end Go.Proofs.Ytcdddngdjhjdbaa
