/- Contracts of the laws' comparisons, where both sides are the same. -/
import Derived.Test.YtcdddngdjhjdbaaTy
import Derived.Test.YtcdddngdjhjdbaaRoof
import Derived.Deep.QuietTactic
import Derived.BigQuiet
import Derived.StillTailTactics
namespace Go.Proofs.Ytcdddngdjhjdbaa
open Go.RowKit

set_option maxRecDepth 100000 in
set_option maxHeartbeats 400000 in
theorem eqPlace_same (a b : Int) (w : World) :
    Calls Try.prog 43 #[.agg #[.int .i8 a, .int .i8 b], .agg #[.int .i8 a, .int .i8 b]] w fun e w' => e = .returned (.bool true) ∧ Below w.heap.size w w' := by
  have e0 : (a != a) = false := by simp
  have e1 : (b != b) = false := by simp
  go_enter Try.func43, Try.ntmps43
  go_wp2_with fail
  go_ret
  exact ⟨rfl, (((Below.refl _ _).alloc (Nat.le_refl _) _).alloc (by simp) _)⟩
end Go.Proofs.Ytcdddngdjhjdbaa
