/- Valid rain: the program's answer. -/
import Derived.Test.YtcdobpnejbfbpaaDoorRainA
import Derived.Test.YtcdobpnejbfbpaaDoorCopy
import Derived.RegionTactic
import Derived.Deep.RegionWith
import Derived.Deep.DeepCutAuto
import Derived.Deep.DrawnRows
namespace Go.Proofs.YtcdobpnejbfbpaaDoor
open Go.RowKit
attribute [local go_sem ↓] Go.wp_at_zero Go.wp_at_succ

def cutR (r : Rf) (t : Nat → Int) (i : Nat) : Int := if i < (2 * r.w + 1).toNat then t i else 0

end Go.Proofs.YtcdobpnejbfbpaaDoor
