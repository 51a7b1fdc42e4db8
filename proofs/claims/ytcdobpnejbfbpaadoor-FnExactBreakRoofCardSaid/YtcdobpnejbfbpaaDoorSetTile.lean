/- Contracts on replacing a tile. -/
import Derived.Test.YtcdobpnejbfbpaaDoorCourse
import Derived.Test.YtcdobpnejbfbpaaDoorEnd
import Derived.Test.YtcdobpnejbfbpaaDoorRset
import Derived.Deep.RegionHeld3
import Derived.StillTailTactics
namespace Go.Proofs.YtcdobpnejbfbpaaDoor
open Go.RowKit

theorem l01Kind_q (k : Int) (w : World) :
    Calls Tryd.prog 86 #[.int .i64 k] w fun e w' => e = .returned (.bool (inB k 0 3)) ∧ w = w' := l01Kind_any k w

theorem ask_split {r : Rf} {a b : Int} {fine : Bool} : r.ask a b fine = if r.ask a b true = 0 then r.told fine else r.ask a b true := by
  unfold Rf.ask Rf.told
  by_cases h : r.ok = true
  · by_cases h2 : r.isB a b = true
    · simp [h, h2]
    · simp [h, h2]
  · simp [h]

end Go.Proofs.YtcdobpnejbfbpaaDoor
