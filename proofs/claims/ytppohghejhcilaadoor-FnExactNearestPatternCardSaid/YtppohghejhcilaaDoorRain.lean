/- Rain: its types, what came in, and the laws' helpers over it. -/
import Derived.Test.YtppohghejhcilaaDoorHelp
import Derived.Test.YtppohghejhcilaaDoorOpen
import Derived.Test.YtppohghejhcilaaDoorNums
import Derived.Deep.QuietTactic
import Derived.BigQuiet
namespace Go.Proofs.YtppohghejhcilaaDoor
open Go.RowKit Go.ChangeShapes Go.WideShapes

/-- The cells of rain. -/
structure IsRain (c : Array Value) (t : Nat → Int) : Prop where
  isK : IsK .i16 c 17 t
  lo : ∀ i, i < 17 → -32768 ≤ t i
  hi : ∀ i, i < 17 → t i ≤ 32767
theorem IsRain.size {c : Array Value} {t : Nat → Int} (h : IsRain c t) : c.size = 17 := h.isK.size
theorem IsRain.ones {c : Array Value} {t : Nat → Int} (h : IsRain c t) : Ones c := h.isK.ones

theorem okWide_arr {P : Program} {w : World} {r : Reach} {base n : Nat} {t e : TypeId} {v : Value} (ht : P.underlying t = some (.array n e)) (h : Value.okWide P w r base t v) : ∃ cs, v = .agg cs ∧ cs.size = P.cellsOf t := by
  simp only [Value.okWide, ht] at h
  obtain ⟨cs, h1, h2, _⟩ := h
  exact ⟨cs, h1, h2⟩

section
variable {H : Type} {enc : TypeId × Value → H} {w : World} {base b0 : Nat} {spare : Nat → Bool} {held : Bool} {r : Reach}
end

end Go.Proofs.YtppohghejhcilaaDoor
