/- Contracts of the laws' own helpers: they copy what came in. -/
import Derived.Test.YtppohghejhcilaaTy
import Derived.Test.YtppohghejhcilaaRoof
namespace Go.Proofs.Ytppohghejhcilaa
open Go.RowKit

theorem roof_copy (c : Array Value) (r : Rf) (h : IsRoof c r) (z : Array Value) (hz : z.size = 67) (hz0 : z[0]? = some (.int .i8 r.w)) (hz1 : z[1]? = some (.int .i8 r.h)) (hz2 : z[2]? = some (.int .u8 r.s)) : splice z 3 (c.extract 3 67) = c := by
  have hc := h.size
  have he : (c.extract 3 67).size = 64 := by simp; omega
  apply Array.ext_getElem?; intro i
  rw [get_splice _ _ _ (by omega), he]
  by_cases h3 : i < 3
  · rw [if_pos h3]
    have : i = 0 ∨ i = 1 ∨ i = 2 := by omega
    rcases this with rfl | rfl | rfl
    · rw [hz0, Array.getElem?_eq_getElem (by omega), h.wide]
    · rw [hz1, Array.getElem?_eq_getElem (by omega), h.high]
    · rw [hz2, Array.getElem?_eq_getElem (by omega), h.shift]
  · rw [if_neg h3]
    by_cases h6 : i < 67
    · rw [if_pos (by omega), get_extract _ _ _ _ (by omega) (by omega)]
      congr 1; omega
    · rw [if_neg (by omega)]
      simp [hz, hc, h6]

end Go.Proofs.Ytppohghejhcilaa
