/- The sum of rain, and even rain: contracts of both sides. -/
import Derived.Test.YtoibolmippfcgaaDoorRainV
namespace Go.Proofs.YtoibolmippfcgaaDoor
open Go.RowKit

noncomputable def Rf.rcode (r : Rf) (t : Nat → Int) : Int := if r.rok t = true then 0 else 1
noncomputable def Rf.rval (r : Rf) (t : Nat → Int) (x : Int) : Int := if r.rok t = true then x else 0
theorem Rf.rcode_t {r : Rf} {t : Nat → Int} (h : r.Rains t) : r.rcode t = 0 := if_pos (Rf.rok_true h)
theorem Rf.rcode_f {r : Rf} {t : Nat → Int} (h : ¬ r.Rains t) : r.rcode t = 1 := by simp [Rf.rcode, Rf.rok_false h]
theorem Rf.rval_t {r : Rf} {t : Nat → Int} (h : r.Rains t) (x : Int) : r.rval t x = x := if_pos (Rf.rok_true h)
theorem Rf.rval_f {r : Rf} {t : Nat → Int} (h : ¬ r.Rains t) (x : Int) : r.rval t x = 0 := by simp [Rf.rval, Rf.rok_false h]
theorem Rf.Rains.bd {r : Rf} {t : Nat → Int} (h : r.Rains t) : ∀ i, i < 17 → 0 ≤ t i ∧ t i ≤ 1000 := fun i hi => (h.2 i hi).1

end Go.Proofs.YtoibolmippfcgaaDoor
