/- Valid rain: contracts of both sides. -/
import Derived.Test.YtppohghejhcilaaDoorRain
import Derived.Test.YtppohghejhcilaaDoorTile
import Derived.Deep.RegionHeld3
import Derived.Laws.CopyOwn
import Derived.Deep.RegionLaw
namespace Go.Proofs.YtppohghejhcilaaDoor
open Go.RowKit

/-- Rain as a valid roof has it. -/
def Rf.rfine (r : Rf) (t : Nat → Int) (i : Nat) : Prop := (0 ≤ t i ∧ t i ≤ 1000) ∧ ((i : Int) < 2 * r.w + 1 ∨ t i = 0)
def Rf.Rains (r : Rf) (t : Nat → Int) : Prop := r.Ok ∧ ∀ i, i < 17 → r.rfine t i
open Classical in
noncomputable def Rf.rok (r : Rf) (t : Nat → Int) : Bool := decide (r.Rains t)
theorem Rf.rok_true {r : Rf} {t : Nat → Int} (h : r.Rains t) : r.rok t = true := by simp [Rf.rok, h]
theorem Rf.rok_false {r : Rf} {t : Nat → Int} (h : ¬ r.Rains t) : r.rok t = false := by simp [Rf.rok, h]
theorem Rf.Rains_of {r : Rf} {t : Nat → Int} (h : r.rok t = true) : r.Rains t := by simpa [Rf.rok] using h
theorem Rf.not_rains {r : Rf} {t : Nat → Int} (h : r.rok t = false) : ¬ r.Rains t := by simpa [Rf.rok] using h

/-- Two boxed arguments: both rows. -/
theorem two_boxes (w : World) (c d : Array Value) (t1 t2 : TypeId) :
    rowAt ((w.alloc (.cells c t1)).alloc (.cells d t2)) w.heap.size = some c ∧ rowAt ((w.alloc (.cells c t1)).alloc (.cells d t2)) (w.heap.size + 1) = some d ∧ Below w.heap.size w ((w.alloc (.cells c t1)).alloc (.cells d t2)) :=
  ⟨(rowAt_alloc_past _ _ _ (by simp)).trans (rowAt_alloc_at _ _ _ _ rfl), rowAt_alloc_at _ _ _ _ (by simp), ((Below.refl _ _).alloc (Nat.le_refl _) _).alloc (by simp) _⟩

end Go.Proofs.YtppohghejhcilaaDoor
