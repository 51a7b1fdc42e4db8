/- StackRoofs: what is written. -/
import Derived.Test.YtnhoclplledlfaaRedge
import Derived.Test.YtnhoclplledlfaaCourse
namespace Go.Proofs.Ytnhoclplledlfaa
open Go.RowKit

/-- Behind k courses. -/
def stkA (c e : Array Value) (h k : Nat) : Array Value := splice c (3 + h * 8) (e.extract 3 (3 + k * 8))
def stkQ (r q : Rf) (h k : Nat) : Rf := { r with t := fun i => if h * 8 ≤ i ∧ i < h * 8 + k * 8 then q.t (i - h * 8) else r.t i }
theorem stkA_is {c e : Array Value} {r q : Rf} (hR : IsRoof c r) (hQ : IsRoof e q) {h k : Nat} (hk : h + k ≤ 8) : IsRoof (stkA c e h k) (stkQ r q h k) := by
  have := hR.splc hQ (h * 8) 0 (k * 8) (by omega) (by omega)
  rw [Nat.add_zero] at this
  have e1 : stkQ r q h k = { r with t := fun i => if h * 8 ≤ i ∧ i < h * 8 + k * 8 then q.t (0 + (i - h * 8)) else r.t i } := by
    unfold stkQ; congr 1; funext i; rw [Nat.zero_add]
  rw [e1]; exact this
theorem stkA_zero {c e : Array Value} {r q : Rf} (hR : IsRoof c r) (hQ : IsRoof e q) {h : Nat} (hk : h ≤ 8) : stkA c e h 0 = c := by
  refine IsRoof.uniq (stkA_is hR hQ (by omega)) ?_
  have e1 : stkQ r q h 0 = r := by
    have : (fun i => if h * 8 ≤ i ∧ i < h * 8 + 0 * 8 then q.t (i - h * 8) else r.t i) = r.t := by funext i; rw [if_neg (by omega)]
    unfold stkQ; rw [this]
  rw [e1]; exact hR
theorem stkA_succ {c e : Array Value} {r q : Rf} (hR : IsRoof c r) (hQ : IsRoof e q) {h k : Nat} (hk : h + (k + 1) ≤ 8) :
    splice (stkA c e h k) (3 + (h + k) * 8) (e.extract (3 + k * 8) (3 + k * 8 + 8)) = stkA c e h (k + 1) := by
  refine IsRoof.uniq ((stkA_is hR hQ (by omega)).splc hQ ((h + k) * 8) (k * 8) 8 (by omega) (by omega)) ?_
  have e1 : { stkQ r q h k with t := fun i => if (h + k) * 8 ≤ i ∧ i < (h + k) * 8 + 8 then q.t (k * 8 + (i - (h + k) * 8)) else (stkQ r q h k).t i } = stkQ r q h (k + 1) := by
    unfold stkQ; dsimp only; congr 1; funext i
    by_cases c1 : (h + k) * 8 ≤ i ∧ i < (h + k) * 8 + 8
    · rw [if_pos c1, if_pos (by omega)]; congr 1; omega
    · by_cases c2 : h * 8 ≤ i ∧ i < h * 8 + k * 8
      · rw [if_neg c1, if_pos c2, if_pos (by omega)]
      · rw [if_neg c1, if_neg c2, if_neg (by omega)]
  rw [e1]; exact stkA_is hR hQ hk
theorem stkA_ones {c e : Array Value} {r q : Rf} (hR : IsRoof c r) (hQ : IsRoof e q) {h k : Nat} (hk : h + k ≤ 8) : Ones (stkA c e h k) ∧ (stkA c e h k).size = 67 := ⟨(stkA_is hR hQ hk).ones, (stkA_is hR hQ hk).size⟩
/-- The roof stacked. -/
def stkF (c e : Array Value) (h k : Nat) : Array Value := (stkA c e h k).setIfInBounds 1 (.int .i8 ((h : Int) + (k : Int)))
theorem stkF_is {c e : Array Value} {r q : Rf} (hR : IsRoof c r) (hQ : IsRoof e q) {h k : Nat} (hk : h + k ≤ 8) : IsRoof (stkF c e h k) { stkQ r q h k with h := ((h : Int) + (k : Int)) } := (stkA_is hR hQ hk).setH _ (by omega) (by omega)
theorem three_boxes (w : World) (c d z : Array Value) (t s : TypeId) :
    rowAt (((w.alloc (.cells c t)).alloc (.cells d t)).alloc (.cells z s)) w.heap.size = some c ∧ rowAt (((w.alloc (.cells c t)).alloc (.cells d t)).alloc (.cells z s)) (w.heap.size + 1) = some d ∧ rowAt (((w.alloc (.cells c t)).alloc (.cells d t)).alloc (.cells z s)) (w.heap.size + 1 + 1) = some z ∧ Below w.heap.size w (((w.alloc (.cells c t)).alloc (.cells d t)).alloc (.cells z s)) :=
  ⟨(rowAt_alloc_past _ _ _ (by simp; omega)).trans ((rowAt_alloc_past _ _ _ (by simp)).trans (rowAt_alloc_at _ _ _ _ rfl)), (rowAt_alloc_past _ _ _ (by simp)).trans (rowAt_alloc_at _ _ _ _ (by simp)), rowAt_alloc_at _ _ _ _ (by simp), (((Below.refl _ _).alloc (Nat.le_refl _) _).alloc (by simp) _).alloc (by simp; omega) _⟩
end Go.Proofs.Ytnhoclplledlfaa
