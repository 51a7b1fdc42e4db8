/- A roof in which one tile has another kind. -/
import Derived.Test.YtcdddngdjhjdbaaDoorEnd
namespace Go.Proofs.YtcdddngdjhjdbaaDoor
open Go.RowKit

/-- A roof with another kind at a place. -/
def Rf.set (r : Rf) (x : Nat) (k : Int) : Rf := { r with t := fun y => if y = x then k else r.t y }
theorem IsRoof.set {c : Array Value} {r : Rf} (h : IsRoof c r) (x : Nat) (hx : x < 64) (k : Int) (hk : 0 ≤ k ∧ k ≤ 255) : IsRoof (c.setIfInBounds (3 + x) (.int .u8 k)) (r.set x k) where
  size := by simpa using h.size
  wide hh := get_of (by have := h.size; rw [Array.getElem?_setIfInBounds_ne (by omega), Array.getElem?_eq_getElem (by omega), h.wide]; rfl) hh
  high hh := get_of (by have := h.size; rw [Array.getElem?_setIfInBounds_ne (by omega), Array.getElem?_eq_getElem (by omega), h.high]; rfl) hh
  shift hh := get_of (by have := h.size; rw [Array.getElem?_setIfInBounds_ne (by omega), Array.getElem?_eq_getElem (by omega), h.shift]; rfl) hh
  tiles := ⟨by have := h.size; simp [this], fun i hi => by
    have hs := h.size
    have hi' : i < 64 := by simp [hs] at hi; omega
    refine get_of ?_ hi
    rw [get_extract _ _ _ _ (by omega) (by simp [hs])]
    by_cases hix : i = x
    · subst hix
      rw [Array.getElem?_setIfInBounds_self_of_lt (by omega)]; simp [Rf.set]
    · rw [Array.getElem?_setIfInBounds_ne (by omega), Array.getElem?_eq_getElem (by omega), h.tile _ _ (by omega), show 3 + i - 3 = i from by omega]; simp [Rf.set, hix],
    fun i hi => by unfold Rf.set; dsimp only; split; · exact hk.1
                   · exact h.tiles.lo i hi, fun i hi => by unfold Rf.set; dsimp only; split; · exact hk.2
                                                           · exact h.tiles.hi i hi⟩
  w0 := h.w0
  w1 := h.w1
  h0 := h.h0
  h1 := h.h1
  s0 := h.s0
  s1 := h.s1
end Go.Proofs.YtcdddngdjhjdbaaDoor
