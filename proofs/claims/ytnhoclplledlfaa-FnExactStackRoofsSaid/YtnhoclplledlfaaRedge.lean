/- A roof with another height; a roof into which rows of another are copied; its cells are what it says. (The same as in MirA, MirS and CutA, under other names: for seats without these.) -/
import Derived.Test.YtnhoclplledlfaaRset
import Derived.Test.YtnhoclplledlfaaCopyN
namespace Go.Proofs.Ytnhoclplledlfaa
open Go.RowKit

theorem IsRoof.uniq {c e : Array Value} {r : Rf} (h : IsRoof c r) (k : IsRoof e r) : c = e := by
  have hs := h.size
  have ks := k.size
  refine Array.ext (by omega) fun i h1 h2 => ?_
  by_cases h3 : 3 ≤ i
  · rw [h.tile i h1 h3, k.tile i h2 h3]
  · have : i = 0 ∨ i = 1 ∨ i = 2 := by omega
    rcases this with rfl | rfl | rfl
    · rw [h.wide h1, k.wide h2]
    · rw [h.high h1, k.high h2]
    · rw [h.shift h1, k.shift h2]
theorem IsRoof.setH {c : Array Value} {r : Rf} (h : IsRoof c r) (k : Int) (h0 : -128 ≤ k) (h1 : k ≤ 127) : IsRoof (c.setIfInBounds 1 (.int .i8 k)) { r with h := k } where
  size := by simpa using h.size
  wide hh := get_of (by have := h.size; rw [Array.getElem?_setIfInBounds_ne (by omega), Array.getElem?_eq_getElem (by omega), h.wide]) hh
  high hh := get_of (by have := h.size; rw [Array.getElem?_setIfInBounds_self_of_lt (by omega)]) hh
  shift hh := get_of (by have := h.size; rw [Array.getElem?_setIfInBounds_ne (by omega), Array.getElem?_eq_getElem (by omega), h.shift]) hh
  tiles := ⟨by have := h.size; simp [this], fun i hi => by
    have hs := h.size
    have hi' : i < 64 := by simp [hs] at hi; omega
    refine get_of ?_ hi
    rw [get_extract _ _ _ _ (by omega) (by simp [hs]), Array.getElem?_setIfInBounds_ne (by omega), Array.getElem?_eq_getElem (by omega), h.tile _ _ (by omega), show 3 + i - 3 = i from by omega], h.tiles.lo, h.tiles.hi⟩
  w0 := h.w0
  w1 := h.w1
  h0 := h0
  h1 := h1
  s0 := h.s0
  s1 := h.s1
theorem IsRoof.splc {X c : Array Value} {q r : Rf} (hX : IsRoof X q) (hR : IsRoof c r) (o b m : Nat) (ho : o + m ≤ 64) (hb : b + m ≤ 64) :
    IsRoof (splice X (3 + o) (c.extract (3 + b) (3 + b + m))) { q with t := fun i => if o ≤ i ∧ i < o + m then r.t (b + (i - o)) else q.t i } := by
  have hs := hX.size
  have cs := hR.size
  have es : (c.extract (3 + b) (3 + b + m)).size = m := by simp; omega
  have sz : (splice X (3 + o) (c.extract (3 + b) (3 + b + m))).size = 67 := by rw [size_splice _ _ _ (by rw [es]; omega)]; exact hs
  refine ⟨sz, fun hh => get_of ?_ hh, fun hh => get_of ?_ hh, fun hh => get_of ?_ hh, ⟨by simp [sz], fun i hi => ?_, fun i hi => ?_, fun i hi => ?_⟩, hX.w0, hX.w1, hX.h0, hX.h1, hX.s0, hX.s1⟩
  · rw [get_splice _ _ _ (by rw [es]; omega), if_pos (by omega), Array.getElem?_eq_getElem (by omega), hX.wide]
  · rw [get_splice _ _ _ (by rw [es]; omega), if_pos (by omega), Array.getElem?_eq_getElem (by omega), hX.high]
  · rw [get_splice _ _ _ (by rw [es]; omega), if_pos (by omega), Array.getElem?_eq_getElem (by omega), hX.shift]
  · have hi' : i < 64 := by simp [sz] at hi; omega
    refine get_of ?_ hi
    show _ = some (Value.int .u8 (if o ≤ i ∧ i < o + m then r.t (b + (i - o)) else q.t i))
    rw [get_extract _ _ _ _ (by omega) (by omega), get_splice _ _ _ (by rw [es]; omega), es]
    by_cases h1 : i < o
    · rw [if_pos (by omega), Array.getElem?_eq_getElem (by omega), hX.tile _ _ (by omega), if_neg (by omega), show 3 + i - 3 = i from by omega]
    · rw [if_neg (by omega)]
      by_cases h2 : i < o + m
      · rw [if_pos (by omega), if_pos (by omega), get_extract _ _ _ _ (by omega) (by omega), Array.getElem?_eq_getElem (by omega), hR.tile _ _ (by omega), show 3 + b + (3 + i - (3 + o)) - 3 = b + (i - o) from by omega]
      · rw [if_neg (by omega), if_neg (by omega), Array.getElem?_eq_getElem (by omega), hX.tile _ _ (by omega), show 3 + i - 3 = i from by omega]
  · dsimp only; split
    · exact hR.tiles.lo _ (by omega)
    · exact hX.tiles.lo _ hi
  · dsimp only; split
    · exact hR.tiles.hi _ (by omega)
    · exact hX.tiles.hi _ hi
end Go.Proofs.Ytnhoclplledlfaa
