/- CutRoof: what is written. -/
import Derived.Test.YtfkcjgeeklngiaaMirS
import Derived.Test.YtfkcjgeeklngiaaCopyN
import Derived.Test.YtfkcjgeeklngiaaCourse
import Derived.Test.YtfkcjgeeklngiaaCells
namespace Go.Proofs.Ytfkcjgeeklngiaa
open Go.RowKit

theorem IsRoof.spliced {X c : Array Value} {q r : Rf} (hX : IsRoof X q) (hR : IsRoof c r) (o b m : Nat) (ho : o + m ≤ 64) (hb : b + m ≤ 64) :
    IsRoof (splice X (3 + o) (c.extract (3 + b) (3 + b + m))) { q with t := fun i => if o ≤ i ∧ i < o + m then r.t (b + (i - o)) else q.t i } := by
  have hs := hX.size
  have cs := hR.size
  have es : (c.extract (3 + b) (3 + b + m)).size = m := by simp; omega
  have sz : (splice X (3 + o) (c.extract (3 + b) (3 + b + m))).size = 67 := by rw [size_splice _ _ _ (by rw [es]; omega)]; exact hs
  refine ⟨sz, fun hh => get_of ?_ hh, fun hh => get_of ?_ hh, fun hh => get_of ?_ hh, ⟨by simp [sz], fun i hi => ?_, fun i hi => ?_, fun i hi => ?_⟩, hX.w0, hX.w1, hX.h0, hX.h1, hX.s0, hX.s1⟩
  · rw [get_splice _ _ _ (by rw [es]; omega), if_pos (by omega), Array.getElem?_eq_getElem (by omega), hX.wide]
  · rw [get_splice _ _ _ (by rw [es]; omega), if_pos (by omega), Array.getElem?_eq_getElem (by omega), hX.high]
  · rw [get_splice _ _ _ (by rw [es]; omega), if_pos (by omega), Array.getElem?_eq_getElem (by omega), hX.shift]
  · have hi' : i < 64 := by simp [sz] at hi; omega
    refine get_of ?_ hi
    show _ = some (Value.int .u8 (if o ≤ i ∧ i < o + m then r.t (b + (i - o)) else q.t i))
    rw [get_extract _ _ _ _ (by omega) (by omega), get_splice _ _ _ (by rw [es]; omega), es]
    by_cases h1 : i < o
    · rw [if_pos (by omega), Array.getElem?_eq_getElem (by omega), hX.tile _ _ (by omega), if_neg (by omega), show 3 + i - 3 = i from by omega]
    · rw [if_neg (by omega)]
      by_cases h2 : i < o + m
      · rw [if_pos (by omega), if_pos (by omega), get_extract _ _ _ _ (by omega) (by omega), Array.getElem?_eq_getElem (by omega), hR.tile _ _ (by omega), show 3 + b + (3 + i - (3 + o)) - 3 = b + (i - o) from by omega]
      · rw [if_neg (by omega), if_neg (by omega), Array.getElem?_eq_getElem (by omega), hX.tile _ _ (by omega), show 3 + i - 3 = i from by omega]
  · dsimp only; split
    · exact hR.tiles.lo _ (by omega)
    · exact hX.tiles.lo _ hi
  · dsimp only; split
    · exact hR.tiles.hi _ (by omega)
    · exact hX.tiles.hi _ hi
/-- The roof cut, before any tile is written. -/
noncomputable def cut0 (r : Rf) (a n : Int) : Array Value := ((Try.zeroCells33.setIfInBounds 0 (.int .i8 r.w)).setIfInBounds 1 (.int .i8 n)).setIfInBounds 2 (.int .u8 (r.by a))
theorem cut0_is {c : Array Value} {r : Rf} (hR : IsRoof c r) {a n : Int} (h0 : 0 ≤ n) (h1 : n ≤ 8) : IsRoof (cut0 r a n) ⟨r.w, n, r.by a, fun _ => 0⟩ :=
  ((zroof_is.widened r.w hR.w0 hR.w1).highed n (by omega) (by omega)).shifted (r.by a) (r.by_bd a).1 (by have := (r.by_bd a).2; omega)
/-- Behind k courses. -/
noncomputable def cutA (c : Array Value) (r : Rf) (a k : Nat) (n : Int) : Array Value := splice (cut0 r a n) 3 (c.extract (3 + a * 8) (3 + a * 8 + k * 8))
def cutQ (r : Rf) (a k : Nat) (n : Int) : Rf := ⟨r.w, n, r.by a, fun i => if i < k * 8 then r.t (a * 8 + i) else 0⟩
theorem cutA_is {c : Array Value} {r : Rf} (hR : IsRoof c r) {a k : Nat} {n : Int} (h0 : 0 ≤ n) (h1 : n ≤ 8) (hk : a + k ≤ 8) : IsRoof (cutA c r a k n) (cutQ r a k n) := by
  have := (cut0_is hR (a := a) h0 h1).spliced hR 0 (a * 8) (k * 8) (by omega) (by omega)
  have e : cutQ r a k n = { (⟨r.w, n, r.by a, fun _ => 0⟩ : Rf) with t := fun i => if 0 ≤ i ∧ i < 0 + k * 8 then r.t (a * 8 + (i - 0)) else 0 } := by
    unfold cutQ; congr 1; funext i; simp
  rw [e]; exact this
theorem cutA_zero {c : Array Value} {r : Rf} (hR : IsRoof c r) {a : Nat} {n : Int} (h0 : 0 ≤ n) (h1 : n ≤ 8) (hk : a ≤ 8) : cutA c r a 0 n = cut0 r a n := by
  refine IsRoof.one (cutA_is hR h0 h1 (by omega)) ?_
  have e : cutQ r a 0 n = ⟨r.w, n, r.by a, fun _ => 0⟩ := by unfold cutQ; simp
  rw [e]; exact cut0_is hR h0 h1
theorem cutA_succ {c : Array Value} {r : Rf} (hR : IsRoof c r) {a k : Nat} {n : Int} (h0 : 0 ≤ n) (h1 : n ≤ 8) (hk : a + (k + 1) ≤ 8) :
    splice (cutA c r a k n) (3 + k * 8) (c.extract (3 + (a + k) * 8) (3 + (a + k) * 8 + 8)) = cutA c r a (k + 1) n := by
  refine IsRoof.one ((cutA_is hR h0 h1 (by omega)).spliced hR (k * 8) ((a + k) * 8) 8 (by omega) (by omega)) ?_
  have e : { cutQ r a k n with t := fun i => if k * 8 ≤ i ∧ i < k * 8 + 8 then r.t ((a + k) * 8 + (i - k * 8)) else (cutQ r a k n).t i } = cutQ r a (k + 1) n := by
    unfold cutQ; dsimp only; congr 1; funext i
    by_cases c1 : i < k * 8
    · rw [if_neg (by omega), if_pos c1, if_pos (by omega)]
    · by_cases c2 : i < (k + 1) * 8
      · rw [if_pos (by omega), if_pos c2]; congr 1; omega
      · rw [if_neg (by omega), if_neg c1, if_neg c2]
  rw [e]; exact cutA_is hR h0 h1 (by omega)
theorem gen_callsC {P : Program} {f : FuncId} {args : Array Value} {Q : Ending → World → Prop} {w : World} (h : ∀ W, W = w → Calls P f args W Q) : Calls P f args w Q := h w rfl
theorem cutA_ones {c : Array Value} {r : Rf} (hR : IsRoof c r) {a k : Nat} {n : Int} (h0 : 0 ≤ n) (h1 : n ≤ 8) (hk : a + k ≤ 8) : Ones (cutA c r a k n) ∧ (cutA c r a k n).size = 67 := ⟨(cutA_is hR h0 h1 hk).ones, (cutA_is hR h0 h1 hk).size⟩
end Go.Proofs.Ytfkcjgeeklngiaa
