/- MirrorRoof: what is written, and a region that ends in a store within a round. -/
import Derived.Test.YtcdobpnejbfbpabMendAll
import Derived.Test.YtcdobpnejbfbpabLift
namespace Go.Proofs.Ytcdobpnejbfbpab
open Go.RowKit

/-- A region whose operations only read, but for those behind the first n, within a round. -/
theorem wpIn_still_tail {m k id : Nat} {P : Program} {Q : Exit → Act → World → Prop} {a : Act} {w : World} {ls : List Oper} (n : Nat) (hm : P.follows .mixedOrders = true) (hd : calmB ls.toArray = true) (hB : Region.lexTailB .any ls.toArray n = true)
    (h : wpStill P ls.toArray w.drew (fun a' => wpList P ls.toArray (OnlyN Q) (ls.drop n) a' w.drew) (ls.take n) a) : (Code.region id ls.toArray true).wpIn (Fence.wide.inRound m) k P Q a w := by
  obtain ⟨⟨⟨⟨b1, b2⟩, b3⟩, b4⟩, b5⟩ : (((Region.noSelect ls.toArray = true ∧ n < ls.toArray.size) ∧ Region.sinkB .any ls.toArray n = true) ∧ Region.chainB .any ls.toArray n = true) ∧ Region.lexHead .any ls.toArray (ls.toArray.size - n) n 0 (Array.replicate ls.toArray.size false) = true := by
    simpa only [Region.lexTailB, Bool.and_eq_true, decide_eq_true_eq] using hB
  have hn : n < ls.length := by simpa using b2
  have l1 : (ls.take n).length = n := by simp; omega
  have l2 : (ls.drop n).length = ls.toArray.size - n := by simp
  have inv : HeadInv .any ls.toArray n (Array.replicate ls.toArray.size false) :=
    ⟨by simp, fun j oj _ hl => (by rw [getD_replicate_false] at hl; cases hl), fun t _ ht => getD_in (by simpa using ht) (getD_replicate_false _ _)⟩
  have head := wpAnyL_lex (md := .any) (g := ls.toArray.size - n) b1 b3 b4 b2 (ls.take n) 0 _ a
    (fun j hj => by rw [l1] at hj; simp [hj]) (by simpa using l1) inv (by rw [l1]; exact b5) h
  have all := wpAny_of_head (Q' := OnlyN Q) (g := ls.toArray.size - n) (fun listed a' hL => by
    have := wpAny_of_seq (md := .any) (Q' := OnlyN Q) (ls.drop n) n listed a' w.drew (fun j => by simp [List.getElem?_drop]) (by rw [l2]; exact hL.1) hL.2
    rwa [l2] at this) _ _ _ head
  rw [l1, show n + (ls.toArray.size - n) = ls.toArray.size by omega] at all
  exact wpIn_region_any hm (wpAny_in hd _ _ _ _ all)

theorem IsRoof.one {c e : Array Value} {r : Rf} (h : IsRoof c r) (k : IsRoof e r) : c = e := by
  have hs := h.size
  have ks := k.size
  refine Array.ext (by omega) fun i h1 h2 => ?_
  by_cases h3 : 3 ≤ i
  · rw [h.tile i h1 h3, k.tile i h2 h3]
  · have : i = 0 ∨ i = 1 ∨ i = 2 := by omega
    rcases this with rfl | rfl | rfl
    · rw [h.wide h1, k.wide h2]
    · rw [h.high h1, k.high h2]
    · rw [h.shift h1, k.shift h2]
theorem IsRoof.shifted {c : Array Value} {r : Rf} (h : IsRoof c r) (k : Int) (h0 : 0 ≤ k) (h1 : k ≤ 255) : IsRoof (c.setIfInBounds 2 (.int .u8 k)) { r with s := k } where
  size := by simpa using h.size
  wide hh := get_of (by have := h.size; rw [Array.getElem?_setIfInBounds_ne (by omega), Array.getElem?_eq_getElem (by omega), h.wide]) hh
  high hh := get_of (by have := h.size; rw [Array.getElem?_setIfInBounds_ne (by omega), Array.getElem?_eq_getElem (by omega), h.high]) hh
  shift hh := get_of (by have := h.size; rw [Array.getElem?_setIfInBounds_self_of_lt (by omega)]) hh
  tiles := ⟨by have := h.size; simp [this], fun i hi => by
    have hs := h.size
    have hi' : i < 64 := by simp [hs] at hi; omega
    refine get_of ?_ hi
    rw [get_extract _ _ _ _ (by omega) (by simp [hs]), Array.getElem?_setIfInBounds_ne (by omega), Array.getElem?_eq_getElem (by omega), h.tile _ _ (by omega), show 3 + i - 3 = i from by omega], h.tiles.lo, h.tiles.hi⟩
  w0 := h.w0
  w1 := h.w1
  h0 := h.h0
  h1 := h.h1
  s0 := h0
  s1 := h1
/-- X with the tiles of some places, each on the other side. -/
def mirA (r : Rf) {h w : Nat} (X : Array Value) (l : List (Pl h w)) : Array Value := l.foldl (fun a x => a.setIfInBounds (3 + x.1.1 * 8 + (w - 1 - x.1.2)) (.int .u8 (r.t (x.1.1 * 8 + x.1.2)))) X
theorem mirA_snoc {r : Rf} {h w : Nat} {X : Array Value} {l : List (Pl h w)} {x : Pl h w} : mirA r X (l ++ [x]) = (mirA r X l).setIfInBounds (3 + x.1.1 * 8 + (w - 1 - x.1.2)) (.int .u8 (r.t (x.1.1 * 8 + x.1.2))) := by simp [mirA]
theorem mirA_is {c : Array Value} {r : Rf} (hR : IsRoof c r) {h w : Nat} (h8 : h ≤ 8) (w8 : w ≤ 8) : ∀ (l : List (Pl h w)) {X : Array Value} {q : Rf}, IsRoof X q → ∃ q', IsRoof (mirA r X l) q'
  | [], _, q, hX => ⟨q, hX⟩
  | x :: l, X, q, hX => by
    have h1 := x.2.1
    have h2 := x.2.2
    have := hX.set (x.1.1 * 8 + (w - 1 - x.1.2)) (by omega) (r.t (x.1.1 * 8 + x.1.2)) ⟨hR.tiles.lo _ (by omega), hR.tiles.hi _ (by omega)⟩
    rw [← Nat.add_assoc] at this
    exact mirA_is hR h8 w8 l this
/-- The roof before any tile is written. -/
def mir0 (c : Array Value) (r : Rf) : Array Value := (bareC c).setIfInBounds 2 (.int .u8 (1 - r.s))
theorem mir0_is {c : Array Value} {r : Rf} (hR : IsRoof c r) (h0 : 0 ≤ 1 - r.s) : IsRoof (mir0 c r) { r.bare with s := 1 - r.s } := hR.bare.shifted _ h0 (by have := hR.s0; omega)
end Go.Proofs.Ytcdobpnejbfbpab
