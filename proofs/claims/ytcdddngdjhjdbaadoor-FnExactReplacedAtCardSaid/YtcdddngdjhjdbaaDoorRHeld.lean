/- What the walk of a region that makes memory keeps: a roof's row, a rain's row, and one fact more. -/
import Derived.Test.YtcdddngdjhjdbaaDoorHeld
namespace Go.Proofs.YtcdddngdjhjdbaaDoor
open Go.RowKit
theorem rheldN {B N n m : Nat} {w W : World} {c : Array Value} {l : List Value} {X : Prop} (h : rowAt W n = some c ∧ rowAt W m = some l.toArray ∧ W.rangeAt m 0 l ∧ Below B w W ∧ B ≤ W.heap.size ∧ N ≤ W.heap.size ∧ X) : N ≤ W.heap.size := h.2.2.2.2.2.1
theorem rheldX {B N n m : Nat} {w W w1 : World} {c : Array Value} {l : List Value} {X X' : Prop} (b : Below W.heap.size W w1) (hX : X → X') (h : rowAt W n = some c ∧ rowAt W m = some l.toArray ∧ W.rangeAt m 0 l ∧ Below B w W ∧ B ≤ W.heap.size ∧ N ≤ W.heap.size ∧ X) : rowAt w1 n = some c ∧ rowAt w1 m = some l.toArray ∧ w1.rangeAt m 0 l ∧ Below B w w1 ∧ B ≤ w1.heap.size ∧ N ≤ w1.heap.size ∧ X' :=
  have q := brow b h.2.1
  ⟨brow b h.1, q, rangeAt_of_row q, bnext h.2.2.2.1 b h.2.2.2.2.1, Nat.le_trans h.2.2.2.2.1 b.size, Nat.le_trans h.2.2.2.2.2.1 b.size, hX h.2.2.2.2.2.2⟩
theorem rheld0 {B N n m : Nat} {w W : World} {c : Array Value} {l : List Value} {X : Prop} (h0 : rowAt W n = some c) (h1 : rowAt W m = some l.toArray) (hB : Below B w W) (hs : B ≤ W.heap.size) (hN : N ≤ W.heap.size) (hX : X) : rowAt W.drew n = some c ∧ rowAt W.drew m = some l.toArray ∧ W.drew.rangeAt m 0 l ∧ Below B w W.drew ∧ B ≤ W.drew.heap.size ∧ N ≤ W.drew.heap.size ∧ X :=
  ⟨h0, h1, rangeAt_of_row (w := W.drew) h1, hB.drew, hs, hN, hX⟩
theorem rheldL {B N n m : Nat} {w W w1 : World} {c : Array Value} {l : List Value} {b0 sz k : Nat} {v : Value} {f : Nat → Value} (b : Below W.heap.size W w1) (h : rowAt W n = some c ∧ rowAt W m = some l.toArray ∧ W.rangeAt m 0 l ∧ Below B w W ∧ B ≤ W.heap.size ∧ N ≤ W.heap.size ∧ IsList W b0 v sz k f) : rowAt w1 n = some c ∧ rowAt w1 m = some l.toArray ∧ w1.rangeAt m 0 l ∧ Below B w w1 ∧ B ≤ w1.heap.size ∧ N ≤ w1.heap.size ∧ IsList w1 b0 v sz k f :=
  rheldX b (fun l => l.below b (Nat.le_refl _)) h
theorem rheldLL {B N n m : Nat} {w W w1 : World} {c : Array Value} {l : List Value} {b0 sz k : Nat} {v : Value} {f : Nat → Value} {b0' sz' k' : Nat} {v' : Value} {f' : Nat → Value} (b : Below W.heap.size W w1) (h : rowAt W n = some c ∧ rowAt W m = some l.toArray ∧ W.rangeAt m 0 l ∧ Below B w W ∧ B ≤ W.heap.size ∧ N ≤ W.heap.size ∧ IsList W b0 v sz k f ∧ IsList W b0' v' sz' k' f') : rowAt w1 n = some c ∧ rowAt w1 m = some l.toArray ∧ w1.rangeAt m 0 l ∧ Below B w w1 ∧ B ≤ w1.heap.size ∧ N ≤ w1.heap.size ∧ IsList w1 b0 v sz k f ∧ IsList w1 b0' v' sz' k' f' :=
  rheldX b (fun l => ⟨l.1.below b (Nat.le_refl _), l.2.below b (Nat.le_refl _)⟩) h
/-- Behind a call that writes into blocks from N on alone. -/
theorem rheldM {B N n m : Nat} {w W w1 : World} {c : Array Value} {l : List Value} {X X' : Prop} (b : Below N W w1) (hn : n < N) (hm : m < N) (hBN : B ≤ N) (hX : X → X') (h : rowAt W n = some c ∧ rowAt W m = some l.toArray ∧ W.rangeAt m 0 l ∧ Below B w W ∧ B ≤ W.heap.size ∧ N ≤ W.heap.size ∧ X) : rowAt w1 n = some c ∧ rowAt w1 m = some l.toArray ∧ w1.rangeAt m 0 l ∧ Below B w w1 ∧ B ≤ w1.heap.size ∧ N ≤ w1.heap.size ∧ X' :=
  have q := brow' b hm h.2.1
  ⟨brow' b hn h.1, q, rangeAt_of_row q, h.2.2.2.1.trans (b.mono hBN), Nat.le_trans h.2.2.2.2.1 b.size, Nat.le_trans h.2.2.2.2.2.1 b.size, hX h.2.2.2.2.2.2⟩
end Go.Proofs.YtcdddngdjhjdbaaDoor
