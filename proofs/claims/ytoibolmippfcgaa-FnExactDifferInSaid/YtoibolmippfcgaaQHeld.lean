/- What the walk of a region that makes memory keeps: two rows, and one fact more. -/
import Derived.Test.YtoibolmippfcgaaHeld
namespace Go.Proofs.Ytoibolmippfcgaa
open Go.RowKit
theorem qheldN {B N n m : Nat} {w W : World} {c : Array Value} {l : Array Value} {X : Prop} (h : rowAt W n = some c ∧ rowAt W m = some l ∧ True ∧ Below B w W ∧ B ≤ W.heap.size ∧ N ≤ W.heap.size ∧ X) : N ≤ W.heap.size := h.2.2.2.2.2.1
theorem qheldX {B N n m : Nat} {w W w1 : World} {c : Array Value} {l : Array Value} {X X' : Prop} (b : Below W.heap.size W w1) (hX : X → X') (h : rowAt W n = some c ∧ rowAt W m = some l ∧ True ∧ Below B w W ∧ B ≤ W.heap.size ∧ N ≤ W.heap.size ∧ X) : rowAt w1 n = some c ∧ rowAt w1 m = some l ∧ True ∧ Below B w w1 ∧ B ≤ w1.heap.size ∧ N ≤ w1.heap.size ∧ X' :=
  have q := brow b h.2.1
  ⟨brow b h.1, q, trivial, bnext h.2.2.2.1 b h.2.2.2.2.1, Nat.le_trans h.2.2.2.2.1 b.size, Nat.le_trans h.2.2.2.2.2.1 b.size, hX h.2.2.2.2.2.2⟩
theorem qheld0 {B N n m : Nat} {w W : World} {c : Array Value} {l : Array Value} {X : Prop} (h0 : rowAt W n = some c) (h1 : rowAt W m = some l) (hB : Below B w W) (hs : B ≤ W.heap.size) (hN : N ≤ W.heap.size) (hX : X) : rowAt W.drew n = some c ∧ rowAt W.drew m = some l ∧ True ∧ Below B w W.drew ∧ B ≤ W.drew.heap.size ∧ N ≤ W.drew.heap.size ∧ X :=
  ⟨h0, h1, trivial, hB.drew, hs, hN, hX⟩
theorem qheldL {B N n m : Nat} {w W w1 : World} {c : Array Value} {l : Array Value} {b0 sz k : Nat} {v : Value} {f : Nat → Value} (b : Below W.heap.size W w1) (h : rowAt W n = some c ∧ rowAt W m = some l ∧ True ∧ Below B w W ∧ B ≤ W.heap.size ∧ N ≤ W.heap.size ∧ IsList W b0 v sz k f) : rowAt w1 n = some c ∧ rowAt w1 m = some l ∧ True ∧ Below B w w1 ∧ B ≤ w1.heap.size ∧ N ≤ w1.heap.size ∧ IsList w1 b0 v sz k f :=
  qheldX b (fun l => l.below b (Nat.le_refl _)) h
theorem qheldLL {B N n m : Nat} {w W w1 : World} {c : Array Value} {l : Array Value} {b0 sz k : Nat} {v : Value} {f : Nat → Value} {b0' sz' k' : Nat} {v' : Value} {f' : Nat → Value} (b : Below W.heap.size W w1) (h : rowAt W n = some c ∧ rowAt W m = some l ∧ True ∧ Below B w W ∧ B ≤ W.heap.size ∧ N ≤ W.heap.size ∧ IsList W b0 v sz k f ∧ IsList W b0' v' sz' k' f') : rowAt w1 n = some c ∧ rowAt w1 m = some l ∧ True ∧ Below B w w1 ∧ B ≤ w1.heap.size ∧ N ≤ w1.heap.size ∧ IsList w1 b0 v sz k f ∧ IsList w1 b0' v' sz' k' f' :=
  qheldX b (fun l => ⟨l.1.below b (Nat.le_refl _), l.2.below b (Nat.le_refl _)⟩) h
/-- Behind a call that writes into blocks from N on alone. -/
theorem qheldM {B N n m : Nat} {w W w1 : World} {c : Array Value} {l : Array Value} {X X' : Prop} (b : Below N W w1) (hn : n < N) (hm : m < N) (hBN : B ≤ N) (hX : X → X') (h : rowAt W n = some c ∧ rowAt W m = some l ∧ True ∧ Below B w W ∧ B ≤ W.heap.size ∧ N ≤ W.heap.size ∧ X) : rowAt w1 n = some c ∧ rowAt w1 m = some l ∧ True ∧ Below B w w1 ∧ B ≤ w1.heap.size ∧ N ≤ w1.heap.size ∧ X' :=
  have q := brow' b hm h.2.1
  ⟨brow' b hn h.1, q, trivial, h.2.2.2.1.trans (b.mono hBN), Nat.le_trans h.2.2.2.2.1 b.size, Nat.le_trans h.2.2.2.2.2.1 b.size, hX h.2.2.2.2.2.2⟩
end Go.Proofs.Ytoibolmippfcgaa
