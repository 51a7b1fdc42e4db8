/- What the walk of a region that makes memory keeps: a roof's row, a place's row, and one fact more. -/
import Derived.Test.YtcdddngdjhjdbaaDoorList
import Derived.Test.YtcdddngdjhjdbaaDoorRoof
namespace Go.Proofs.YtcdddngdjhjdbaaDoor
open Go.RowKit
theorem heldN {B N n m : Nat} {w W : World} {c : Array Value} {x y : Value} {X : Prop}
    (h : rowAt W n = some c ∧ (W.cell? ⟨m, 0, none⟩ = some x ∧ W.cell? ⟨m, 1, none⟩ = some y) ∧ rowAt W m = some #[x, y] ∧ Below B w W ∧ B ≤ W.heap.size ∧ N ≤ W.heap.size ∧ X) : N ≤ W.heap.size := h.2.2.2.2.2.1
theorem heldX {B N n m : Nat} {w W w1 : World} {c : Array Value} {x y : Value} {X X' : Prop} (b : Below W.heap.size W w1) (hX : X → X')
    (h : rowAt W n = some c ∧ (W.cell? ⟨m, 0, none⟩ = some x ∧ W.cell? ⟨m, 1, none⟩ = some y) ∧ rowAt W m = some #[x, y] ∧ Below B w W ∧ B ≤ W.heap.size ∧ N ≤ W.heap.size ∧ X) :
    rowAt w1 n = some c ∧ (w1.cell? ⟨m, 0, none⟩ = some x ∧ w1.cell? ⟨m, 1, none⟩ = some y) ∧ rowAt w1 m = some #[x, y] ∧ Below B w w1 ∧ B ≤ w1.heap.size ∧ N ≤ w1.heap.size ∧ X' :=
  have q := brow b h.2.2.1
  ⟨brow b h.1, ⟨by rw [cell_of_rowAt q]; rfl, by rw [cell_of_rowAt q]; rfl⟩, q, bnext h.2.2.2.1 b h.2.2.2.2.1, Nat.le_trans h.2.2.2.2.1 b.size, Nat.le_trans h.2.2.2.2.2.1 b.size, hX h.2.2.2.2.2.2⟩
theorem held0 {B N n m : Nat} {w W : World} {c : Array Value} {x y : Value} {X : Prop} (h0 : rowAt W n = some c) (h1 : rowAt W m = some #[x, y]) (hB : Below B w W) (hs : B ≤ W.heap.size) (hN : N ≤ W.heap.size) (hX : X) :
    rowAt W.drew n = some c ∧ (W.drew.cell? ⟨m, 0, none⟩ = some x ∧ W.drew.cell? ⟨m, 1, none⟩ = some y) ∧ rowAt W.drew m = some #[x, y] ∧ Below B w W.drew ∧ B ≤ W.drew.heap.size ∧ N ≤ W.drew.heap.size ∧ X :=
  ⟨h0, ⟨(cell_of_rowAt h1 0).trans rfl, (cell_of_rowAt h1 1).trans rfl⟩, h1, hB.drew, hs, hN, hX⟩

theorem IsList.kept2 {w w' : World} {base B sz n : Nat} {v : Value} {f : Nat → Value} (h : IsList w base v sz n f) (hb : Below B w w') (hl : n = 0 ∨ ∀ g o cap, v = .slice (some ⟨g, o, none⟩) n cap → g < B) : IsList w' base v sz n f := by
  rcases hl with rfl | hl
  · obtain ⟨a, cap, rfl⟩ := h.shape
    exact .inl ⟨rfl, a, cap, rfl⟩
  · exact h.kept hb hl
theorem mark1 (n : Nat) (f : Nat → Value) (v : Value) (b : Nat) (M : Int) (hM : M = ((1 + n : Nat) : Int)) (w : World) (hv : IsList w b v 1 n f) (hn : n ≤ 1000000) :
    Calls Tryd.prog 15 #[v, .int .i64 1] w fun e w' => e = .returned (.int .i64 M) ∧ IsList w' b v 1 n (fun i => .int .i64 ((1 + i : Nat) : Int)) ∧ Below b w w' := by
  subst hM; exact markInt64S_any n f v b 1 w hv hn (by omega)
theorem held1 (n : Nat) (v : Value) (b : Nat) (M : Int) (hM : M = ((1 + n : Nat) : Int)) (w : World) (hv : IsList w b v 1 n fun i => .int .i64 ((1 + i : Nat) : Int)) (hn : n ≤ 1000000) :
    Calls Tryd.prog 16 #[v, .int .i64 1] w fun e w' => e = .returned (.int .i64 M) ∧ w = w' := by
  subst hM; exact heldInt64S_any n v b 1 w hv hn (by omega)

theorem heldL {B N n m : Nat} {w W w1 : World} {c : Array Value} {x y : Value} {b0 sz k : Nat} {v : Value} {f : Nat → Value} (b : Below W.heap.size W w1)
    (h : rowAt W n = some c ∧ (W.cell? ⟨m, 0, none⟩ = some x ∧ W.cell? ⟨m, 1, none⟩ = some y) ∧ rowAt W m = some #[x, y] ∧ Below B w W ∧ B ≤ W.heap.size ∧ N ≤ W.heap.size ∧ IsList W b0 v sz k f) :
    rowAt w1 n = some c ∧ (w1.cell? ⟨m, 0, none⟩ = some x ∧ w1.cell? ⟨m, 1, none⟩ = some y) ∧ rowAt w1 m = some #[x, y] ∧ Below B w w1 ∧ B ≤ w1.heap.size ∧ N ≤ w1.heap.size ∧ IsList w1 b0 v sz k f :=
  heldX b (fun l => l.below b (Nat.le_refl _)) h
theorem heldLL {B N n m : Nat} {w W w1 : World} {c : Array Value} {x y : Value} {b0 sz k : Nat} {v : Value} {f : Nat → Value} {b0' sz' k' : Nat} {v' : Value} {f' : Nat → Value} (b : Below W.heap.size W w1)
    (h : rowAt W n = some c ∧ (W.cell? ⟨m, 0, none⟩ = some x ∧ W.cell? ⟨m, 1, none⟩ = some y) ∧ rowAt W m = some #[x, y] ∧ Below B w W ∧ B ≤ W.heap.size ∧ N ≤ W.heap.size ∧ IsList W b0 v sz k f ∧ IsList W b0' v' sz' k' f') :
    rowAt w1 n = some c ∧ (w1.cell? ⟨m, 0, none⟩ = some x ∧ w1.cell? ⟨m, 1, none⟩ = some y) ∧ rowAt w1 m = some #[x, y] ∧ Below B w w1 ∧ B ≤ w1.heap.size ∧ N ≤ w1.heap.size ∧ IsList w1 b0 v sz k f ∧ IsList w1 b0' v' sz' k' f' :=
  heldX b (fun l => ⟨l.1.below b (Nat.le_refl _), l.2.below b (Nat.le_refl _)⟩) h
/-- Behind a call that writes into blocks from N on alone. -/
theorem heldM {B N n m : Nat} {w W w1 : World} {c : Array Value} {x y : Value} {X X' : Prop} (b : Below N W w1) (hn : n < N) (hm : m < N) (hBN : B ≤ N) (hX : X → X')
    (h : rowAt W n = some c ∧ (W.cell? ⟨m, 0, none⟩ = some x ∧ W.cell? ⟨m, 1, none⟩ = some y) ∧ rowAt W m = some #[x, y] ∧ Below B w W ∧ B ≤ W.heap.size ∧ N ≤ W.heap.size ∧ X) :
    rowAt w1 n = some c ∧ (w1.cell? ⟨m, 0, none⟩ = some x ∧ w1.cell? ⟨m, 1, none⟩ = some y) ∧ rowAt w1 m = some #[x, y] ∧ Below B w w1 ∧ B ≤ w1.heap.size ∧ N ≤ w1.heap.size ∧ X' :=
  have q := brow' b hm h.2.2.1
  ⟨brow' b hn h.1, ⟨by rw [cell_of_rowAt q]; rfl, by rw [cell_of_rowAt q]; rfl⟩, q, h.2.2.2.1.trans (b.mono hBN), Nat.le_trans h.2.2.2.2.1 b.size, Nat.le_trans h.2.2.2.2.2.1 b.size, hX h.2.2.2.2.2.2⟩
end Go.Proofs.YtcdddngdjhjdbaaDoor
