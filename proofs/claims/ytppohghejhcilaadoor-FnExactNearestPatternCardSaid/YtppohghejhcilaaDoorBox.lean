/- What a law's region keeps: the boxed arguments; and a box that the region itself makes. -/
import Derived.Test.YtppohghejhcilaaDoorAgg
namespace Go.Proofs.YtppohghejhcilaaDoor
open Go.RowKit

/-- Blocks below N of W hold rows, and nothing has changed that lay in w. -/
structure Boxes (N : Nat) (w : World) (L : List (Nat × Array Value)) (W : World) : Prop where
  rows : ∀ p, p ∈ L → rowAt W p.1 = some p.2
  bel : Below w.heap.size w W
  base : w.heap.size ≤ N
  size : N ≤ W.heap.size
  low : ∀ p, p ∈ L → p.1 < N

section
variable {N : Nat} {w W w1 : World} {L : List (Nat × Array Value)} {A : Prop}
theorem Boxes.drew (h : Boxes N w L W) : Boxes N w L W.drew := ⟨h.rows, h.bel.drew, h.base, h.size, h.low⟩
theorem Boxes.call (b : Below W.heap.size W w1) (h : Boxes N w L W) : Boxes N w L w1 :=
  ⟨fun p hp => brow b (h.rows p hp), bnext h.bel b h.bel.size, h.base, Nat.le_trans h.size b.size, h.low⟩
theorem Boxes.callA (b : Below W.heap.size W w1) (h : A ∧ Boxes N w L W) : Boxes N w L w1 := h.2.call b
theorem Boxes.alloc (o : Obj) (h : Boxes N w L W) : Boxes N w L (W.alloc o) :=
  ⟨fun p hp => (rowAt_alloc_past _ _ _ (rowAt_lt (h.rows p hp))).trans (h.rows p hp), h.bel.alloc h.bel.size _, h.base, by have := h.size; simp; omega, h.low⟩
theorem Boxes.allocA {o : Obj} (h : A ∧ Boxes N w L W) : Boxes N w L (W.alloc o) := h.2.alloc o
theorem Boxes.set {k : Nat} {X : Array Value} (h : Boxes N w L W) (hk : N ≤ k) : Boxes N w L (W.setRow k X) :=
  ⟨fun p hp => (rowAt_setRow_ne _ _ _ _ (by have := h.low p hp; omega)).trans (h.rows p hp), below_setRow h.bel (by have := h.base; omega) _, h.base, by simpa using h.size, h.low⟩
theorem Boxes.setA {k : Nat} {X : Array Value} (h : A ∧ Boxes N w L W) (hk : N ≤ k) : Boxes N w L (W.setRow k X) := h.2.set hk
theorem Boxes.realloc {o o' : Obj} (h : Boxes N w L (W.alloc o)) (hN : N ≤ W.heap.size) : Boxes N w L (W.alloc o') :=
  have hl : ∀ k, k < N → k < W.heap.size := fun k hk => Nat.lt_of_lt_of_le hk hN
  have hb := h.bel
  have hs := Nat.le_trans h.base hN
  have hb' : Below w.heap.size w W := ⟨hb.os, hb.tape, hb.output, hs, fun k hk => (Below.heap_alloc W o k (Nat.lt_of_lt_of_le hk hs)).symm.trans (hb.block k hk)⟩
  ⟨fun p hp => (rowAt_alloc_past W o' p.1 (hl _ (h.low p hp))).trans ((rowAt_alloc_past W o p.1 (hl _ (h.low p hp))).symm.trans (h.rows p hp)), hb'.alloc hs _, h.base, by simp; omega, h.low⟩
theorem Boxes.reallocA {o o' : Obj} (h : A ∧ Boxes N w L (W.alloc o)) (hN : N ≤ W.heap.size) : Boxes N w L (W.alloc o') := h.2.realloc hN
theorem Boxes.szA (h : A ∧ Boxes N w L W) : N ≤ W.heap.size := h.2.size
theorem Boxes.outA (h : A ∧ Boxes N w L W) : Boxes N w L W := h.2
/-- One box more, and all that there is lies below the new mark. -/
theorem Boxes.more {n : Nat} {X : Array Value} (h : Boxes N w L W) (r : rowAt W n = some X) : Boxes W.heap.size w ((n, X) :: L) W :=
  ⟨fun p hp => by
    rcases List.mem_cons.1 hp with rfl | hp
    · exact r
    · exact h.rows p hp, h.bel, h.bel.size, Nat.le_refl _, fun p hp => by
    rcases List.mem_cons.1 hp with rfl | hp
    · exact rowAt_lt r
    · exact Nat.lt_of_lt_of_le (h.low p hp) h.size⟩
theorem Boxes.raise (h : Boxes N w L W) : Boxes W.heap.size w L W := ⟨h.rows, h.bel, h.bel.size, Nat.le_refl _, fun p hp => Nat.lt_of_lt_of_le (h.low p hp) h.size⟩
end
theorem mkS {N : Nat} {w W : World} {L : List (Nat × Array Value)} {A : Prop} (m : Boxes N w L W → A) (h : Boxes N w L W) : A ∧ Boxes N w L W := ⟨m h, h⟩
/-- One, two, three boxed arguments. -/
theorem boxes1 (w : World) (c : Array Value) (t : TypeId) : Boxes (w.heap.size + 1) w [(w.heap.size, c)] (w.alloc (.cells c t)) :=
  ⟨fun p hp => by obtain rfl := List.mem_singleton.1 hp; exact rowAt_alloc_at _ _ _ _ rfl, (Below.refl _ _).alloc (Nat.le_refl _) _, by omega, by simp, fun p hp => by obtain rfl := List.mem_singleton.1 hp; simp⟩
theorem boxes2 (w : World) (c d : Array Value) (t s : TypeId) : Boxes (w.heap.size + 1 + 1) w [(w.heap.size + 1, d), (w.heap.size, c)] ((w.alloc (.cells c t)).alloc (.cells d s)) := by
  have := ((boxes1 w c t).alloc (.cells d s)).more (n := w.heap.size + 1) (X := d) (rowAt_alloc_at _ _ _ _ (by simp))
  simpa using this
theorem boxes3 (w : World) (c d e : Array Value) (t s u : TypeId) : Boxes (w.heap.size + 1 + 1 + 1) w [(w.heap.size + 1 + 1, e), (w.heap.size + 1, d), (w.heap.size, c)] (((w.alloc (.cells c t)).alloc (.cells d s)).alloc (.cells e u)) := by
  have := ((boxes2 w c d t s).alloc (.cells e u)).more (n := w.heap.size + 1 + 1) (X := e) (rowAt_alloc_at _ _ _ _ (by simp))
  simpa using this
end Go.Proofs.YtppohghejhcilaaDoor
