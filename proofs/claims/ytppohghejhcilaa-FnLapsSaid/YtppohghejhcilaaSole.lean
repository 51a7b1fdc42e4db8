/- Worlds in which one old block alone has changed. -/
import Derived.Test.YtppohghejhcilaaTy
namespace Go.Proofs.Ytppohghejhcilaa
open Go.RowKit

/-- Of the blocks of w only block n has changed. -/
structure Sole (n : Nat) (w W : World) : Prop where
  below : Below n w W
  rows : ∀ m, m < w.heap.size → m ≠ n → rowAt W m = rowAt w m
theorem Sole.refl (n : Nat) (w : World) : Sole n w w := ⟨Below.refl _ _, fun _ _ _ => rfl⟩
theorem Sole.call {n : Nat} {w W W' : World} (h : Sole n w W) (hn : n < w.heap.size) (b : Below W.heap.size W W') : Sole n w W' :=
  have hs := h.below.size
  ⟨h.below.trans (b.mono (by omega)), fun m hm hmn => (rowAt_below b m (by omega)).trans (h.rows m hm hmn)⟩
theorem Sole.setCell {n : Nat} {w W : World} (h : Sole n w W) (o : Nat) (v : Value) : Sole n w (W.setCell ⟨n, o, none⟩ v) :=
  ⟨h.below.setCell (p := ⟨n, o, none⟩) (Nat.le_refl _) v, fun m hm hmn => (rowAt_setCell_ne _ _ _ _ _ hmn).trans (h.rows m hm hmn)⟩
theorem Sole.drew {n : Nat} {w W : World} (h : Sole n w W) : Sole n w W.drew := ⟨h.below.drew, h.rows⟩
theorem Sole.alloc {n : Nat} {w W : World} (h : Sole n w W) (hn : n < w.heap.size) (o : Obj) : Sole n w (W.alloc o) :=
  have hs := h.below.size
  ⟨h.below.alloc (by omega) o, fun m hm hmn => (rowAt_alloc_past _ _ _ (by omega)).trans (h.rows m hm hmn)⟩

theorem Sole.of_below {n : Nat} {w W : World} (b : Below w.heap.size w W) (hn : n < w.heap.size) : Sole n w W :=
  ⟨b.mono (by omega), fun m hm _ => rowAt_below b m hm⟩
theorem Sole.trans {n : Nat} {w W W' : World} (h : Sole n w W) (g : Sole n W W') : Sole n w W' :=
  have hs := h.below.size
  ⟨h.below.trans g.below, fun m hm hmn => (g.rows m (by omega) hmn).trans (h.rows m hm hmn)⟩
end Go.Proofs.Ytppohghejhcilaa
