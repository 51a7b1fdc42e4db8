/- The sums of drips by cells: contracts of both sides' small functions. -/
import Derived.Test.YtfkcjgeeklngiaaDripS
import Derived.Test.YtfkcjgeeklngiaaCells
import Derived.RegionTactic
import Derived.OwnWalk
import Derived.Deep.RegionHeld3
namespace Go.Proofs.Ytfkcjgeeklngiaa
open Go.RowKit

/-- A call that gives a list of n numbers in a block of its own. -/
def GivesL (w : World) (n : Nat) (f : Nat → Int) (e : Ending) (w' : World) : Prop :=
  ∃ v, e = .returned v ∧ IsList w' w.heap.size v 1 n (fun i => .int .i64 (f i)) ∧ Below w.heap.size w w'

/-- The sum of what drips in a cell, of the first n courses. -/
def colTo (D : Nat → Int) (k n : Nat) : Int := sumTo (fun c => D (c * 17 + k)) n
theorem colTo_bd {D : Nat → Int} (hb : ∀ i, i < 136 → 0 ≤ D i ∧ D i ≤ 1000) {k n : Nat} (hk : k < 17) (hn : n ≤ 8) : 0 ≤ colTo D k n ∧ colTo D k n ≤ 8000 := by
  have := sumTo_bd (t := fun c => D (c * 17 + k)) (B := 1000) (n := n) fun i hi => hb _ (by omega)
  unfold colTo; omega
theorem colTo_succ (D : Nat → Int) (k n : Nat) : colTo D k n + D (n * 17 + k) = colTo D k (n + 1) := rfl

theorem made_row {w : World} {base g q : Nat} {e : TypeId} (h : w.ownsRow base e 1 (.slice (some ⟨g, 0, none⟩) q q) q (madeCells #[.int .i64 0] q).toList) : rowAt w g = some (mkI .i64 q fun _ => 0) := by
  obtain ⟨hl, ⟨h, _⟩ | ⟨g', cap, cur, he, hg, hh, hn, hm, hs, ht⟩⟩ := h
  · cases h
  · cases he
    rw [rowAt_of_heap hh]
    refine congrArg some (IsK.of_get (by omega) fun i hi => ?_).eq
    have h1 : cur[i]? = (cur.toList.take (q * 1))[i]? := by rw [List.getElem?_take, if_pos (by omega), Array.getElem?_toList]
    rw [h1, ht, toList_madeCells_one, List.getElem?_replicate, if_pos hi]

theorem keepRsz {B n m : Nat} {w W : World} {c : Array Value} {l : List Value} (h : rowAt W n = some c ∧ rowAt W m = some l.toArray ∧ W.rangeAt m 0 l ∧ Below B w W ∧ B ≤ W.heap.size) : B ≤ W.heap.size := h.2.2.2.2

noncomputable def Rf.rlen (r : Rf) (t : Nat → Int) (n : Nat) : Nat := if r.rok t = true then n else 0
theorem Rf.rlen_t {r : Rf} {t : Nat → Int} (h : r.Rains t) (n : Nat) : r.rlen t n = n := if_pos (Rf.rok_true h)
theorem Rf.cells_le (r : Rf) (t : Nat → Int) : r.rlen t (2 * r.w + 1).toNat ≤ 1000000 := by
  unfold Rf.rlen
  split
  · rename_i h; have := (Rf.Rains_of h).1.2.1; omega
  · omega
theorem Rf.courses_le (r : Rf) (t : Nat → Int) : r.rlen t r.h.toNat ≤ 1000000 := by
  unfold Rf.rlen
  split
  · rename_i h; have := (Rf.Rains_of h).1.2.2.2.1; omega
  · omega
theorem Rf.rlen_f {r : Rf} {t : Nat → Int} (h : ¬ r.Rains t) (n : Nat) : r.rlen t n = 0 := by simp [Rf.rlen, Rf.rok_false h]

end Go.Proofs.Ytfkcjgeeklngiaa
