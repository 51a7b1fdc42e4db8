/- Lists that a call made, and the laws' helpers that compare, mark and hold lists of numbers. -/
import Derived.Test.YtppohghejhcilaaDoorTy
import Derived.Deep.QuietTactic
import Derived.BigQuiet
import Derived.IntWalk
namespace Go.Proofs.YtppohghejhcilaaDoor
open Go.RowKit

theorem rowAt_drewN (w : World) (k n : Nat) : rowAt (w.drewN k) n = rowAt w n := rfl

/-- v is a list of n elements of sz cells each, in a block of its own from base on. -/
def IsList (w : World) (base : Nat) (v : Value) (sz n : Nat) (f : Nat → Value) : Prop :=
  (n = 0 ∧ ∃ a cap, v = .slice a 0 cap) ∨ ∃ g cap cur, v = .slice (some ⟨g, 0, none⟩) n cap ∧ base ≤ g ∧ rowAt w g = some cur ∧ n * sz ≤ cur.size ∧ ∀ i, i < n * sz → cur[i]? = some (f i)

theorem IsList.below {w w' : World} {base B sz n : Nat} {v : Value} {f : Nat → Value} (h : IsList w base v sz n f) (hb : Below B w w') (hB : w.heap.size ≤ B) : IsList w' base v sz n f := by
  rcases h with h | ⟨g, cap, cur, rfl, hg, hr, hs, hf⟩
  · exact .inl h
  · exact .inr ⟨g, cap, cur, rfl, hg, (rowAt_below hb g (Nat.lt_of_lt_of_le (rowAt_lt hr) hB)).trans hr, hs, hf⟩
theorem IsList.kept {w w' : World} {base B sz n : Nat} {v : Value} {f : Nat → Value} (h : IsList w base v sz n f) (hb : Below B w w') (hB : ∀ g o cap, v = .slice (some ⟨g, o, none⟩) n cap → g < B) : IsList w' base v sz n f := by
  rcases h with h | ⟨g, cap, cur, rfl, hg, hr, hs, hf⟩
  · exact .inl h
  · exact .inr ⟨g, cap, cur, rfl, hg, (rowAt_below hb g (hB g 0 cap rfl)).trans hr, hs, hf⟩
theorem IsList.mono {w : World} {base base' sz n : Nat} {v : Value} {f : Nat → Value} (h : IsList w base v sz n f) (hb : base' ≤ base) : IsList w base' v sz n f := by
  rcases h with h | ⟨g, cap, cur, rfl, hg, hr, hs, hf⟩
  · exact .inl h
  · exact .inr ⟨g, cap, cur, rfl, Nat.le_trans hb hg, hr, hs, hf⟩
theorem IsList.drew {w : World} {base sz n : Nat} {v : Value} {f : Nat → Value} (h : IsList w base v sz n f) : IsList w.drew base v sz n f := h
/-- The list's block lies in the world. -/
theorem IsList.lt {w : World} {base sz n : Nat} {v : Value} {f : Nat → Value} (h : IsList w base v sz n f) {B : Nat} (hB : w.heap.size ≤ B) : n = 0 ∨ ∀ g o cap, v = .slice (some ⟨g, o, none⟩) n cap → g < B := by
  rcases h with ⟨h, _⟩ | ⟨g, cap, cur, rfl, hg, hr, hs, hf⟩
  · exact .inl h
  · refine .inr fun g' o cap' e => ?_
    cases e
    exact Nat.lt_of_lt_of_le (rowAt_lt hr) hB
/-- The shape of a list's value. -/
theorem IsList.shape {w : World} {base sz n : Nat} {v : Value} {f : Nat → Value} (h : IsList w base v sz n f) : ∃ a cap, v = .slice a n cap := by
  rcases h with ⟨rfl, a, cap, rfl⟩ | ⟨g, cap, cur, rfl, _⟩
  · exact ⟨a, cap, rfl⟩
  · exact ⟨_, cap, rfl⟩

end Go.Proofs.YtppohghejhcilaaDoor
