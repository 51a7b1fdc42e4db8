/- Lists of places that come in: opened, counted, copied. -/
import Derived.Test.YtfdoehakpeddnaaListP
import Derived.Test.YtfdoehakpeddnaaHelp
import Derived.Test.YtfdoehakpeddnaaOpen
import Derived.Deep.SlicePairs
import Derived.OwnWalk
import Derived.Laws.MakeOwn
namespace Go.Proofs.Ytfdoehakpeddnaa
open Go.RowKit Go.ChangeShapes Go.WideShapes

/-- v is a list of n places that came in; f tells their cells. -/
def ArgL (w : World) (v : Value) (n : Nat) (f : Nat → Int) : Prop :=
  ∃ a cap, v = .slice a n cap ∧ (n = 0 ∨ ∃ g o, a = some ⟨g, o, none⟩ ∧ ∀ i, i < n * 2 → w.cell? ⟨g, o + i, none⟩ = some (.int .i8 (f i)))

theorem lt_of_cellA {w : World} {p : Addr} {v : Value} (h : w.cell? p = some v) : p.block < w.heap.size := by
  rcases Nat.lt_or_ge p.block w.heap.size with h' | h'
  · exact h'
  · simp [World.cell?, Array.getElem?_eq_none h'] at h
theorem ArgL.below {w w' : World} {v : Value} {n : Nat} {f : Nat → Int} {B : Nat} (h : ArgL w v n f) (b : Below B w w') (hB : w.heap.size ≤ B) : ArgL w' v n f := by
  obtain ⟨a, cap, rfl, h⟩ := h
  refine ⟨a, cap, rfl, ?_⟩
  rcases h with h | ⟨g, o, rfl, h⟩
  · exact .inl h
  · exact .inr ⟨g, o, rfl, fun i hi => (b.cell (p := ⟨g, o + i, none⟩) (Nat.lt_of_lt_of_le (lt_of_cellA (h i hi)) hB)).trans (h i hi)⟩
theorem ArgL.shape {w : World} {v : Value} {n : Nat} {f : Nat → Int} (h : ArgL w v n f) : ∃ a cap, v = .slice a n cap := by
  obtain ⟨a, cap, rfl, _⟩ := h
  exact ⟨a, cap, rfl⟩
/-- The cells of place k. -/
theorem ArgL.at {w : World} {a : Option Addr} {cap n : Nat} {f : Nat → Int} (h : ArgL w (.slice a n cap) n f) {k : Nat} (hk : k < n) :
    ∃ g o, a = some ⟨g, o, none⟩ ∧ w.cell? ⟨g, o + k * 2, none⟩ = some (.int .i8 (f (k * 2))) ∧ w.cell? ⟨g, o + k * 2 + 1, none⟩ = some (.int .i8 (f (k * 2 + 1))) := by
  obtain ⟨a', cap', e, h⟩ := h
  cases e
  rcases h with h | ⟨g, o, rfl, h⟩
  · omega
  · exact ⟨g, o, rfl, h _ (by omega), by rw [Nat.add_assoc]; exact h _ (by omega)⟩

section
variable {H : Type} {enc : TypeId × Value → H} {w : World} {base b0 : Nat} {spare : Nat → Bool} {held : Bool} {r : Reach}
end

def GivesF (w : World) (n : Nat) (f : Nat → Int) (e : Ending) (w' : World) : Prop :=
  ∃ v, e = .returned v ∧ IsList w' w.heap.size v 2 n (fun i => .int .i8 (f i)) ∧ Below w.heap.size w w'
/-- The same, of a list that is as long as its memory. -/
def GivesFc (w : World) (n : Nat) (f : Nat → Int) (e : Ending) (w' : World) : Prop :=
  ∃ a, e = .returned (.slice a n n) ∧ IsList w' w.heap.size (.slice a n n) 2 n (fun i => .int .i8 (f i)) ∧ Below w.heap.size w w'
end Go.Proofs.Ytfdoehakpeddnaa
