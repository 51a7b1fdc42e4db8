/- Valid roofs: the model's and the program's answer. -/
import Derived.Test.YtfdoehakpeddnaaSpecA
import Derived.Test.YtfdoehakpeddnaaEq
namespace Go.Proofs.Ytfdoehakpeddnaa
open Go.RowKit

def rowFine (t : Nat → Int) (wide : Int) (k : Nat) : Prop := t k ≤ 3 ∧ ((k : Int) < wide ∨ t k = 0)
open Classical in
noncomputable def rowB (t : Nat → Int) (wide : Int) : Bool := decide (∀ k, k < 8 → rowFine t wide k)
theorem rowB_true {t : Nat → Int} {wide : Int} (h : ∀ k, k < 8 → rowFine t wide k) : rowB t wide = true := by simpa [rowB] using h
theorem rowB_false {t : Nat → Int} {wide : Int} {k : Nat} (hk : k < 8) (h : ¬ rowFine t wide k) : rowB t wide = false := by
  simp only [rowB, decide_eq_false_iff_not]; intro g; exact h (g k hk)

theorem fine_of_row {r : Rf} {k j : Nat} (hj : j < 8) (hk : (k : Int) < r.h) : rowFine (fun j => r.t (k * 8 + j)) r.w j ↔ r.fine (k * 8 + j) := by
  unfold rowFine Rf.fine
  rw [show (k * 8 + j) / 8 = k from by omega, show (k * 8 + j) % 8 = j from by omega]
  constructor
  · rintro ⟨a, b⟩; exact ⟨a, b.imp (fun h => ⟨hk, h⟩) id⟩
  · rintro ⟨a, b⟩; exact ⟨a, b.imp (fun h => h.2) id⟩
theorem fine_upto {r : Rf} {k : Nat} (hf : ∀ j, j < k * 8 → r.fine j) (hr : ∀ j, j < 8 → r.fine (k * 8 + j)) : ∀ j, j < (k + 1) * 8 → r.fine j := by
  intro j hj
  by_cases h : j < k * 8
  · exact hf j h
  · have := hr (j - k * 8) (by omega)
    rwa [show k * 8 + (j - k * 8) = j from by omega] at this

end Go.Proofs.Ytfdoehakpeddnaa
