/- All flows of a gutter: the program's list. -/
import Derived.Test.YtcdddngdjhjdbaaFlo
namespace Go.Proofs.Ytcdddngdjhjdbaa
open Go.RowKit

open Classical in
/-- There is a pipe at a cell. -/
noncomputable def Gt.pipe (g : Gt) (j : Nat) : Bool := decide (∃ q, q < g.m ∧ g.p (q * 2) = j)
theorem Gt.pipe_t {g : Gt} {j : Nat} (h : ∃ q, q < g.m ∧ g.p (q * 2) = j) : g.pipe j = true := by simp only [Gt.pipe, decide_eq_true_eq]; exact h
theorem Gt.pipe_f {g : Gt} {j : Nat} (h : ∀ q, q < g.m → g.p (q * 2) ≠ j) : g.pipe j = false := by simp only [Gt.pipe, decide_eq_false_iff_not]; exact fun ⟨q, h1, h2⟩ => h q h1 h2
/-- To where a cell flows. -/
noncomputable def Gt.to (g : Gt) (j : Nat) : Int := g.toB (g.pipe j) j
end Go.Proofs.Ytcdddngdjhjdbaa
