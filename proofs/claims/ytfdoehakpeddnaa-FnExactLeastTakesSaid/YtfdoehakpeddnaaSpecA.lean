/- Contracts of the model's first functions: bounds, kinds, places, valid roofs. -/
import Derived.Test.YtfdoehakpeddnaaTy
import Derived.Test.YtfdoehakpeddnaaRoof
import Derived.Deep.QuietTactic
import Derived.BigQuiet
import Derived.IntWalk
namespace Go.Proofs.Ytfdoehakpeddnaa
open Go.RowKit

def inB (n lo hi : Int) : Bool := decide (lo ≤ n ∧ n ≤ hi)
theorem inB_true {n lo hi : Int} (h : lo ≤ n ∧ n ≤ hi) : inB n lo hi = true := by simp [inB, h]
theorem inB_false {n lo hi : Int} (h : ¬ (lo ≤ n ∧ n ≤ hi)) : inB n lo hi = false := by simp [inB]; omega

theorem l00In_any (n lo hi : Int) (w : World) :
    Calls Try.prog 48 #[.int .i64 n, .int .i64 lo, .int .i64 hi] w fun e w' => e = .returned (.bool (inB n lo hi)) ∧ w = w' := by
  by_cases h1 : lo ≤ n
  · by_cases h2 : n ≤ hi
    · rw [inB_true ⟨h1, h2⟩]
      go_enter Try.func48, Try.ntmps48
      go_wp2
      go_ret
      exact ⟨rfl, rfl⟩
    · rw [inB_false (by omega)]
      go_enter Try.func48, Try.ntmps48
      go_wp2
      go_ret
      exact ⟨rfl, rfl⟩
  · rw [inB_false (by omega)]
    go_enter Try.func48, Try.ntmps48
    go_wp2
    go_ret
    exact ⟨rfl, rfl⟩

theorem l00In_q (n lo hi : Int) (w : World) :
    Calls Try.prog 48 #[.int .i64 n, .int .i64 lo, .int .i64 hi] w fun e w' => e = .returned (.bool (inB n lo hi)) ∧ w' = w :=
  (l00In_any n lo hi w).mono fun _ _ h => ⟨h.1, h.2.symm⟩

theorem l00In_t (n lo hi : Int) (w : World) (h : lo ≤ n ∧ n ≤ hi) :
    Calls Try.prog 48 #[.int .i64 n, .int .i64 lo, .int .i64 hi] w fun e w' => e = .returned (.bool true) ∧ w = w' := by
  have := l00In_any n lo hi w; rwa [inB_true h] at this
theorem l00In_f (n lo hi : Int) (w : World) (h : ¬ (lo ≤ n ∧ n ≤ hi)) :
    Calls Try.prog 48 #[.int .i64 n, .int .i64 lo, .int .i64 hi] w fun e w' => e = .returned (.bool false) ∧ w = w' := by
  have := l00In_any n lo hi w; rwa [inB_false h] at this
theorem l00In_tq (n lo hi : Int) (w : World) (h : lo ≤ n ∧ n ≤ hi) :
    Calls Try.prog 48 #[.int .i64 n, .int .i64 lo, .int .i64 hi] w fun e w' => e = .returned (.bool true) ∧ w' = w := by
  have := l00In_q n lo hi w; rwa [inB_true h] at this
theorem l00In_fq (n lo hi : Int) (w : World) (h : ¬ (lo ≤ n ∧ n ≤ hi)) :
    Calls Try.prog 48 #[.int .i64 n, .int .i64 lo, .int .i64 hi] w fun e w' => e = .returned (.bool false) ∧ w' = w := by
  have := l00In_q n lo hi w; rwa [inB_false h] at this

/-- There is such a place. -/
def Rf.isB (r : Rf) (a b : Int) : Bool := decide (0 ≤ a ∧ a < r.h ∧ 0 ≤ b ∧ b < r.w)
theorem Rf.isB_true {r : Rf} {a b : Int} (h : 0 ≤ a ∧ a < r.h ∧ 0 ≤ b ∧ b < r.w) : r.isB a b = true := by simp [Rf.isB, h]
theorem Rf.isB_false {r : Rf} {a b : Int} (h : ¬ (0 ≤ a ∧ a < r.h ∧ 0 ≤ b ∧ b < r.w)) : r.isB a b = false := by simp only [Rf.isB, decide_eq_false_iff_not]; exact h

end Go.Proofs.Ytfdoehakpeddnaa
