/- A list of places of a roof: its mathematics. -/
import Derived.Test.YtcdddngdjhjdbaaArgL
namespace Go.Proofs.Ytcdddngdjhjdbaa
open Go.RowKit

/-- Place k of a list is a place of the roof. -/
def Rf.inP (r : Rf) (f : Nat → Int) (k : Nat) : Prop := 0 ≤ f (k * 2) ∧ f (k * 2) < r.h ∧ 0 ≤ f (k * 2 + 1) ∧ f (k * 2 + 1) < r.w
def Rf.okP (r : Rf) (f : Nat → Int) (n : Nat) : Prop := ∀ k, k < n → r.inP f k
open Classical in
noncomputable def Rf.okB (r : Rf) (f : Nat → Int) (n : Nat) : Bool := decide (r.okP f n)
theorem Rf.okB_t {r : Rf} {f : Nat → Int} {n : Nat} (h : r.okP f n) : r.okB f n = true := by simp [Rf.okB, h]
theorem Rf.okB_f {r : Rf} {f : Nat → Int} {n : Nat} (h : ¬ r.okP f n) : r.okB f n = false := by simp [Rf.okB, h]
theorem Rf.okB_of {r : Rf} {f : Nat → Int} {n : Nat} (h : r.okB f n = true) : r.okP f n := by simpa [Rf.okB] using h
theorem Rf.okP_zero (r : Rf) (f : Nat → Int) : r.okP f 0 := fun k hk => by omega
theorem Rf.okP_succ {r : Rf} {f : Nat → Int} {n : Nat} : r.okP f (n + 1) ↔ r.okP f n ∧ r.inP f n :=
  ⟨fun h => ⟨fun k hk => h k (by omega), h n (by omega)⟩, fun h k hk => by
    by_cases e : k = n
    · subst e; exact h.2
    · exact h.1 k (by omega)⟩
theorem Rf.okP_le {r : Rf} {f : Nat → Int} {n m : Nat} (h : r.okP f n) (hm : m ≤ n) : r.okP f m := fun k hk => h k (by omega)
/-- The first place that is none. -/
theorem Rf.okP_first {r : Rf} {f : Nat → Int} : ∀ {n : Nat}, ¬ r.okP f n → ∃ m, m < n ∧ r.okP f m ∧ ¬ r.inP f m
  | 0, h => absurd (r.okP_zero f) h
  | n + 1, h => by
    by_cases hn : r.okP f n
    · exact ⟨n, by omega, hn, fun hi => h (Rf.okP_succ.2 ⟨hn, hi⟩)⟩
    · obtain ⟨m, h1, h2, h3⟩ := Rf.okP_first hn
      exact ⟨m, by omega, h2, h3⟩

/-- The cells of place k of a list of a call's own. -/
theorem IsList.pl {w : World} {base n : Nat} {a : Option Addr} {cap : Nat} {f : Nat → Int} (h : IsList w base (.slice a n cap) 2 n (fun i => .int .i8 (f i))) {k : Nat} (hk : k < n) :
    ∃ g, a = some ⟨g, 0, none⟩ ∧ w.cell? ⟨g, k * 2, none⟩ = some (.int .i8 (f (k * 2))) ∧ w.cell? ⟨g, k * 2 + 1, none⟩ = some (.int .i8 (f (k * 2 + 1))) := by
  rcases h with ⟨h0, _⟩ | ⟨g, cap', cur, e, hg, hr, hs, hf⟩
  · omega
  · cases e
    exact ⟨g, rfl, by rw [cell_of_rowAt hr]; exact hf _ (by omega), by rw [cell_of_rowAt hr]; exact hf _ (by omega)⟩
end Go.Proofs.Ytcdddngdjhjdbaa
