/- Chapter 4: the code of a roof, cells, places and numbers: its mathematics, and the model's functions. -/
import Derived.Test.YtfdoehakpeddnaaInP
import Derived.Test.YtfdoehakpeddnaaTile
import Derived.Test.YtfdoehakpeddnaaNums
namespace Go.Proofs.Ytfdoehakpeddnaa
open Go.RowKit

/-- A cell of the roof. -/
def Rf.inC (r : Rf) (x : Int) : Prop := 0 ≤ x ∧ x ≤ 2 * r.w
def Rf.okC (r : Rf) (g : Nat → Int) (m : Nat) : Prop := ∀ k, k < m → r.inC (g k)
open Classical in
noncomputable def Rf.ocB (r : Rf) (g : Nat → Int) (m : Nat) : Bool := decide (r.okC g m)
theorem Rf.ocB_t {r : Rf} {g : Nat → Int} {m : Nat} (h : r.okC g m) : r.ocB g m = true := by simp [Rf.ocB, h]
theorem Rf.ocB_f {r : Rf} {g : Nat → Int} {m : Nat} (h : ¬ r.okC g m) : r.ocB g m = false := by simp [Rf.ocB, h]
theorem Rf.ocB_of {r : Rf} {g : Nat → Int} {m : Nat} (h : r.ocB g m = true) : r.okC g m := by simpa [Rf.ocB] using h
theorem Rf.okC_zero (r : Rf) (g : Nat → Int) : r.okC g 0 := fun k hk => by omega
theorem Rf.okC_succ {r : Rf} {g : Nat → Int} {m : Nat} : r.okC g (m + 1) ↔ r.okC g m ∧ r.inC (g m) :=
  ⟨fun h => ⟨fun k hk => h k (by omega), h m (by omega)⟩, fun h k hk => by
    by_cases e : k = m
    · subst e; exact h.2
    · exact h.1 k (by omega)⟩

/-- The code of a roof, m cells, n places, and whether numbers are as told. -/
noncomputable def Rf.wcode (r : Rf) (g : Nat → Int) (m : Nat) (f : Nat → Int) (n : Nat) (fine : Bool) : Int :=
  if r.told (fine && r.ocB g m && r.okB f n) ≠ 0 then r.told (fine && r.ocB g m && r.okB f n) else if 8 < m ∨ 8 < n then 3 else 0
theorem Rf.wcode_zero {r : Rf} {g f : Nat → Int} {m n : Nat} {fine : Bool} (h : r.wcode g m f n fine = 0) : r.Ok ∧ fine = true ∧ r.okC g m ∧ r.okP f n ∧ m ≤ 8 ∧ n ≤ 8 := by
  unfold Rf.wcode at h
  split at h
  · rename_i h1; exact absurd h h1
  · rename_i h1
    obtain ⟨ho, hb⟩ := Rf.told_zero (Decidable.not_not.1 h1)
    rw [Bool.and_eq_true, Bool.and_eq_true] at hb
    split at h
    · simp at h
    · exact ⟨ho, hb.1.1, Rf.ocB_of hb.1.2, Rf.okB_of hb.2, by omega, by omega⟩
theorem Rf.wcode_told {r : Rf} {g f : Nat → Int} {m n : Nat} {fine : Bool} (h : r.told (fine && r.ocB g m && r.okB f n) ≠ 0) : r.wcode g m f n fine = r.told (fine && r.ocB g m && r.okB f n) := if_pos h
theorem Rf.wcode_many {r : Rf} {g f : Nat → Int} {m n : Nat} {fine : Bool} (h : r.told (fine && r.ocB g m && r.okB f n) = 0) (hm : 8 < m ∨ 8 < n) : r.wcode g m f n fine = 3 := by
  unfold Rf.wcode; rw [if_neg (by omega), if_pos hm]
theorem Rf.wcode_in {r : Rf} {g f : Nat → Int} {m n : Nat} {fine : Bool} (h : r.told (fine && r.ocB g m && r.okB f n) = 0) (hm : m ≤ 8) (hn : n ≤ 8) : r.wcode g m f n fine = 0 := by
  unfold Rf.wcode; rw [if_neg (by omega), if_neg (by omega)]

/-- Number k of a list of numbers. -/
theorem IsList.num {w : World} {base n : Nat} {a : Option Addr} {cap : Nat} {f : Nat → Int} (h : IsList w base (.slice a n cap) 1 n (fun i => .int .i64 (f i))) {k : Nat} (hk : k < n) :
    ∃ g, a = some ⟨g, 0, none⟩ ∧ w.cell? ⟨g, k, none⟩ = some (.int .i64 (f k)) := by
  rcases h with ⟨h0, _⟩ | ⟨g, cap', cur, e, hg, hr, hs, hf⟩
  · omega
  · cases e
    exact ⟨g, rfl, by rw [cell_of_rowAt hr]; exact hf _ (by omega)⟩

end Go.Proofs.Ytfdoehakpeddnaa
