/- Chapter 4: places none of which may come twice: the code; both sides' checks. -/
import Derived.Test.YtoibolmippfcgaaLadA
import Derived.Test.YtoibolmippfcgaaMarks
namespace Go.Proofs.Ytoibolmippfcgaa
open Go.RowKit Go.Maps

/-- Whether one of the first k places is a, b. -/
def hasP (f : Nat → Int) (k : Nat) (a b : Int) : Bool := anyI (fun q => decide (f (q * 2) = a ∧ f (q * 2 + 1) = b)) k
theorem hasP_succ (f : Nat → Int) (k : Nat) : hasP f (k + 1) = fun a b => if a = f (k * 2) ∧ b = f (k * 2 + 1) then true else hasP f k a b := by
  funext a b
  unfold hasP
  rw [anyI_succ]
  by_cases h : a = f (k * 2) ∧ b = f (k * 2 + 1)
  · rw [if_pos h]; simp [h.1.symm, h.2.symm]
  · have h' : ¬ (f (k * 2) = a ∧ f (k * 2 + 1) = b) := fun e => h ⟨e.1.symm, e.2.symm⟩
    rw [if_neg h, decide_eq_false h', Bool.or_false]
/-- Whether a place comes twice. -/
def dupP (f : Nat → Int) (n : Nat) : Bool := anyI (fun i => hasP f i (f (i * 2)) (f (i * 2 + 1))) n
noncomputable def Rf.ocode (r : Rf) (f : Nat → Int) (n : Nat) (fine : Bool) : Int := if r.wcode (fun _ => 0) 0 f n fine ≠ 0 then r.wcode (fun _ => 0) 0 f n fine else if dupP f n = true then 4 else 0
theorem Rf.ocode_w {r : Rf} {f : Nat → Int} {n : Nat} {fine : Bool} (h : r.wcode (fun _ => 0) 0 f n fine ≠ 0) : r.ocode f n fine = r.wcode (fun _ => 0) 0 f n fine := if_pos h
theorem Rf.ocode_d {r : Rf} {f : Nat → Int} {n : Nat} {fine : Bool} (h : r.wcode (fun _ => 0) 0 f n fine = 0) (hd : dupP f n = true) : r.ocode f n fine = 4 := by unfold Rf.ocode; rw [if_neg (by omega), if_pos hd]
theorem Rf.ocode_o {r : Rf} {f : Nat → Int} {n : Nat} {fine : Bool} (h : r.wcode (fun _ => 0) 0 f n fine = 0) (hd : dupP f n = false) : r.ocode f n fine = 0 := by unfold Rf.ocode; rw [if_neg (by omega), hd]; rfl
theorem Rf.ocode_zero {r : Rf} {f : Nat → Int} {n : Nat} {fine : Bool} (h : r.ocode f n fine = 0) : r.Ok ∧ fine = true ∧ r.okP f n ∧ n ≤ 8 ∧ dupP f n = false := by
  unfold Rf.ocode at h
  split at h
  · rename_i h1; exact absurd h h1
  · rename_i h1
    obtain ⟨ho, hf, _, hp, _, hn⟩ := Rf.wcode_zero (Decidable.not_not.1 h1)
    split at h
    · simp at h
    · rename_i h2; exact ⟨ho, hf, hp, hn, by simpa using h2⟩

end Go.Proofs.Ytoibolmippfcgaa
