/- Contracts of both sides' functions over courses and cells. -/
import Derived.Test.YtppohghejhcilaaDoorImplB
namespace Go.Proofs.YtppohghejhcilaaDoor
open Go.RowKit

/-- The code of a roof and of whether numbers are as told. -/
noncomputable def Rf.told (r : Rf) (fine : Bool) : Int := if r.ok = true then (if fine = true then 0 else 2) else 1
theorem Rf.told_no {r : Rf} {fine : Bool} (h : ¬ r.Ok) : r.told fine = 1 := by simp [Rf.told, Rf.ok_false h]
theorem Rf.told_out {r : Rf} (h : r.Ok) : r.told false = 2 := by simp [Rf.told, Rf.ok_true h]
theorem Rf.told_in {r : Rf} (h : r.Ok) : r.told true = 0 := by simp [Rf.told, Rf.ok_true h]
theorem Rf.told_zero {r : Rf} {fine : Bool} (h : r.told fine = 0) : r.Ok ∧ fine = true := by
  unfold Rf.told at h
  split at h
  · rename_i ho
    split at h
    · rename_i hp; exact ⟨Rf.Ok_of ho, hp⟩
    · simp at h
  · simp at h

/-- 1 if a course is shifted, and 0 otherwise. -/
def Rf.by (r : Rf) (k : Int) : Int := (k + r.s) % 2
theorem Rf.by_bd (r : Rf) (k : Int) : 0 ≤ r.by k ∧ r.by k ≤ 1 := by unfold Rf.by; omega

end Go.Proofs.YtppohghejhcilaaDoor
