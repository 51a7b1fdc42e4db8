/- Contracts of both sides' functions over courses and cells. -/
import Derived.Test.YtgdhfcpmeaeioaaDoorImplB
namespace Go.Proofs.YtgdhfcpmeaeioaaDoor
open Go.RowKit

/-- The code of a roof and of whether numbers are as told. -/
noncomputable def Rf.told (r : Rf) (fine : Bool) : Int := if r.ok = true then (if fine = true then 0 else 2) else 1
theorem Rf.told_no {r : Rf} {fine : Bool} (h : ¬ r.Ok) : r.told fine = 1 := by simp [Rf.told, Rf.ok_false h]
theorem Rf.told_out {r : Rf} (h : r.Ok) : r.told false = 2 := by simp [Rf.told, Rf.ok_true h]
theorem Rf.told_in {r : Rf} (h : r.Ok) : r.told true = 0 := by simp [Rf.told, Rf.ok_true h]
theorem Rf.told_zero {r : Rf} {fine : Bool} (h : r.told fine = 0) : r.Ok ∧ fine = true := by
  unfold Rf.told at h
  split at h
  · rename_i ho
    split at h
    · rename_i hp; exact ⟨Rf.Ok_of ho, hp⟩
    · simp at h
  · simp at h

/-- 1 if a course is shifted, and 0 otherwise. -/
def Rf.by (r : Rf) (k : Int) : Int := (k + r.s) % 2
theorem Rf.by_bd (r : Rf) (k : Int) : 0 ≤ r.by k ∧ r.by k ≤ 1 := by unfold Rf.by; omega

theorem l01By_any (n : Nat) (c : Array Value) (r : Rf) (k : Int) (w : World) (hr : rowAt w n = some c) (hR : IsRoof c r) (hk : 0 ≤ k ∧ k ≤ 1000) :
    Calls Tryd.prog 28 #[.pointer (some ⟨n, 0, none⟩), .int .i64 k] w fun e w' => e = .returned (.int .i64 (r.by k)) ∧ w = w' := by
  have hcell := cell_of_rowAt hr
  obtain ⟨hc, k0, k1, k2, w0, w1, h0, h1, s0, s1⟩ := hR.view
  clear hR hr k0 k1
  obtain ⟨hk0, hk1⟩ := hk
  go_enter Tryd.func28, Tryd.ntmps28
  go_wp2_with fail
  go_ret
  exact ⟨rfl, rfl⟩

theorem shifted_any (c : Array Value) (r : Rf) (k : Int) (w : World) (hR : IsRoof c r) (hk : 0 ≤ k ∧ k ≤ 1000) :
    Calls Tryd.prog 34 #[.agg c, .int .i64 k] w fun e w' => e = .returned (.bool (r.by k == 1)) ∧ Below w.heap.size w w' := by
  obtain ⟨hc, k0, k1, k2, w0, wl, h0, h1, s0, s1⟩ := hR.view
  clear hR k0 k1
  obtain ⟨hk0, hk1⟩ := hk
  go_enter Tryd.func34, Tryd.ntmps34
  go_wp2_with fail
  go_ret
  exact ⟨rfl, (Below.refl _ _).alloc (Nat.le_refl _) _⟩
end Go.Proofs.YtgdhfcpmeaeioaaDoor
