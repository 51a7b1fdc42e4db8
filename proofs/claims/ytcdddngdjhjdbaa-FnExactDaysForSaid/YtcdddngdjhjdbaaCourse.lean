/- Contracts of both sides' functions over courses and cells. -/
import Derived.Test.YtcdddngdjhjdbaaImplB
namespace Go.Proofs.Ytcdddngdjhjdbaa
open Go.RowKit

/-- The code of a roof and of whether numbers are as told. -/
noncomputable def Rf.told (r : Rf) (fine : Bool) : Int := if r.ok = true then (if fine = true then 0 else 2) else 1
theorem Rf.told_no {r : Rf} {fine : Bool} (h : ¬ r.Ok) : r.told fine = 1 := by simp [Rf.told, Rf.ok_false h]
theorem Rf.told_out {r : Rf} (h : r.Ok) : r.told false = 2 := by simp [Rf.told, Rf.ok_true h]
theorem Rf.told_in {r : Rf} (h : r.Ok) : r.told true = 0 := by simp [Rf.told, Rf.ok_true h]
theorem Rf.told_zero {r : Rf} {fine : Bool} (h : r.told fine = 0) : r.Ok ∧ fine = true := by
  unfold Rf.told at h
  split at h
  · rename_i ho
    split at h
    · rename_i hp; exact ⟨Rf.Ok_of ho, hp⟩
    · simp at h
  · simp at h

set_option maxHeartbeats 400000 in
theorem l01Told_any (n : Nat) (c : Array Value) (r : Rf) (fine : Bool) (w : World) (hr : rowAt w n = some c) (hR : IsRoof c r) :
    Calls Try.prog 81 #[.pointer (some ⟨n, 0, none⟩), .bool fine] w fun e w' => e = .returned (.int .i64 (r.told fine)) ∧ Below w.heap.size w w' := by
  have hn := rowAt_lt hr
  by_cases ho : r.Ok
  · cases fine with
    | true =>
      rw [Rf.told_in ho]
      go_enter Try.func81, Try.ntmps81
      go_wp2_with fail
      refine (l01Ok_t n c r _ hr hR ho).mono ?_
      rintro e w1 ⟨rfl, b1⟩
      go_wp2_with fail
      go_ret
      exact ⟨rfl, b1⟩
    | false =>
      rw [Rf.told_out ho]
      go_enter Try.func81, Try.ntmps81
      go_wp2_with fail
      refine (l01Ok_t n c r _ hr hR ho).mono ?_
      rintro e w1 ⟨rfl, b1⟩
      go_wp2_with fail
      go_ret
      exact ⟨rfl, b1⟩
  · rw [Rf.told_no ho]
    go_enter Try.func81, Try.ntmps81
    go_wp2_with fail
    refine (l01Ok_f n c r _ hr hR ho).mono ?_
    rintro e w1 ⟨rfl, b1⟩
    go_wp2_with fail
    go_ret
    exact ⟨rfl, b1⟩

theorem l01Course_any (n : Nat) (c : Array Value) (r : Rf) (k : Int) (w : World) (hr : rowAt w n = some c) (hR : IsRoof c r) :
    Calls Try.prog 142 #[.pointer (some ⟨n, 0, none⟩), .int .i64 k] w fun e w' => e = .returned (.bool (inB k 0 (r.h - 1))) ∧ w = w' := by
  have hcell := cell_of_rowAt hr
  obtain ⟨hc, k0, k1, k2, w0, w1, h0, h1, s0, s1⟩ := hR.view
  clear hR hr k0 k2
  go_enter Try.func142, Try.ntmps142
  go_wp2_with fail
  refine (l00In_any _ _ _ _).mono ?_
  rintro e w' ⟨rfl, rfl⟩
  go_wp2_with fail
  go_ret
  exact ⟨rfl, rfl⟩

/-- 1 if a course is shifted, and 0 otherwise. -/
def Rf.by (r : Rf) (k : Int) : Int := (k + r.s) % 2
theorem Rf.by_bd (r : Rf) (k : Int) : 0 ≤ r.by k ∧ r.by k ≤ 1 := by unfold Rf.by; omega

theorem l01By_any (n : Nat) (c : Array Value) (r : Rf) (k : Int) (w : World) (hr : rowAt w n = some c) (hR : IsRoof c r) (hk : 0 ≤ k ∧ k ≤ 1000) :
    Calls Try.prog 149 #[.pointer (some ⟨n, 0, none⟩), .int .i64 k] w fun e w' => e = .returned (.int .i64 (r.by k)) ∧ w = w' := by
  have hcell := cell_of_rowAt hr
  obtain ⟨hc, k0, k1, k2, w0, w1, h0, h1, s0, s1⟩ := hR.view
  clear hR hr k0 k1
  obtain ⟨hk0, hk1⟩ := hk
  go_enter Try.func149, Try.ntmps149
  go_wp2_with fail
  go_ret
  exact ⟨rfl, rfl⟩

theorem shifted_any (c : Array Value) (r : Rf) (k : Int) (w : World) (hR : IsRoof c r) (hk : 0 ≤ k ∧ k ≤ 1000) :
    Calls Try.prog 126 #[.agg c, .int .i64 k] w fun e w' => e = .returned (.bool (r.by k == 1)) ∧ Below w.heap.size w w' := by
  obtain ⟨hc, k0, k1, k2, w0, wl, h0, h1, s0, s1⟩ := hR.view
  clear hR k0 k1
  obtain ⟨hk0, hk1⟩ := hk
  go_enter Try.func126, Try.ntmps126
  go_wp2_with fail
  go_ret
  exact ⟨rfl, (Below.refl _ _).alloc (Nat.le_refl _) _⟩
end Go.Proofs.Ytcdddngdjhjdbaa
