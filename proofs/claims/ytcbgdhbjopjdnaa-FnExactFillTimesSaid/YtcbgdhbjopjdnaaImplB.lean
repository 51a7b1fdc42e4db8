/- Contracts of the program's small functions over roofs: codes, kinds. -/
import Derived.Test.YtcbgdhbjopjdnaaValid
import Derived.Test.YtcbgdhbjopjdnaaSpecB
namespace Go.Proofs.Ytcbgdhbjopjdnaa
open Go.RowKit

theorem implValid_t (c : Array Value) (r : Rf) (w : World) (hR : IsRoof c r) (h : r.Ok) :
    Calls Try.prog 34 #[.agg c] w fun e w' => e = .returned (.bool true) ∧ Below w.heap.size w w' := by
  have := implValidRoof_any c r w hR; rwa [Rf.ok_true h] at this
theorem implValid_f (c : Array Value) (r : Rf) (w : World) (hR : IsRoof c r) (h : ¬ r.Ok) :
    Calls Try.prog 34 #[.agg c] w fun e w' => e = .returned (.bool false) ∧ Below w.heap.size w w' := by
  have := implValidRoof_any c r w hR; rwa [Rf.ok_false h] at this

set_option maxHeartbeats 400000 in
theorem has_t (c : Array Value) (r : Rf) (a b : Int) (w : World) (hR : IsRoof c r) (h : 0 ≤ a ∧ a < r.h ∧ 0 ≤ b ∧ b < r.w) :
    Calls Try.prog 20 #[.agg c, .agg #[.int .i8 a, .int .i8 b]] w fun e w' => e = .returned (.bool true) ∧ Below w.heap.size w w' := by
  obtain ⟨hc, k0, k1, k2, w0, w1, h0, h1, s0, s1⟩ := hR.view
  clear hR
  obtain ⟨x1, x2, x3, x4⟩ := h
  go_enter Try.func20, Try.ntmps20
  go_wp2_with fail
  go_ret
  exact ⟨rfl, ((Below.refl _ _).alloc (Nat.le_refl _) _).alloc (by simp) _⟩
set_option maxHeartbeats 400000 in
theorem has_f (c : Array Value) (r : Rf) (a b : Int) (w : World) (hR : IsRoof c r) (h : ¬ (0 ≤ a ∧ a < r.h ∧ 0 ≤ b ∧ b < r.w)) :
    Calls Try.prog 20 #[.agg c, .agg #[.int .i8 a, .int .i8 b]] w fun e w' => e = .returned (.bool false) ∧ Below w.heap.size w w' := by
  obtain ⟨hc, k0, k1, k2, w0, w1, h0, h1, s0, s1⟩ := hR.view
  clear hR
  by_cases x1 : 0 ≤ a
  · by_cases x2 : a < r.h
    · by_cases x3 : 0 ≤ b
      · have x4 : ¬ b < r.w := by omega
        go_enter Try.func20, Try.ntmps20
        go_wp2_with fail
        go_ret
        exact ⟨rfl, ((Below.refl _ _).alloc (Nat.le_refl _) _).alloc (by simp) _⟩
      · go_enter Try.func20, Try.ntmps20
        go_wp2_with fail
        go_ret
        exact ⟨rfl, ((Below.refl _ _).alloc (Nat.le_refl _) _).alloc (by simp) _⟩
    · go_enter Try.func20, Try.ntmps20
      go_wp2_with fail
      go_ret
      exact ⟨rfl, ((Below.refl _ _).alloc (Nat.le_refl _) _).alloc (by simp) _⟩
  · go_enter Try.func20, Try.ntmps20
    go_wp2_with fail
    go_ret
    exact ⟨rfl, ((Below.refl _ _).alloc (Nat.le_refl _) _).alloc (by simp) _⟩

end Go.Proofs.Ytcbgdhbjopjdnaa
