/- Contracts of the program's small functions over roofs: codes, kinds. -/
import Derived.Test.YtppohghejhcilaaValid
import Derived.Test.YtppohghejhcilaaSpecB
namespace Go.Proofs.Ytppohghejhcilaa
open Go.RowKit

theorem implValid_t (c : Array Value) (r : Rf) (w : World) (hR : IsRoof c r) (h : r.Ok) :
    Calls Try.prog 49 #[.agg c] w fun e w' => e = .returned (.bool true) ∧ Below w.heap.size w w' := by
  have := implValidRoof_any c r w hR; rwa [Rf.ok_true h] at this
theorem implValid_f (c : Array Value) (r : Rf) (w : World) (hR : IsRoof c r) (h : ¬ r.Ok) :
    Calls Try.prog 49 #[.agg c] w fun e w' => e = .returned (.bool false) ∧ Below w.heap.size w w' := by
  have := implValidRoof_any c r w hR; rwa [Rf.ok_false h] at this

set_option maxHeartbeats 400000 in
theorem has_t (c : Array Value) (r : Rf) (a b : Int) (w : World) (hR : IsRoof c r) (h : 0 ≤ a ∧ a < r.h ∧ 0 ≤ b ∧ b < r.w) :
    Calls Try.prog 56 #[.agg c, .agg #[.int .i8 a, .int .i8 b]] w fun e w' => e = .returned (.bool true) ∧ Below w.heap.size w w' := by
  obtain ⟨hc, k0, k1, k2, w0, w1, h0, h1, s0, s1⟩ := hR.view
  clear hR
  obtain ⟨x1, x2, x3, x4⟩ := h
  go_enter Try.func56, Try.ntmps56
  go_wp2_with fail
  go_ret
  exact ⟨rfl, ((Below.refl _ _).alloc (Nat.le_refl _) _).alloc (by simp) _⟩
set_option maxHeartbeats 400000 in
theorem has_f (c : Array Value) (r : Rf) (a b : Int) (w : World) (hR : IsRoof c r) (h : ¬ (0 ≤ a ∧ a < r.h ∧ 0 ≤ b ∧ b < r.w)) :
    Calls Try.prog 56 #[.agg c, .agg #[.int .i8 a, .int .i8 b]] w fun e w' => e = .returned (.bool false) ∧ Below w.heap.size w w' := by
  obtain ⟨hc, k0, k1, k2, w0, w1, h0, h1, s0, s1⟩ := hR.view
  clear hR
  by_cases x1 : 0 ≤ a
  · by_cases x2 : a < r.h
    · by_cases x3 : 0 ≤ b
      · have x4 : ¬ b < r.w := by omega
        go_enter Try.func56, Try.ntmps56
        go_wp2_with fail
        go_ret
        exact ⟨rfl, ((Below.refl _ _).alloc (Nat.le_refl _) _).alloc (by simp) _⟩
      · go_enter Try.func56, Try.ntmps56
        go_wp2_with fail
        go_ret
        exact ⟨rfl, ((Below.refl _ _).alloc (Nat.le_refl _) _).alloc (by simp) _⟩
    · go_enter Try.func56, Try.ntmps56
      go_wp2_with fail
      go_ret
      exact ⟨rfl, ((Below.refl _ _).alloc (Nat.le_refl _) _).alloc (by simp) _⟩
  · go_enter Try.func56, Try.ntmps56
    go_wp2_with fail
    go_ret
    exact ⟨rfl, ((Below.refl _ _).alloc (Nat.le_refl _) _).alloc (by simp) _⟩

set_option maxHeartbeats 400000 in
theorem checkPlace_any (c : Array Value) (r : Rf) (a b : Int) (w : World) (hR : IsRoof c r) :
    Calls Try.prog 28 #[.agg c, .agg #[.int .i8 a, .int .i8 b]] w fun e w' => e = .returned (.int .i64 (r.ask a b true)) ∧ Below w.heap.size w w' := by
  have hc := hR.size
  by_cases ho : r.Ok
  · by_cases hp : 0 ≤ a ∧ a < r.h ∧ 0 ≤ b ∧ b < r.w
    · rw [Rf.ask_in ho (Rf.isB_true hp) rfl]
      go_enter Try.func28, Try.ntmps28
      go_wp2_with fail
      refine (implValid_t c r _ hR ho).mono ?_
      rintro e w1 ⟨rfl, b1⟩
      have q1 := brow b1 ((rowAt_alloc_past _ _ _ (by simp)).trans (rowAt_alloc_at w c 28 _ rfl))
      obtain ⟨v1, v2, v3, v4⟩ := bview b1
      have B1 : Below w.heap.size w w1 := (((Below.refl _ _).alloc (Nat.le_refl _) _).alloc (by simp) _).trans (b1.mono (by simp; omega))
      clear b1
      go_wp2_with fail
      refine (has_t c r a b _ hR hp).mono ?_
      rintro e w2 ⟨rfl, b2⟩
      have B2 := bnext B1 b2 B1.size
      clear b2 v1 v2 v3 v4
      go_wp2_with fail
      go_ret
      exact ⟨rfl, B2⟩
    · rw [Rf.ask_out ho (fun h => hp (Rf.isB_iff.1 h.1))]
      go_enter Try.func28, Try.ntmps28
      go_wp2_with fail
      refine (implValid_t c r _ hR ho).mono ?_
      rintro e w1 ⟨rfl, b1⟩
      have q1 := brow b1 ((rowAt_alloc_past _ _ _ (by simp)).trans (rowAt_alloc_at w c 28 _ rfl))
      obtain ⟨v1, v2, v3, v4⟩ := bview b1
      have B1 : Below w.heap.size w w1 := (((Below.refl _ _).alloc (Nat.le_refl _) _).alloc (by simp) _).trans (b1.mono (by simp; omega))
      clear b1
      go_wp2_with fail
      refine (has_f c r a b _ hR hp).mono ?_
      rintro e w2 ⟨rfl, b2⟩
      have B2 := bnext B1 b2 B1.size
      clear b2 v1 v2 v3 v4
      go_wp2_with fail
      go_ret
      exact ⟨rfl, B2⟩
  · rw [Rf.ask_no ho]
    go_enter Try.func28, Try.ntmps28
    go_wp2_with fail
    refine (implValid_f c r _ hR ho).mono ?_
    rintro e w1 ⟨rfl, b1⟩
    have B1 : Below w.heap.size w w1 := (((Below.refl _ _).alloc (Nat.le_refl _) _).alloc (by simp) _).trans (b1.mono (by simp; omega))
    clear b1
    go_wp2_with fail
    go_ret
    exact ⟨rfl, B1⟩

set_option maxHeartbeats 400000 in
theorem kind_any (c : Array Value) (r : Rf) (i j : Nat) (w : World) (hR : IsRoof c r) (hi : i < 8) (hj : j < 8) :
    Calls Try.prog 53 #[.agg c, .agg #[.int .i8 i, .int .i8 j]] w fun e w' => e = .returned (.int .i64 (r.t (i * 8 + j))) ∧ Below w.heap.size w w' := by
  obtain ⟨hcell, t0, t1⟩ := tile_cell (rowAt_alloc_at w c 28 _ rfl) hR i j hi hj
  have hc := hR.size
  have hcc : 3 + i * 8 + j < 67 := by omega
  have h : ∀ g : 3 + i * 8 + j < c.size, c[3 + i * 8 + j] = .int .u8 (r.t (i * 8 + j)) := fun g => by
    have h := hR.tile (3 + i * 8 + j) g (by omega)
    rwa [show 3 + i * 8 + j - 3 = i * 8 + j from by omega] at h
  have i0 : 0 ≤ (i : Int) := by omega
  have i1 : (i : Int) < 8 := by omega
  have j0 : 0 ≤ (j : Int) := by omega
  have j1 : (j : Int) < 8 := by omega
  clear hcell
  go_enter Try.func53, Try.ntmps53
  go_wp2_with fail
  go_quiet (fail)
  go_wp2_with fail
  go_ret
  exact ⟨rfl, below_drewN (((Below.refl _ _).alloc (Nat.le_refl _) _).alloc (by simp) _) _⟩
end Go.Proofs.Ytppohghejhcilaa
