/- Contracts on the cells of a tile. -/
import Derived.Test.YtkbacpkpgfppiaaCourse
import Derived.Test.YtkbacpkpgfppiaaList
namespace Go.Proofs.Ytkbacpkpgfppiaa
open Go.RowKit

/-- What a call that makes a list of numbers ends with. -/
def GivesInts (w : World) (n : Nat) (f : Nat → Int) (code : Int) (e : Ending) (w' : World) : Prop :=
  ∃ v, e = .returned (.tuple #[v, .int .i64 code]) ∧ IsList w' w.heap.size v 1 n (fun i => .int .i64 (f i)) ∧ Below w.heap.size w w'

theorem l01By_q (n : Nat) (c : Array Value) (r : Rf) (k : Int) (w : World) (hr : rowAt w n = some c) (hR : IsRoof c r) (hk : 0 ≤ k ∧ k ≤ 1000) :
    Calls Try.prog 147 #[.pointer (some ⟨n, 0, none⟩), .int .i64 k] w fun e w' => e = .returned (.int .i64 (r.by k)) ∧ w' = w :=
  (l01By_any n c r k w hr hR hk).mono fun _ _ h => ⟨h.1, h.2.symm⟩

set_option maxHeartbeats 400000 in
theorem l01First_any (n : Nat) (c : Array Value) (r : Rf) (i j : Nat) (w : World) (hr : rowAt w n = some c) (hR : IsRoof c r) (hi : i < 8) (hj : j < 8) :
    Calls Try.prog 102 #[.pointer (some ⟨n, 0, none⟩), .agg #[.int .i8 i, .int .i8 j]] w fun e w' => e = .returned (.int .i64 (2 * j + r.by i)) ∧ Below w.heap.size w w' := by
  have hn := rowAt_lt hr
  obtain ⟨y0, y1⟩ := r.by_bd i
  have i0 : 0 ≤ (i : Int) := by omega
  have i1 : (i : Int) < 8 := by omega
  have j0 : 0 ≤ (j : Int) := by omega
  have j1 : (j : Int) < 8 := by omega
  have e1 : IntKind.i64.wrap (2 * (j : Int)) = 2 * j := IntWalk.i64_in _ (by omega)
  have e2 : IntKind.i64.wrap (2 * (j : Int) + r.by i) = 2 * j + r.by i := IntWalk.i64_in _ (by omega)
  go_enter Try.func102, Try.ntmps102
  go_wp2_with fail
  go_quiet ((go_at_call 147; exact Calls.quiet_of_same (l01By_q n c r _ _ ((rowAt_drewN _ _ _).trans ((rowAt_alloc_past _ _ _ hn).trans hr)) hR (by omega))))
  clear e1
  go_wp2_with fail
  go_ret
  exact ⟨rfl, below_drewN ((Below.refl _ _).alloc (Nat.le_refl _) _) _⟩

set_option maxHeartbeats 400000 in
theorem cells_any (c : Array Value) (r : Rf) (i j : Nat) (w : World) (hR : IsRoof c r) (hi : i < 8) (hj : j < 8) :
    Calls Try.prog 110 #[.agg c, .agg #[.int .i8 i, .int .i8 j]] w fun e w' => e = .returned (.agg #[.int .i64 (2 * j + r.by i), .int .i64 (2 * j + r.by i + 1)]) ∧ Below w.heap.size w w' := by
  obtain ⟨hc, k0, k1, k2, w0, wl, h0, h1, s0, s1⟩ := hR.view
  clear k0 k1 k2
  obtain ⟨y0, y1⟩ := r.by_bd i
  have i0 : 0 ≤ (i : Int) := by omega
  have i1 : (i : Int) < 8 := by omega
  have j0 : 0 ≤ (j : Int) := by omega
  have j1 : (j : Int) < 8 := by omega
  by_cases hby : r.by i = 1
  · have hbt : (r.by i == 1) = true := by simp [hby]
    rw [hby]
    clear hby
    go_enter Try.func110, Try.ntmps110
    go_wp2_with fail
    refine (shifted_any c r i _ hR (by omega)).mono ?_
    rintro e w1 ⟨rfl, b1⟩
    rw [hbt]
    have z1 := brow b1 (rowAt_alloc_at _ #[.int .i64 0, .int .i64 0] 147 _ rfl)
    obtain ⟨v1, v2, v3, v4⟩ := bview b1
    have B1 : Below w.heap.size w w1 := ((((Below.refl _ _).alloc (Nat.le_refl _) _).alloc (by simp) _).alloc (by simp; omega) _).trans (b1.mono (by simp; omega))
    clear b1
    go_wp2_with fail
    refine bodyPost_ret (v := .agg #[.int .i64 (2 * (j : Int) + 1), .int .i64 (2 * (j : Int) + 1 + 1)]) (by simp [results, Try.results110, go_sem, v2]) rfl ⟨rfl, ?_⟩
    exact (B1.setCell (p := ⟨_, _, none⟩) (by simp; omega) _).setCell (p := ⟨_, _, none⟩) (by simp; omega) _
  · have hb0 : r.by i = 0 := by omega
    have hbt : (r.by i == 1) = false := by simp [hb0]
    rw [hb0, Int.add_zero]
    clear hby hb0
    go_enter Try.func110, Try.ntmps110
    go_wp2_with fail
    refine (shifted_any c r i _ hR (by omega)).mono ?_
    rintro e w1 ⟨rfl, b1⟩
    rw [hbt]
    have z1 := brow b1 (rowAt_alloc_at _ #[.int .i64 0, .int .i64 0] 147 _ rfl)
    obtain ⟨v1, v2, v3, v4⟩ := bview b1
    have B1 : Below w.heap.size w w1 := ((((Below.refl _ _).alloc (Nat.le_refl _) _).alloc (by simp) _).alloc (by simp; omega) _).trans (b1.mono (by simp; omega))
    clear b1
    go_wp2_with fail
    refine bodyPost_ret (v := .agg #[.int .i64 (2 * (j : Int)), .int .i64 (2 * (j : Int) + 1)]) (by simp [results, Try.results110, go_sem, v2]) rfl ⟨rfl, ?_⟩
    exact (B1.setCell (p := ⟨_, _, none⟩) (by simp; omega) _).setCell (p := ⟨_, _, none⟩) (by simp; omega) _
end Go.Proofs.Ytkbacpkpgfppiaa
