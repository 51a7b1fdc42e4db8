/- What is within reach: one tile, of one ladder and of several; contracts of both sides' small functions. -/
import Derived.Test.YtkbacpkpgfppiaaLadA
import Derived.Test.YtkbacpkpgfppiaaCells
namespace Go.Proofs.Ytkbacpkpgfppiaa
open Go.RowKit

/-- Whether the tile i, j is reached from a ladder at x. -/
def Rf.can (r : Rf) (y : Int) (i j : Nat) (x : Int) : Bool := inB x (2 * j + r.by i - y) (2 * j + r.by i + 1 + y)
theorem Rf.can_t {r : Rf} {y x : Int} {i j : Nat} (h : 2 * (j : Int) + r.by i - y ≤ x ∧ x ≤ 2 * j + r.by i + 1 + y) : r.can y i j x = true := inB_true h
theorem Rf.can_f {r : Rf} {y x : Int} {i j : Nat} (h : ¬ (2 * (j : Int) + r.by i - y ≤ x ∧ x ≤ 2 * j + r.by i + 1 + y)) : r.can y i j x = false := inB_false h

set_option maxHeartbeats 400000 in
theorem l04Can_any (n : Nat) (c : Array Value) (r : Rf) (x y : Int) (i j : Nat) (w : World) (hr : rowAt w n = some c) (hR : IsRoof c r) (hi : i < 8) (hj : j < 8) (hy : 0 ≤ y ∧ y ≤ 8) :
    Calls Try.prog 165 #[.pointer (some ⟨n, 0, none⟩), .int .i64 x, .int .i64 y, .agg #[.int .i8 i, .int .i8 j]] w fun e w' => e = .returned (.bool (r.can y i j x)) ∧ Below w.heap.size w w' := by
  obtain ⟨y0, y1⟩ := r.by_bd i
  have j0 : 0 ≤ (j : Int) := by omega
  have j1 : (j : Int) < 8 := by omega
  have hn := rowAt_lt hr
  have CL := fun W H => l01First_any n c r i j W H hR hi hj
  go_enter Try.func165, Try.ntmps165
  go_wp2_with fail
  refine (CL _ ((rowAt_alloc_past _ _ _ hn).trans hr)).mono ?_
  rintro e w1 ⟨rfl, b1⟩
  have B1 : Below w.heap.size w w1 := ((Below.refl _ _).alloc (Nat.le_refl _) _).trans (b1.mono (by simp))
  clear b1 CL hr
  go_wp2_with fail
  refine (l00In_any _ _ _ _).mono ?_
  rintro e w' ⟨rfl, rfl⟩
  go_wp2_with fail
  go_ret
  exact ⟨rfl, B1⟩

set_option maxRecDepth 100000 in
set_option maxHeartbeats 400000 in
theorem reaches_any (c : Array Value) (r : Rf) (x y : Int) (i j : Nat) (w : World) (hR : IsRoof c r) (hi : i < 8) (hj : j < 8) (hy : 0 ≤ y ∧ y ≤ 8) :
    Calls Try.prog 112 #[.agg c, .int .i64 x, .int .i64 y, .agg #[.int .i8 i, .int .i8 j]] w fun e w' => e = .returned (.bool (r.can y i j x)) ∧ Below w.heap.size w w' := by
  have hc := hR.size
  obtain ⟨y0, y1⟩ := r.by_bd i
  obtain ⟨z0, z1⟩ := hy
  have j0 : 0 ≤ (j : Int) := by omega
  have j1 : (j : Int) < 8 := by omega
  have CL := fun W => cells_any c r i j W hR hi hj
  by_cases h1 : 2 * (j : Int) + r.by i - y ≤ x
  · by_cases h2 : x ≤ 2 * (j : Int) + r.by i + 1 + y
    · rw [Rf.can_t ⟨h1, h2⟩]
      go_enter Try.func112, Try.ntmps112
      go_wp2_with fail
      refine (CL _).mono ?_
      rintro e w1 ⟨rfl, b1⟩
      have B1 : Below w.heap.size w w1 := (((Below.refl _ _).alloc (Nat.le_refl _) _).alloc (by simp) _).trans (b1.mono (by simp <;> omega))
      clear b1 CL
      go_wp2_with fail
      go_ret
      exact ⟨rfl, B1.alloc B1.size _⟩
    · rw [Rf.can_f (fun h => h2 h.2)]
      have hd2 : decide (x ≤ 2 * (j : Int) + r.by i + 1 + y) = false := by simpa using h2
      clear h2
      go_enter Try.func112, Try.ntmps112
      go_wp2_with fail
      refine (CL _).mono ?_
      rintro e w1 ⟨rfl, b1⟩
      have B1 : Below w.heap.size w w1 := (((Below.refl _ _).alloc (Nat.le_refl _) _).alloc (by simp) _).trans (b1.mono (by simp <;> omega))
      clear b1 CL
      go_wp2_with fail
      go_ret
      exact ⟨rfl, B1.alloc B1.size _⟩
  · rw [Rf.can_f (fun h => h1 h.1)]
    go_enter Try.func112, Try.ntmps112
    go_wp2_with fail
    refine (CL _).mono ?_
    rintro e w1 ⟨rfl, b1⟩
    have B1 : Below w.heap.size w w1 := (((Below.refl _ _).alloc (Nat.le_refl _) _).alloc (by simp) _).trans (b1.mono (by simp <;> omega))
    clear b1 CL
    go_wp2_with fail
    go_ret
    exact ⟨rfl, B1.alloc B1.size _⟩

end Go.Proofs.Ytkbacpkpgfppiaa
