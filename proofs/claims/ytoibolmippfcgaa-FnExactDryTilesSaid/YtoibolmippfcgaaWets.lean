/- Which tiles are wet: the program's f.wets. -/
import Derived.Test.YtoibolmippfcgaaFlow
import Derived.Test.YtoibolmippfcgaaCells
import Derived.Test.YtoibolmippfcgaaRunS
import Derived.Test.YtoibolmippfcgaaPlaces
import Derived.Deep.QuietTactic
import Derived.BigQuiet
namespace Go.Proofs.Ytoibolmippfcgaa
open Go.RowKit

/-- The first cell of a tile. -/
def Rf.cell0 (r : Rf) (i j : Nat) : Nat := (2 * (j : Int) + r.by i).toNat
theorem Rf.cell0_eq (r : Rf) (i j : Nat) : 2 * (j : Int) + r.by i = (r.cell0 i j : Int) := by have := r.by_bd i; unfold Rf.cell0; omega
theorem Rf.cell0_le (r : Rf) {i j : Nat} (hj : j < 8) : r.cell0 i j + 1 < 17 := by have := r.by_bd i; have := r.cell0_eq i j; omega
/-- Water comes to a tile. -/
def Rf.wetB (r : Rf) (t : Nat → Int) (i j : Nat) : Bool := decide (0 < r.come (t (r.cell0 i j)) (r.cell0 i j) i ∨ 0 < r.come (t (r.cell0 i j + 1)) (r.cell0 i j + 1) i)

set_option maxRecDepth 100000 in
set_option maxHeartbeats 2000000 in
theorem wets_any (nf : Nat) (c F : Array Value) (r : Rf) (G D : Nat → Int) (i j : Nat) (w : World) (hR : IsRoof c r) (hi : i < 8) (hj : j < 8) (hF : rowAt w nf = some F) (hI : IsFlow F G D) :
    Calls Try.prog 84 #[.pointer (some ⟨nf, 0, none⟩), .agg c, .agg #[.int .i8 i, .int .i8 j]] w fun e w' => e = .returned (.bool (decide (0 < G (i * 17 + r.cell0 i j) ∨ 0 < G (i * 17 + (r.cell0 i j + 1))))) ∧ Below w.heap.size w w' := by
  have hc := hR.size
  have hn := rowAt_lt hF
  have hq := r.cell0_eq i j
  have hq1 := r.cell0_le (i := i) hj
  have CC := fun w => cells_any c r i j w hR hi hj
  rw [hq] at CC
  generalize r.cell0 i j = q at *
  have x0 : F[i * 17 + q]? = some (.int .i64 (G (i * 17 + q))) := hI.comes _ (by omega)
  have x1 : F[i * 17 + (q + 1)]? = some (.int .i64 (G (i * 17 + (q + 1)))) := hI.comes _ (by omega)
  generalize G (i * 17 + q) = g0 at *
  generalize G (i * 17 + (q + 1)) = g1 at *
  have i0 : 0 ≤ (i : Int) := by omega
  have i1 : (i : Int) < 9 := by omega
  have q0 : 0 ≤ (q : Int) := by omega
  have q2 : (q : Int) < 17 := by omega
  have q3 : 0 ≤ (q : Int) + 1 := by omega
  have q4 : (q : Int) + 1 < 17 := by omega
  have q5 : ((q : Int) + 1).toNat = q + 1 := by omega
  clear hq hI
  by_cases h0 : 0 < g0
  · rw [show decide (0 < g0 ∨ 0 < g1) = true from by simp [h0]]
    have hd0 : decide (0 < g0) = true := by simp [h0]
    go_enter Try.func84, Try.ntmps84
    go_wp2_with fail
    refine (CC _).mono ?_
    rintro e w1 ⟨rfl, b1⟩
    have r1 := brow b1 ((rowAt_alloc_past _ _ _ (by simp; omega)).trans ((rowAt_alloc_past w (.cells c 29) _ hn).trans hF))
    have r2 := brow b1 (rowAt_alloc_at (w.alloc (.cells c 29)) #[.int .i8 i, .int .i8 j] 68 (w.heap.size + 1) (by simp))
    have B1 : Below w.heap.size w w1 := (((Below.refl _ _).alloc (Nat.le_refl _) _).alloc (by simp) _).trans (b1.mono (by simp; omega))
    clear b1 CC
    go_wp2_with fail
    refine gen_world fun W2 hW2 => ?_
    have s1 : rowAt W2 nf = some F := by rw [hW2]; exact (rowAt_alloc_past _ _ _ (rowAt_lt r1)).trans r1
    have s2 : rowAt W2 (w.heap.size + 1) = some #[.int .i8 i, .int .i8 j] := by rw [hW2]; exact (rowAt_alloc_past _ _ _ (rowAt_lt r2)).trans r2
    have s3 : rowAt W2 w1.heap.size = some #[.int .i64 q, .int .i64 (q + 1)] := by rw [hW2]; exact rowAt_alloc_at _ _ _ _ rfl
    have B2 : Below w.heap.size w W2 := by rw [hW2]; exact B1.alloc B1.size _
    clear hW2 r1 r2 B1
    have k0 : W2.cell? ⟨w.heap.size + 1, 0, none⟩ = some (.int .i8 i) := cell_of_rowAt s2 0
    have k1 : W2.cell? ⟨w.heap.size + 1, 1, none⟩ = some (.int .i8 j) := cell_of_rowAt s2 1
    have k2 : W2.cell? ⟨w1.heap.size, 0, none⟩ = some (.int .i64 q) := cell_of_rowAt s3 0
    have k3 : W2.cell? ⟨w1.heap.size, 1, none⟩ = some (.int .i64 (q + 1)) := cell_of_rowAt s3 1
    have k4 : W2.cell? ⟨nf, i * 17 + q, none⟩ = some (.int .i64 g0) := (cell_of_rowAt s1 _).trans x0
    have k5 : W2.cell? ⟨nf, i * 17 + (q + 1), none⟩ = some (.int .i64 g1) := (cell_of_rowAt s1 _).trans x1
    clear s1 s2 s3 x0 x1
    go_quiet (fail)
    go_wp2_with fail
    go_ret
    exact ⟨rfl, below_drewN B2 _⟩
  · have hd0 : decide (0 < g0) = false := by simpa using h0
    by_cases h1 : 0 < g1
    · rw [show decide (0 < g0 ∨ 0 < g1) = true from by simp [h1]]
      have hd1 : decide (0 < g1) = true := by simp [h1]
      go_enter Try.func84, Try.ntmps84
      go_wp2_with fail
      refine (CC _).mono ?_
      rintro e w1 ⟨rfl, b1⟩
      have r1 := brow b1 ((rowAt_alloc_past _ _ _ (by simp; omega)).trans ((rowAt_alloc_past w (.cells c 29) _ hn).trans hF))
      have r2 := brow b1 (rowAt_alloc_at (w.alloc (.cells c 29)) #[.int .i8 i, .int .i8 j] 68 (w.heap.size + 1) (by simp))
      have B1 : Below w.heap.size w w1 := (((Below.refl _ _).alloc (Nat.le_refl _) _).alloc (by simp) _).trans (b1.mono (by simp; omega))
      clear b1 CC
      go_wp2_with fail
      refine gen_world fun W2 hW2 => ?_
      have s1 : rowAt W2 nf = some F := by rw [hW2]; exact (rowAt_alloc_past _ _ _ (rowAt_lt r1)).trans r1
      have s2 : rowAt W2 (w.heap.size + 1) = some #[.int .i8 i, .int .i8 j] := by rw [hW2]; exact (rowAt_alloc_past _ _ _ (rowAt_lt r2)).trans r2
      have s3 : rowAt W2 w1.heap.size = some #[.int .i64 q, .int .i64 (q + 1)] := by rw [hW2]; exact rowAt_alloc_at _ _ _ _ rfl
      have B2 : Below w.heap.size w W2 := by rw [hW2]; exact B1.alloc B1.size _
      clear hW2 r1 r2 B1
      have k0 : W2.cell? ⟨w.heap.size + 1, 0, none⟩ = some (.int .i8 i) := cell_of_rowAt s2 0
      have k1 : W2.cell? ⟨w.heap.size + 1, 1, none⟩ = some (.int .i8 j) := cell_of_rowAt s2 1
      have k2 : W2.cell? ⟨w1.heap.size, 0, none⟩ = some (.int .i64 q) := cell_of_rowAt s3 0
      have k3 : W2.cell? ⟨w1.heap.size, 1, none⟩ = some (.int .i64 (q + 1)) := cell_of_rowAt s3 1
      have k4 : W2.cell? ⟨nf, i * 17 + q, none⟩ = some (.int .i64 g0) := (cell_of_rowAt s1 _).trans x0
      have k5 : W2.cell? ⟨nf, i * 17 + (q + 1), none⟩ = some (.int .i64 g1) := (cell_of_rowAt s1 _).trans x1
      clear s1 s2 s3 x0 x1
      go_quiet (fail)
      go_wp2_with fail
      go_ret
      exact ⟨rfl, below_drewN B2 _⟩
    · rw [show decide (0 < g0 ∨ 0 < g1) = false from by simp only [decide_eq_false_iff_not]; omega]
      have hd1 : decide (0 < g1) = false := by simpa using h1
      go_enter Try.func84, Try.ntmps84
      go_wp2_with fail
      refine (CC _).mono ?_
      rintro e w1 ⟨rfl, b1⟩
      have r1 := brow b1 ((rowAt_alloc_past _ _ _ (by simp; omega)).trans ((rowAt_alloc_past w (.cells c 29) _ hn).trans hF))
      have r2 := brow b1 (rowAt_alloc_at (w.alloc (.cells c 29)) #[.int .i8 i, .int .i8 j] 68 (w.heap.size + 1) (by simp))
      have B1 : Below w.heap.size w w1 := (((Below.refl _ _).alloc (Nat.le_refl _) _).alloc (by simp) _).trans (b1.mono (by simp; omega))
      clear b1 CC
      go_wp2_with fail
      refine gen_world fun W2 hW2 => ?_
      have s1 : rowAt W2 nf = some F := by rw [hW2]; exact (rowAt_alloc_past _ _ _ (rowAt_lt r1)).trans r1
      have s2 : rowAt W2 (w.heap.size + 1) = some #[.int .i8 i, .int .i8 j] := by rw [hW2]; exact (rowAt_alloc_past _ _ _ (rowAt_lt r2)).trans r2
      have s3 : rowAt W2 w1.heap.size = some #[.int .i64 q, .int .i64 (q + 1)] := by rw [hW2]; exact rowAt_alloc_at _ _ _ _ rfl
      have B2 : Below w.heap.size w W2 := by rw [hW2]; exact B1.alloc B1.size _
      clear hW2 r1 r2 B1
      have k0 : W2.cell? ⟨w.heap.size + 1, 0, none⟩ = some (.int .i8 i) := cell_of_rowAt s2 0
      have k1 : W2.cell? ⟨w.heap.size + 1, 1, none⟩ = some (.int .i8 j) := cell_of_rowAt s2 1
      have k2 : W2.cell? ⟨w1.heap.size, 0, none⟩ = some (.int .i64 q) := cell_of_rowAt s3 0
      have k3 : W2.cell? ⟨w1.heap.size, 1, none⟩ = some (.int .i64 (q + 1)) := cell_of_rowAt s3 1
      have k4 : W2.cell? ⟨nf, i * 17 + q, none⟩ = some (.int .i64 g0) := (cell_of_rowAt s1 _).trans x0
      have k5 : W2.cell? ⟨nf, i * 17 + (q + 1), none⟩ = some (.int .i64 g1) := (cell_of_rowAt s1 _).trans x1
      clear s1 s2 s3 x0 x1
      go_quiet (fail)
      go_wp2_with fail
      go_ret
      exact ⟨rfl, below_drewN B2 _⟩
end Go.Proofs.Ytoibolmippfcgaa
