/- SaveOf: how much less drips if a tile is whole: contracts of both sides. -/
import Derived.Test.YtoibolmippfcgaaDoorDripS
import Derived.Test.YtoibolmippfcgaaDoorRainV
import Derived.Test.YtoibolmippfcgaaDoorRset
import Derived.StillTailTactics
import Derived.Deep.RegionHeld3
import Derived.IntWalk
namespace Go.Proofs.YtoibolmippfcgaaDoor
open Go.RowKit

theorem Rf.set_ok {r : Rf} (h : r.Ok) (x : Nat) : (r.set x 0).Ok :=
  ⟨h.1, h.2.1, h.2.2.1, h.2.2.2.1, h.2.2.2.2.1, fun i hi => by
    have g := h.2.2.2.2.2 i hi
    unfold Rf.fine Rf.set at *
    dsimp only
    split
    · exact ⟨by omega, .inr rfl⟩
    · exact g⟩
theorem Rf.set_rains {r : Rf} {t : Nat → Int} (h : r.Rains t) (x : Nat) : (r.set x 0).Rains t := ⟨Rf.set_ok h.1 x, h.2⟩

/-- What a tile saves. -/
def Rf.save (r : Rf) (t : Nat → Int) (x : Nat) : Int := sumTo (r.drips t) 136 - sumTo ((r.set x 0).drips t) 136
theorem Rf.sum_bd {r : Rf} {t : Nat → Int} (h : r.Rains t) : 0 ≤ sumTo (r.drips t) 136 ∧ sumTo (r.drips t) 136 ≤ 136000 := by
  have := sumTo_bd (t := r.drips t) (n := 136) fun i _ => h.drips_bd i
  omega

set_option maxRecDepth 100000 in
set_option maxHeartbeats 1000000 in
theorem mend_any (c : Array Value) (r : Rf) (i j : Nat) (w : World) (hR : IsRoof c r) (hi : i < 8) (hj : j < 8) :
    Calls Tryd.prog 76 #[.agg c, .agg #[.int .i8 i, .int .i8 j]] w fun e w' => e = .returned (.agg (c.setIfInBounds (3 + i * 8 + j) (.int .u8 0))) ∧ Below w.heap.size w w' := by
  have hc := hR.size
  have hzs := zroof_size
  have hrs := (hR.set (i * 8 + j) (by omega) 0 (by omega)).ones
  rw [← Nat.add_assoc] at hrs
  have i0 : 0 ≤ (i : Int) := by omega
  have i1 : (i : Int) < 8 := by omega
  have j0 : 0 ≤ (j : Int) := by omega
  have j1 : (j : Int) < 8 := by omega
  have hcx : 3 + i * 8 + j < 67 := by omega
  have hne2 : w.heap.size + 1 + 1 ≠ w.heap.size := by omega
  clear hR
  go_enter Tryd.func76, Tryd.ntmps76
  go_wp2_with fail
  refine gen_world fun W hW => ?_
  have p0 : rowAt W w.heap.size = some c := by rw [hW]; exact (rowAt_alloc_past _ _ _ (by simp; omega)).trans ((rowAt_alloc_past _ _ _ (by simp)).trans (rowAt_alloc_at _ _ _ _ rfl))
  have p1 : rowAt W (w.heap.size + 1) = some #[.int .i8 i, .int .i8 j] := by rw [hW]; exact (rowAt_alloc_past _ _ _ (by simp)).trans (rowAt_alloc_at _ _ _ _ (by simp))
  have p2 : rowAt W (w.heap.size + 1 + 1) = some Tryd.zeroCells33 := by rw [hW]; exact rowAt_alloc_at _ _ _ _ (by simp)
  have pB : Below w.heap.size w W := by rw [hW]; exact (((Below.refl _ _).alloc (Nat.le_refl _) _).alloc (by simp) _).alloc (by simp; omega) _
  clear hW
  have g1 : W.cell? ⟨w.heap.size + 1, 0, none⟩ = some (.int .i8 i) := by rw [cell_of_rowAt p1]; rfl
  have g2 : W.cell? ⟨w.heap.size + 1, 1, none⟩ = some (.int .i8 j) := by rw [cell_of_rowAt p1]; rfl
  have gcell := cell_of_rowAt p0
  have gfro := frozen_of_rowAt p0
  go_still_tail 7, (by kernel_rfl)
  change wpList _ _ _ _ _ W.drew
  repeat go_step
  have s0 := rowAt_setCell_at W w.heap.size (3 + i * 8 + j) (.int .u8 0) (by simp [p0])
  have s2 := (rowAt_setCell_ne W w.heap.size (w.heap.size + 1 + 1) (3 + i * 8 + j) (.int .u8 0) hne2).trans p2
  refine bodyPost_ret (v := .agg (c.setIfInBounds (3 + i * 8 + j) (.int .u8 0))) (results_row1 rfl _ _ (w.heap.size + 1 + 1) _ rfl (rowAt_setRow_at _ _ _ (by rw [s2]; rfl)) Tryd.underlying33 rfl (by kernel_rfl) (by simpa using hc)) rfl ⟨rfl, ?_⟩
  exact below_setRow ((pB.setCell (p := ⟨_, _, none⟩) (Nat.le_refl _) _).drew) (by omega) _

theorem keep3 {B n m k : Nat} {w W w1 : World} {c e f : Array Value} (b : Below W.heap.size W w1) (h : rowAt W n = some c ∧ rowAt W m = some e ∧ rowAt W k = some f ∧ Below B w W ∧ B ≤ W.heap.size) : rowAt w1 n = some c ∧ rowAt w1 m = some e ∧ rowAt w1 k = some f ∧ Below B w w1 ∧ B ≤ w1.heap.size :=
  ⟨brow b h.1, brow b h.2.1, brow b h.2.2.1, bnext h.2.2.2.1 b h.2.2.2.2, Nat.le_trans h.2.2.2.2 b.size⟩

end Go.Proofs.YtoibolmippfcgaaDoor
