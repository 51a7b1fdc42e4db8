/- MendAll: both sides. -/
import Derived.Test.YtcdobpnejbfbpabMended
import Derived.Test.YtcdobpnejbfbpabTiles
import Derived.Test.YtcdobpnejbfbpabRunS
import Derived.Deep.RegionHeld3
import Derived.IntWalk
namespace Go.Proofs.Ytcdobpnejbfbpab
open Go.RowKit

noncomputable def Rf.maN (r : Rf) : Int := if r.ok = true then r.w * r.h - ((r.ofKind 0 r.all).length : Int) else 0
noncomputable def Rf.maA (r : Rf) (c : Array Value) : Array Value := if r.ok = true then bareC c else Try.zeroCells28
noncomputable def Rf.maR (r : Rf) : Rf := if r.ok = true then r.bare else ⟨0, 0, 0, fun _ => 0⟩
noncomputable def Rf.okc (r : Rf) : Int := if r.ok = true then 0 else 1
theorem Rf.maA_is {r : Rf} {c : Array Value} (hR : IsRoof c r) : IsRoof (r.maA c) r.maR := by
  unfold Rf.maA Rf.maR
  split
  · exact hR.bare
  · exact zroof_is
theorem Rf.area {r : Rf} (ho : r.Ok) : 0 ≤ r.w * r.h ∧ r.w * r.h ≤ 64 := by
  obtain ⟨a, ha⟩ := Int.eq_ofNat_of_zero_le (show 0 ≤ r.w by have := ho.1; omega)
  obtain ⟨b, hb⟩ := Int.eq_ofNat_of_zero_le (show 0 ≤ r.h by have := ho.2.2.1; omega)
  have h1 := ho.2.1
  have h2 := ho.2.2.2.1
  have : a * b ≤ 8 * 8 := Nat.mul_le_mul (by omega) (by omega)
  rw [ha, hb]
  constructor
  · exact Int.mul_nonneg (by omega) (by omega)
  · have h3 : ((a : Int) * b) = ((a * b : Nat) : Int) := by simp
    rw [h3]; omega

theorem maKeep {n B : Nat} {w W w1 : World} {c : Array Value} {x y : Value} (b : Below W.heap.size W w1) (h : rowAt W n = some c ∧ W.cell? ⟨n, 0, none⟩ = some x ∧ W.cell? ⟨n, 1, none⟩ = some y ∧ Below B w W ∧ B ≤ W.heap.size) :
    rowAt w1 n = some c ∧ w1.cell? ⟨n, 0, none⟩ = some x ∧ w1.cell? ⟨n, 1, none⟩ = some y ∧ Below B w w1 ∧ B ≤ w1.heap.size :=
  ⟨brow b h.1, (b.cell (p := ⟨n, 0, none⟩) (rowAt_lt h.1)).trans h.2.1, (b.cell (p := ⟨n, 1, none⟩) (rowAt_lt h.1)).trans h.2.2.1, bnext h.2.2.2.1 b h.2.2.2.2, Nat.le_trans h.2.2.2.2 b.size⟩
theorem maSet {B : Nat} {w W : World} {c X : Array Value} (h : rowAt W B = some c ∧ Below B w W ∧ B ≤ W.heap.size) : rowAt (W.setRow (B + 1) X) B = some c ∧ Below B w (W.setRow (B + 1) X) ∧ B ≤ (W.setRow (B + 1) X).heap.size :=
  ⟨(rowAt_setRow_ne _ _ _ _ (by omega)).trans h.1, below_setRow h.2.1 (by omega) _, by simpa using h.2.2⟩
theorem maRow {n B : Nat} {w W : World} {c : Array Value} {x y : Value} (h : rowAt W n = some c ∧ W.cell? ⟨n, 0, none⟩ = some x ∧ W.cell? ⟨n, 1, none⟩ = some y ∧ Below B w W ∧ B ≤ W.heap.size) : rowAt W n = some c := h.1

end Go.Proofs.Ytcdobpnejbfbpab
