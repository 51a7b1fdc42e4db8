/- Rain that runs down, as plain mathematics; the model's small functions on it. -/
import Derived.Test.YtoibolmippfcgaaDoorRainS
namespace Go.Proofs.YtoibolmippfcgaaDoor
open Go.RowKit

/-- The kind of the tile that covers a cell of a course; half tiles are whole. -/
def Rf.over (r : Rf) (k cell : Nat) : Int := if r.tile k cell < 0 then 0 else r.t (k * 8 + (r.tile k cell).toNat)
/-- What drips of some water. -/
def drip1 (kind above water : Int) : Int := if kind = 1 then (water + 1) / 2 else if kind = 2 then (water + 2) / 3 else if kind = 3 then (if above = 2 then 0 else water) else 0
def Rf.abv (r : Rf) (cell : Nat) : Nat → Int
  | 0 => 0
  | k + 1 => r.over k cell
/-- The water that comes to a course. -/
def Rf.come (r : Rf) (x : Int) (cell : Nat) : Nat → Int
  | 0 => x
  | k + 1 => r.come x cell k - drip1 (r.over k cell) (r.abv cell k) (r.come x cell k)
def Rf.dripAt (r : Rf) (x : Int) (cell k : Nat) : Int := drip1 (r.over k cell) (r.abv cell k) (r.come x cell k)
theorem Rf.come_succ (r : Rf) (x : Int) (cell k : Nat) : r.come x cell k - r.dripAt x cell k = r.come x cell (k + 1) := rfl
theorem drip1_bd {kind above water : Int} (h : 0 ≤ water) : 0 ≤ drip1 kind above water ∧ drip1 kind above water ≤ water := by
  unfold drip1
  split
  · omega
  · split
    · omega
    · split
      · split <;> omega
      · omega
theorem Rf.come_bd (r : Rf) {x : Int} (cell : Nat) (h : 0 ≤ x) : ∀ k, 0 ≤ r.come x cell k ∧ r.come x cell k ≤ x
  | 0 => ⟨h, Int.le_refl _⟩
  | k + 1 => by
    have h1 := r.come_bd cell h k
    have h2 := drip1_bd (kind := r.over k cell) (above := r.abv cell k) h1.1
    show 0 ≤ r.come x cell k - drip1 _ _ _ ∧ r.come x cell k - drip1 _ _ _ ≤ x
    omega
theorem Rf.dripAt_bd (r : Rf) {x : Int} (cell k : Nat) (h : 0 ≤ x) : 0 ≤ r.dripAt x cell k ∧ r.dripAt x cell k ≤ r.come x cell k :=
  drip1_bd (r.come_bd cell h k).1

theorem Rf.tile_bd {r : Rf} {k cell : Int} (hw : r.w ≤ 8) : -1 ≤ r.tile k cell ∧ r.tile k cell < 8 := by
  unfold Rf.tile
  split <;> omega
theorem Rf.over_neg {r : Rf} {k cell : Nat} (h : r.tile k cell < 0) : r.over k cell = 0 := if_pos h
theorem Rf.over_pos {r : Rf} {k cell : Nat} {m : Nat} (h : r.tile k cell = m) : r.over k cell = r.t (k * 8 + m) := by
  unfold Rf.over; rw [if_neg (by omega), h]; rfl
theorem Rf.over_bd {c : Array Value} {r : Rf} {k : Nat} (cell : Nat) (hR : IsRoof c r) (ho : r.Ok) (hk : k < 8) : 0 ≤ r.over k cell ∧ r.over k cell ≤ 3 := by
  have hb := Rf.tile_bd (r := r) (k := k) (cell := cell) ho.2.1
  by_cases h : r.tile k cell < 0
  · rw [Rf.over_neg h]; omega
  · obtain ⟨m, hm⟩ := Int.eq_ofNat_of_zero_le (show 0 ≤ r.tile k cell by omega)
    rw [Rf.over_pos hm]
    have hi : k * 8 + m < 64 := by omega
    exact ⟨hR.tiles.lo _ hi, (ho.2.2.2.2.2 _ hi).1⟩

set_option maxRecDepth 100000 in
set_option maxHeartbeats 400000 in
theorem l02Over_any (n : Nat) (c : Array Value) (r : Rf) (k cell : Nat) (w : World) (hr : rowAt w n = some c) (hR : IsRoof c r) (ho : r.Ok) (hk : k < 8) (hx : cell ≤ 17) :
    Calls Tryd.prog 99 #[.pointer (some ⟨n, 0, none⟩), .int .i64 k, .int .i64 cell] w fun e w' => e = .returned (.int .i64 (r.over k cell)) ∧ w = w' := by
  have hcell := Lib.hid (cell_of_rowAt hr)
  have hb := Rf.tile_bd (r := r) (k := k) (cell := cell) ho.2.1
  have hc := hR.size
  have k0 : (0 : Int) ≤ k := by omega
  have k8 : (k : Int) < 8 := by omega
  by_cases h : r.tile k cell < 0
  · rw [Rf.over_neg h]
    have hlt : decide (r.tile k cell < 0) = true := by simp [h]
    go_enter Tryd.func99, Tryd.ntmps99
    go_wp2_with fail
    refine (l01Tile_any n c r k cell _ hr hR (by omega) (by omega) ⟨ho.1, ho.2.1⟩).mono ?_
    rintro e w1 ⟨rfl, rfl⟩
    go_wp2_with fail
    go_ret
    exact ⟨rfl, rfl⟩
  · obtain ⟨m, hm⟩ := Int.eq_ofNat_of_zero_le (show 0 ≤ r.tile k cell by omega)
    rw [Rf.over_pos hm]
    have hi : 3 + k * 8 + m < c.size := by omega
    have hcm : w.cell? ⟨n, 3 + k * 8 + m, none⟩ = some (.int .u8 (r.t (k * 8 + m))) := by
      rw [hcell.out, Array.getElem?_eq_getElem hi, hR.tile _ hi (by omega), show 3 + k * 8 + m - 3 = k * 8 + m from by omega]
    have b0 := hR.tiles.lo (k * 8 + m) (by omega)
    have b1 := hR.tiles.hi (k * 8 + m) (by omega)
    have m8 : (m : Int) < 8 := by omega
    have hlt : decide ((m : Int) < 0) = false := by simp
    have HM := Lib.hid hm
    clear hm hb h
    go_enter Tryd.func99, Tryd.ntmps99
    go_wp2_with fail
    refine (l01Tile_any n c r k cell _ hr hR (by omega) (by omega) ⟨ho.1, ho.2.1⟩).mono ?_
    rw [HM.out]
    rintro e w1 ⟨rfl, rfl⟩
    go_wp2_with fail
    go_ret
    exact ⟨rfl, rfl⟩
end Go.Proofs.YtoibolmippfcgaaDoor
