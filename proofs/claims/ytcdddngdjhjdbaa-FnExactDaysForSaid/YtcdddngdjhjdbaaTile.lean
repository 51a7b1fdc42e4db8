/- Contracts on the tile that covers a cell, and on how many cells there are. -/
import Derived.Test.YtcdddngdjhjdbaaCourse
namespace Go.Proofs.Ytcdddngdjhjdbaa
open Go.RowKit

theorem l01Cells_any (n : Nat) (c : Array Value) (r : Rf) (w : World) (hr : rowAt w n = some c) (hR : IsRoof c r) :
    Calls Try.prog 83 #[.pointer (some ⟨n, 0, none⟩)] w fun e w' => e = .returned (.int .i64 (2 * r.w + 1)) ∧ w = w' := by
  have hcell := cell_of_rowAt hr
  obtain ⟨hc, k0, k1, k2, w0, w1, h0, h1, s0, s1⟩ := hR.view
  clear hR hr k1 k2
  go_enter Try.func83, Try.ntmps83
  go_wp2_with fail
  go_ret
  exact ⟨rfl, rfl⟩

/-- The tile that covers a cell, or -1. -/
def Rf.tile (r : Rf) (k cell : Int) : Int := if cell - r.by k < 0 ∨ r.w ≤ (cell - r.by k) / 2 then -1 else (cell - r.by k) / 2

set_option maxHeartbeats 400000 in
theorem l01Tile_any (n : Nat) (c : Array Value) (r : Rf) (k cell : Int) (w : World) (hr : rowAt w n = some c) (hR : IsRoof c r) (hk : 0 ≤ k ∧ k ≤ 1000) (hx : 0 ≤ cell ∧ cell ≤ 1000) (_hw : 1 ≤ r.w ∧ r.w ≤ 8) :
    Calls Try.prog 144 #[.pointer (some ⟨n, 0, none⟩), .int .i64 k, .int .i64 cell] w fun e w' => e = .returned (.int .i64 (r.tile k cell)) ∧ w = w' := by
  have hcell := cell_of_rowAt hr
  obtain ⟨hc, k0, k1, k2, w0, w1, h0, h1, s0, s1⟩ := hR.view
  clear k1 k2
  obtain ⟨y0, y1⟩ := r.by_bd k
  by_cases x0 : cell - r.by k < 0
  · have hV : r.tile k cell = -1 := by unfold Rf.tile; rw [if_pos (.inl x0)]
    rw [hV]
    clear hV
    go_enter Try.func144, Try.ntmps144
    go_wp2_with fail
    refine (l01By_any n c r k _ hr hR hk).mono ?_
    rintro e w2 ⟨rfl, rfl⟩
    go_wp2_with fail
    go_ret
    exact ⟨rfl, rfl⟩
  · have x0' : 0 ≤ cell - r.by k := by omega
    by_cases x1 : r.w ≤ (cell - r.by k) / 2
    · have hV : r.tile k cell = -1 := by unfold Rf.tile; rw [if_pos (.inr x1)]
      rw [hV]
      clear hV
      go_enter Try.func144, Try.ntmps144
      go_wp2_with fail
      refine (l01By_any n c r k _ hr hR hk).mono ?_
      rintro e w2 ⟨rfl, rfl⟩
      go_wp2_with fail
      go_ret
      exact ⟨rfl, rfl⟩
    · have hV : r.tile k cell = (cell - r.by k) / 2 := by unfold Rf.tile; rw [if_neg (by omega)]
      rw [hV]
      clear hV
      go_enter Try.func144, Try.ntmps144
      go_wp2_with fail
      refine (l01By_any n c r k _ hr hR hk).mono ?_
      rintro e w2 ⟨rfl, rfl⟩
      go_wp2_with fail
      go_ret
      exact ⟨rfl, rfl⟩

theorem across_any (c : Array Value) (r : Rf) (w : World) (hR : IsRoof c r) :
    Calls Try.prog 140 #[.agg c] w fun e w' => e = .returned (.int .i64 (2 * r.w + 1)) ∧ Below w.heap.size w w' := by
  obtain ⟨hc, k0, k1, k2, w0, wl, h0, h1, s0, s1⟩ := hR.view
  clear hR k1 k2
  go_enter Try.func140, Try.ntmps140
  go_wp2_with fail
  go_ret
  exact ⟨rfl, (Below.refl _ _).alloc (Nat.le_refl _) _⟩

set_option maxHeartbeats 400000 in
theorem tileAt_any (c : Array Value) (r : Rf) (k cell : Int) (w : World) (hR : IsRoof c r) (hk : 0 ≤ k ∧ k ≤ 1000) (hx : 0 ≤ cell ∧ cell ≤ 2 * r.w) (_hw : 1 ≤ r.w ∧ r.w ≤ 8) :
    Calls Try.prog 148 #[.agg c, .int .i64 k, .int .i64 cell] w fun e w' => e = .returned (.int .i64 (r.tile k cell)) ∧ Below w.heap.size w w' := by
  obtain ⟨hc, k0, k1, k2, w0, wl, h0, h1, s0, s1⟩ := hR.view
  clear k1 k2
  obtain ⟨y0, y1⟩ := r.by_bd k
  by_cases hby : r.by k = 1
  · have hbt : (r.by k == 1) = true := by simp [hby]
    by_cases x0 : cell = 0
    · have hV : r.tile k cell = -1 := by unfold Rf.tile; rw [if_pos (by omega)]
      rw [hV]
      subst x0
      clear hV hby
      go_enter Try.func148, Try.ntmps148
      go_wp2_with fail
      refine (across_any c r _ hR).mono ?_
      rintro e w0 ⟨rfl, b0⟩
      have q0 := brow b0 (rowAt_alloc_at w c 38 _ rfl)
      have B0 : Below w.heap.size w w0 := ((Below.refl _ _).alloc (Nat.le_refl _) _).trans (b0.mono (by simp))
      clear b0
      go_wp2_with fail
      refine (shifted_any c r k _ hR hk).mono ?_
      rintro e w1 ⟨rfl, b1⟩
      rw [hbt]
      have B1 := bnext B0 b1 B0.size
      clear b1
      go_wp2_with fail
      go_ret
      exact ⟨rfl, B1⟩
    · have hV : r.tile k cell = (cell - 1) / 2 := by unfold Rf.tile; rw [if_neg (by omega), hby]
      have hxb : (cell == 0) = false := by simp [x0]
      have x1 : 1 ≤ cell := by omega
      rw [hV]
      clear hV hby
      go_enter Try.func148, Try.ntmps148
      go_wp2_with fail
      refine (across_any c r _ hR).mono ?_
      rintro e w0 ⟨rfl, b0⟩
      have q0 := brow b0 (rowAt_alloc_at w c 38 _ rfl)
      have B0 : Below w.heap.size w w0 := ((Below.refl _ _).alloc (Nat.le_refl _) _).trans (b0.mono (by simp))
      clear b0
      go_wp2_with fail
      refine (shifted_any c r k _ hR hk).mono ?_
      rintro e w1 ⟨rfl, b1⟩
      rw [hbt]
      have q1 := brow b1 q0
      have B1 := bnext B0 b1 B0.size
      clear b1
      go_wp2_with fail
      refine (shifted_any c r k _ hR hk).mono ?_
      rintro e w2 ⟨rfl, b2⟩
      rw [hbt]
      have B2 := bnext B1 b2 B1.size
      clear b2
      go_wp2_with fail
      go_ret
      exact ⟨rfl, B2⟩
  · have hb0 : r.by k = 0 := by omega
    have hbt : (r.by k == 1) = false := by simp [hb0]
    by_cases x0 : cell = 2 * r.w
    · have hV : r.tile k cell = -1 := by unfold Rf.tile; rw [if_pos (by omega)]
      have hxb : (cell == 2 * r.w) = true := by simp [x0]
      rw [hV]
      clear hV hby hb0 x0
      go_enter Try.func148, Try.ntmps148
      go_wp2_with fail
      refine (across_any c r _ hR).mono ?_
      rintro e w0 ⟨rfl, b0⟩
      have q0 := brow b0 (rowAt_alloc_at w c 38 _ rfl)
      have B0 : Below w.heap.size w w0 := ((Below.refl _ _).alloc (Nat.le_refl _) _).trans (b0.mono (by simp))
      clear b0
      go_wp2_with fail
      refine (shifted_any c r k _ hR hk).mono ?_
      rintro e w1 ⟨rfl, b1⟩
      rw [hbt]
      have B1 := bnext B0 b1 B0.size
      clear b1
      go_wp2_with fail
      go_ret
      exact ⟨rfl, B1⟩
    · have hV : r.tile k cell = cell / 2 := by unfold Rf.tile; rw [if_neg (by omega), hb0, Int.sub_zero]
      have hxb : (cell == 2 * r.w) = false := by simp [x0]
      rw [hV]
      clear hV hby hb0 x0
      go_enter Try.func148, Try.ntmps148
      go_wp2_with fail
      refine (across_any c r _ hR).mono ?_
      rintro e w0 ⟨rfl, b0⟩
      have q0 := brow b0 (rowAt_alloc_at w c 38 _ rfl)
      have B0 : Below w.heap.size w w0 := ((Below.refl _ _).alloc (Nat.le_refl _) _).trans (b0.mono (by simp))
      clear b0
      go_wp2_with fail
      refine (shifted_any c r k _ hR hk).mono ?_
      rintro e w1 ⟨rfl, b1⟩
      rw [hbt]
      have q1 := brow b1 q0
      have B1 := bnext B0 b1 B0.size
      clear b1
      go_wp2_with fail
      refine (shifted_any c r k _ hR hk).mono ?_
      rintro e w2 ⟨rfl, b2⟩
      rw [hbt]
      have B2 := bnext B1 b2 B1.size
      clear b2
      go_wp2_with fail
      go_ret
      exact ⟨rfl, B2⟩
end Go.Proofs.Ytcdddngdjhjdbaa
