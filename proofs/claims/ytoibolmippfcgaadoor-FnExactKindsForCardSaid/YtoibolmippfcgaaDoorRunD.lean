/- What drips in a cell of a course: contracts of both sides' small functions. -/
import Derived.Test.YtoibolmippfcgaaDoorRunM
namespace Go.Proofs.YtoibolmippfcgaaDoor
open Go.RowKit

theorem drip1_1 (a x : Int) : drip1 1 a x = (x + 1) / 2 := rfl
theorem drip1_2 (a x : Int) : drip1 2 a x = (x + 2) / 3 := rfl
theorem drip1_3t (x : Int) : drip1 3 2 x = 0 := rfl
theorem drip1_3f {a x : Int} (h : a ≠ 2) : drip1 3 a x = x := by simp [drip1, h]
theorem drip1_0 (a x : Int) : drip1 0 a x = 0 := rfl

set_option maxRecDepth 100000 in
set_option maxHeartbeats 1000000 in
theorem l02Drip_any (n : Nat) (c : Array Value) (r : Rf) (k cell : Nat) (x : Int) (w : World) (hr : rowAt w n = some c) (hR : IsRoof c r) (ho : r.Ok) (hk : k < 8) (hx : cell ≤ 17) (x0 : 0 ≤ x) (x1 : x ≤ 1000) :
    Calls Tryd.prog 80 #[.pointer (some ⟨n, 0, none⟩), .int .i64 k, .int .i64 cell, .int .i64 x] w fun e w' => e = .returned (.int .i64 (drip1 (r.over k cell) (r.abv cell k) x)) ∧ w = w' := by
  have hb := Rf.over_bd cell hR ho hk
  have C0 := l02Over_any n c r k cell w hr hR ho hk hx
  obtain ⟨q, hq⟩ : ∃ q, q = r.over k cell := ⟨_, rfl⟩
  rw [← hq] at hb C0 ⊢
  have hcase : q = 0 ∨ q = 1 ∨ q = 2 ∨ q = 3 := by omega
  have HQ := Lib.hid hq
  clear hq hb
  rcases hcase with rfl | rfl | rfl | rfl
  · rw [drip1_0]
    go_enter Tryd.func80, Tryd.ntmps80
    go_wp2_with fail
    refine C0.mono ?_
    rintro e w1 ⟨rfl, rfl⟩
    clear C0
    go_wp2_with fail
    go_ret
    exact ⟨rfl, rfl⟩
  · rw [drip1_1]
    go_enter Tryd.func80, Tryd.ntmps80
    go_wp2_with fail
    refine C0.mono ?_
    rintro e w1 ⟨rfl, rfl⟩
    clear C0
    go_wp2_with fail
    go_ret
    exact ⟨rfl, rfl⟩
  · rw [drip1_2]
    go_enter Tryd.func80, Tryd.ntmps80
    go_wp2_with fail
    refine C0.mono ?_
    rintro e w1 ⟨rfl, rfl⟩
    clear C0
    go_wp2_with fail
    go_ret
    exact ⟨rfl, rfl⟩
  · cases k with
    | zero =>
      rw [show r.abv cell 0 = 0 from rfl, drip1_3f (by omega)]
      go_enter Tryd.func80, Tryd.ntmps80
      go_wp2_with fail
      refine C0.mono ?_
      rintro e w1 ⟨rfl, rfl⟩
      clear C0
      go_wp2_with fail
      go_ret
      exact ⟨rfl, rfl⟩
    | succ k =>
      have C1 := l02Over_any n c r k cell w hr hR ho (by omega) hx
      have k0 : (0 : Int) ≤ k := by omega
      have k8 : (k : Int) < 8 := by omega
      have e1 : ((k + 1 : Nat) : Int) = (k : Int) + 1 := by omega
      rw [show r.abv cell (k + 1) = r.over k cell from rfl]
      obtain ⟨q, hq⟩ : ∃ q, q = r.over k cell := ⟨_, rfl⟩
      rw [← hq] at C1 ⊢
      rw [e1] at C0 ⊢
      clear e1
      have HP := Lib.hid hq
      clear hq
      by_cases h2 : q = 2
      · subst h2
        rw [drip1_3t]
        go_enter Tryd.func80, Tryd.ntmps80
        go_wp2_with fail
        refine C0.mono ?_
        rintro e w1 ⟨rfl, rfl⟩
        clear C0
        go_wp2_with fail
        refine C1.mono ?_
        rintro e w1 ⟨rfl, rfl⟩
        clear C1
        go_wp2_with fail
        go_ret
        exact ⟨rfl, rfl⟩
      · rw [drip1_3f h2]
        have h2b : (q == 2) = false := by simp [h2]
        go_enter Tryd.func80, Tryd.ntmps80
        go_wp2_with fail
        refine C0.mono ?_
        rintro e w1 ⟨rfl, rfl⟩
        clear C0
        go_wp2_with fail
        refine C1.mono ?_
        rintro e w1 ⟨rfl, rfl⟩
        clear C1
        go_wp2_with fail
        go_ret
        exact ⟨rfl, rfl⟩

set_option maxRecDepth 100000 in
set_option maxHeartbeats 400000 in
theorem kindOver_any (c : Array Value) (r : Rf) (k cell : Nat) (w : World) (hR : IsRoof c r) (ho : r.Ok) (hk : k < 8) (hx : (cell : Int) ≤ 2 * r.w) :
    Calls Tryd.prog 88 #[.agg c, .int .i64 k, .int .i64 cell] w fun e w' => e = .returned (.int .i64 (r.over k cell)) ∧ Below w.heap.size w w' := by
  have hb := Rf.tile_bd (r := r) (k := k) (cell := cell) ho.2.1
  have hc := hR.size
  have k0 : (0 : Int) ≤ k := by omega
  have k8 : (k : Int) < 8 := by omega
  by_cases h : r.tile k cell < 0
  · rw [Rf.over_neg h]
    have hlt : decide (r.tile k cell < 0) = true := by simp [h]
    go_enter Tryd.func88, Tryd.ntmps88
    go_wp2_with fail
    refine (tileAt_any c r k cell _ hR (by omega) (by omega) ⟨ho.1, ho.2.1⟩).mono ?_
    rintro e w1 ⟨rfl, b1⟩
    have B1 : Below w.heap.size w w1 := ((Below.refl _ _).alloc (Nat.le_refl _) _).trans (b1.mono (by simp))
    clear b1
    go_wp2_with fail
    go_ret
    exact ⟨rfl, B1⟩
  · obtain ⟨m, hm⟩ := Int.eq_ofNat_of_zero_le (show 0 ≤ r.tile k cell by omega)
    rw [Rf.over_pos hm]
    have hi : 3 + k * 8 + m < c.size := by omega
    have hcm : c[3 + k * 8 + m]? = some (.int .u8 (r.t (k * 8 + m))) := by
      rw [Array.getElem?_eq_getElem hi, hR.tile _ hi (by omega), show 3 + k * 8 + m - 3 = k * 8 + m from by omega]
    have b0 := hR.tiles.lo (k * 8 + m) (by omega)
    have b1 := hR.tiles.hi (k * 8 + m) (by omega)
    have m8 : (m : Int) < 8 := by omega
    have hlt : decide ((m : Int) < 0) = false := by simp
    have HM := Lib.hid hm
    have HC := Lib.hid hcm
    clear hm hb h hcm
    go_enter Tryd.func88, Tryd.ntmps88
    go_wp2_with fail
    refine (tileAt_any c r k cell _ hR (by omega) (by omega) ⟨ho.1, ho.2.1⟩).mono ?_
    rw [HM.out]
    rintro e w1 ⟨rfl, b1⟩
    have q1 := brow b1 (rowAt_alloc_at w c 33 _ rfl)
    have B1 : Below w.heap.size w w1 := ((Below.refl _ _).alloc (Nat.le_refl _) _).trans (b1.mono (by simp))
    clear b1
    have hcm : w1.cell? ⟨w.heap.size, 3 + k * 8 + m, none⟩ = some (.int .u8 (r.t (k * 8 + m))) := (cell_of_rowAt q1 _).trans HC.out
    clear q1
    go_wp2_with fail
    go_ret
    exact ⟨rfl, B1⟩

theorem dividedUp_any (x : Int) (k : Int) (w : World) (x0 : 0 ≤ x) (x1 : x ≤ 10000000) (k0 : 1 ≤ k) (k1 : k ≤ 10000000) :
    Calls Tryd.prog 86 #[.int .i64 x, .int .i64 k] w fun e w' => e = .returned (.int .i64 ((x + k - 1) / k)) ∧ w = w' := by
  go_enter Tryd.func86, Tryd.ntmps86
  go_wp2_with fail
  go_ret
  exact ⟨rfl, rfl⟩
end Go.Proofs.YtoibolmippfcgaaDoor
