/- The water that comes to each course and cell, by drips that are sound: the program. -/
import Derived.Test.YtoibolmippfcgaaDoorLookB
namespace Go.Proofs.YtoibolmippfcgaaDoor
open Go.RowKit

theorem Rf.laid_high {r : Rf} {t D : Nat → Int} {x hh : Nat} (hhe : r.h = hh) : ∀ i, i < 136 → r.laidTo t D x hh i = r.laidTo t D (x + 1) 0 i := fun i _ => by
  unfold Rf.laidTo
  by_cases h1 : i % 17 < x ∨ (i % 17 = x ∧ i / 17 < hh)
  · rw [if_pos h1, if_pos (by omega)]
  · rw [if_neg h1]
    by_cases h2 : i % 17 < x + 1 ∨ (i % 17 = x + 1 ∧ i / 17 < 0)
    · rw [if_pos h2]
      unfold Rf.seen
      rw [if_neg (by omega)]
    · rw [if_neg h2]
theorem Rf.laid_end {r : Rf} {t D : Nat → Int} {q : Nat} (hq : 2 * r.w + 1 = q) : ∀ i, i < 136 → r.laidTo t D q 0 i = r.seen t D i := fun i _ => by
  unfold Rf.laidTo
  by_cases h1 : i % 17 < q ∨ (i % 17 = q ∧ i / 17 < 0)
  · rw [if_pos h1]
  · rw [if_neg h1]
    unfold Rf.seen
    rw [if_neg (by omega)]

set_option maxRecDepth 100000 in
set_option maxHeartbeats 2000000 in
theorem comesTo_any (X c d : Array Value) (r : Rf) (t D : Nat → Int) (w : World) (hX : IsD X D) (hR : IsRoof c r) (hT : IsRain d t) (ho : r.Rains t) (hs : r.Sound t D) :
    Calls Tryd.prog 59 #[.agg X, .agg c, .agg d] w fun e w' => e = .returned (.agg (mkI .i32 136 (r.seen t D))) ∧ Below w.heap.size w w' := by
  have hxs := hX.size
  have hcs := hR.size
  have hds := hT.size
  have hw1 := ho.1.1
  have hw8 := ho.1.2.1
  have hh8 := ho.1.2.2.2.1
  obtain ⟨q, hq⟩ := Int.eq_ofNat_of_zero_le (show 0 ≤ 2 * r.w + 1 by omega)
  obtain ⟨hh, hhe⟩ := Int.eq_ofNat_of_zero_le (show 0 ≤ r.h by have := ho.1.2.2.1; omega)
  have q17 : q ≤ 17 := by omega
  have h8 : hh ≤ 8 := by omega
  have CA := fun w => across_any c r w hR
  rw [hq] at CA
  have HQ := Lib.hid hq
  have HH := Lib.hid hhe
  have HS := Lib.hid hs
  have hz : Tryd.zeroCells47 = mkI .i32 136 (fun _ => 0) := by kernel_rfl
  have HZ := Lib.hid hz
  have hkh := hR.high (by omega)
  rw [hhe] at hkh
  clear hq hhe hs hz
  go_enter Tryd.func59, Tryd.ntmps59
  go_wp2_with fail
  refine gen_callsS fun W1 hW => ?_
  have p0 : rowAt W1 w.heap.size = some X := by rw [hW]; exact (rowAt_alloc_past _ _ _ (by first | omega | (simp; done) | (simp; omega))).trans ((rowAt_alloc_past _ _ _ (by first | omega | (simp; done) | (simp; omega))).trans ((rowAt_alloc_past _ _ _ (by first | omega | (simp; done) | (simp; omega))).trans ((rowAt_alloc_past _ _ _ (by simp)).trans (rowAt_alloc_at _ _ _ _ rfl))))
  have p1 : rowAt W1 (w.heap.size + 1) = some c := by rw [hW]; exact (rowAt_alloc_past _ _ _ (by first | omega | (simp; done) | (simp; omega))).trans ((rowAt_alloc_past _ _ _ (by first | omega | (simp; done) | (simp; omega))).trans ((rowAt_alloc_past _ _ _ (by simp)).trans (rowAt_alloc_at _ _ _ _ (by simp))))
  have p2 : rowAt W1 (w.heap.size + 1 + 1) = some d := by rw [hW]; exact (rowAt_alloc_past _ _ _ (by first | omega | (simp; done) | (simp; omega))).trans ((rowAt_alloc_past _ _ _ (by simp)).trans (rowAt_alloc_at _ _ _ _ (by simp)))
  have p3 : rowAt W1 (w.heap.size + 1 + 1 + 1) = some (mkI .i32 136 fun _ => 0) := by rw [hW, ← HZ.out]; exact (rowAt_alloc_past _ _ _ (by simp)).trans (rowAt_alloc_at _ _ _ _ (by simp))
  have p4 : rowAt W1 (w.heap.size + 1 + 1 + 1 + 1) = some (mkI .i32 136 fun _ => 0) := by rw [hW, ← HZ.out]; exact rowAt_alloc_at _ _ _ _ (by simp)
  have pB : Below w.heap.size w W1 := by rw [hW]; exact (((((Below.refl _ _).alloc (Nat.le_refl _) _).alloc (by simp) _).alloc (by first | omega | (simp; done) | (simp; omega)) _).alloc (by first | omega | (simp; done) | (simp; omega)) _).alloc (by first | omega | (simp; done) | (simp; omega)) _
  clear hW
  refine (CA _).mono ?_
  rintro e W2 ⟨rfl, b2⟩
  have P0 := Lib.hid (brow b2 p0)
  have P1 := Lib.hid (brow b2 p1)
  have P2 := Lib.hid (brow b2 p2)
  have P3 := Lib.hid (brow b2 p3)
  have P4 := Lib.hid (brow b2 p4)
  have PB := Lib.hid (bnext pB b2 pB.size)
  clear b2 p0 p1 p2 p3 p4 pB
  go_wp2_with fail
  go_loopw [13] (fun i W => ∃ x : Nat, x ≤ q ∧ i = .int .i64 x ∧ rowAt W (w.heap.size + 1 + 1 + 1 + 1) = some (mkI .i32 136 (r.laidTo t D x 0)) ∧ Sole (w.heap.size + 1 + 1 + 1 + 1) W2 W) (fun i _ => q - (intOf i).toNat)
  case atStart => exact ⟨0, by omega, rfl, P4.out.trans (congrArg some (mkI_congr (r.laid_none t D))), Sole.refl _ _⟩
  case round =>
    obtain ⟨x, hx, rfl, hrow, hS⟩ := hrel
    have l4 := rowAt_lt P4.out
    by_cases hlt : x < q
    · have c2 : wr.cell? ⟨w.heap.size + 1 + 1, x, none⟩ = some (.int .i16 (t x)) := by
        rw [cell_of_rowAt ((hS.rows _ (by omega) (by omega)).trans P2.out)]
        exact hT.isK.get (by omega)
      have c1 : wr.cell? ⟨w.heap.size + 1, 1, none⟩ = some (.int .i8 hh) := by
        rw [cell_of_rowAt ((hS.rows _ (by omega) (by omega)).trans P1.out), Array.getElem?_eq_getElem (by omega), hkh]
      have tb := ho.bd x (by omega)
      have x0 : (0 : Int) ≤ x := by omega
      have x1 : (x : Int) < 17 := by omega
      have x2 : (x : Int) < q := by omega
      have HW := Lib.hid hS
      have HR0 := Lib.hid hrow
      clear hS hrow
      go_wp2_with fail
      go_loopw [9, 22] (fun wa i W => ∃ k : Nat, k ≤ hh ∧ i = .int .i8 k ∧ wa = .int .i32 (t x - colTo D x k) ∧ rowAt W (w.heap.size + 1 + 1 + 1 + 1) = some (mkI .i32 136 (r.laidTo t D x k)) ∧ Sole (w.heap.size + 1 + 1 + 1 + 1) W2 W) (fun _ i _ => hh - (intOf i).toNat)
      case atStart => exact ⟨0, by omega, rfl, by simp [colTo, sumTo], HR0.out, HW.out⟩
      case round =>
        clear c1 c2 HW HR0
        obtain ⟨k, hk, rfl, rfl, hrow, hS⟩ := hrel
        by_cases hkl : k < hh
        · have c3 : wr.cell? ⟨w.heap.size, k * 17 + x, none⟩ = some (.int .i32 (D (k * 17 + x))) := by
            rw [cell_of_rowAt ((hS.rows _ (by omega) (by omega)).trans P0.out)]
            exact hX.isK.get (by omega)
          have hin : r.inside k x := ⟨by have := HH.out; omega, by have := HQ.out; omega⟩
          have cb := Rf.col_bd (k := k) tb.1 (fun j hj => HS.out x (by omega) j (by omega))
          have cb2 := Rf.col_bd (k := k + 1) tb.1 (fun j hj => HS.out x (by omega) j (by omega))
          rw [← colTo_succ] at cb2
          have hmid := (isK_mkI .i32 136 (r.laidTo t D x k)).get (i := k * 17 + x) (by omega)
          have kc : wr.cell? ⟨w.heap.size + 1 + 1 + 1 + 1, k * 17 + x, none⟩ = some (.int .i32 (r.laidTo t D x k (k * 17 + x))) := by rw [cell_of_rowAt hrow]; exact hmid
          have kf := frozen_of_rowAt hrow
          have k0 : (0 : Int) ≤ k := by omega
          have k1 : (k : Int) < 8 := by omega
          have k2 : (k : Int) < hh := by omega
          have HI := Lib.hid hin
          have HRW := Lib.hid hrow
          have HW := Lib.hid hS
          have hne : w.heap.size ≠ w.heap.size + 1 + 1 + 1 + 1 := by omega
          clear hmid hin hrow hS
          go_wp2_with fail
          refine ⟨⟨k + 1, by omega, by go_num, by rw [Int.sub_sub, colTo_succ], ?_, HW.out.setCell _ _⟩, by simp [intOf]; omega⟩
          rw [rowAt_setCell_at _ _ _ _ (by rw [HRW.out]; rfl), HRW.out, Option.getD_some]
          have hse := Rf.seen_at (D := D) (t := t) (show x < 17 by omega) HI.out
          rw [← hse]
          exact congrArg some (((isK_mkI _ _ _).set _ _).congr (r.laid_hit (by omega))).eq
        · obtain rfl : k = hh := by omega
          go_wp2_with fail
          exact ⟨⟨x + 1, by omega, by go_num, hrow.trans (congrArg some (mkI_congr (Rf.laid_high HH.out))), hS⟩, by simp [intOf]; omega⟩
    · obtain rfl : x = q := by omega
      have S3 := (hS.rows (w.heap.size + 1 + 1 + 1) (by omega) (by omega)).trans P3.out
      have hXs : (mkI .i32 136 (r.laidTo t D x 0)).size = 136 := by simp
      have hXo := (isK_mkI .i32 136 (r.laidTo t D x 0)).ones
      have hE : mkI .i32 136 (r.laidTo t D x 0) = mkI .i32 136 (r.seen t D) := mkI_congr (Rf.laid_end HQ.out)
      obtain ⟨Y, hY⟩ : ∃ Y, Y = mkI .i32 136 (r.seen t D) := ⟨_, rfl⟩
      rw [hE, ← hY] at hXs hXo hrow
      have HY := Lib.hid hY
      have HW := Lib.hid hS
      have hne : w.heap.size + 1 + 1 + 1 ≠ w.heap.size + 1 + 1 + 1 + 1 := by omega
      clear hS hE hY
      go_wp2_with fail
      refine bodyPost_ret (v := .agg Y) (results_row1 rfl _ _ (w.heap.size + 1 + 1 + 1) Y rfl (rowAt_setRow_at _ _ _ (by rw [S3]; rfl)) Tryd.underlying47 rfl (by kernel_rfl) hXs) rfl ⟨by rw [HY.out], ?_⟩
      exact below_setRow (PB.out.trans (HW.out.below.mono (by omega))) (by omega) _
end Go.Proofs.YtoibolmippfcgaaDoor
