/- The model's l02Wet: the places of all tiles that are wet, or not. -/
import Derived.Test.YtoibolmippfcgaaPlThat
import Derived.Test.YtoibolmippfcgaaAll
import Derived.Test.YtoibolmippfcgaaRunL
namespace Go.Proofs.Ytoibolmippfcgaa
open Go.RowKit

theorem Rf.comeAll_at {r : Rf} {t : Nat → Int} {i q : Nat} (hi : (i : Int) < r.h) (hq : (q : Int) < 2 * r.w + 1) (hw : r.w ≤ 8) : r.comeAll t (i * 17 + q) = r.come (t q) q i := by
  have h1 : (i * 17 + q) % 17 = q := by omega
  have h2 : (i * 17 + q) / 17 = i := by omega
  unfold Rf.comeAll Rf.fullC
  rw [h1, h2, if_pos ⟨by omega, by omega⟩]

set_option maxRecDepth 100000 in
set_option maxHeartbeats 8000000 in
theorem l02Wet_any (n m : Nat) (c d : Array Value) (r : Rf) (t : Nat → Int) (b : Bool) (hh ww : Nat) (hhe : r.h = hh) (hwe : r.w = ww) (h8 : hh ≤ 8) (w8 : ww ≤ 8) (w : World) (hr : rowAt w n = some c) (hR : IsRoof c r) (hdd : rowAt w m = some d) (hT : IsRain d t) (ho : r.Rains t) :
    Calls Try.prog 56 #[.pointer (some ⟨n, 0, none⟩), .pointer (some ⟨m, 0, none⟩), .bool b] w (GivesP w (r.wetL t b (plUpto hh ww (hh * ww)))) := by
  have hz : Try.zeroCells103 = mkI .i32 136 (fun _ => 0) := by kernel_rfl
  have hzs : Try.zeroCells103.size = 136 := by rw [hz]; simp
  have hzo : Ones Try.zeroCells103 := by rw [hz]; exact (isK_mkI _ _ _).ones
  clear hz
  have hn := rowAt_lt hr
  obtain ⟨i0, hi0, hz0, hz1, hz2⟩ := info_parts A_infoPc
  have hsz : hh * ww ≤ 64 := Nat.mul_le_mul h8 w8
  go_enter Try.func56, Try.ntmps56
  go_wp2_with fail
  refine (l02Run_any n m c d r t _ hr hR hdd hT ho).mono ?_
  rintro e w1 ⟨v, rfl, hl, b1⟩
  have z2 : (mkI .i32 136 (r.drips t)).size = 136 := by simp
  have z3 : (mkI .i32 136 (r.comeAll t)).size = 136 := by simp
  have o2 := (isK_mkI .i32 136 (r.drips t)).ones
  have o3 := (isK_mkI .i32 136 (r.comeAll t)).ones
  have hY := isK_mkI .i32 136 (r.comeAll t)
  generalize mkI .i32 136 (r.drips t) = X at *
  generalize mkI .i32 136 (r.comeAll t) = Y at *
  have r1 := brow b1 hr
  clear hl hr hdd
  go_wp2_with fail
  refine gen_calls fun Wc hWc => ?_
  obtain ⟨wb, hwb⟩ : ∃ wb, wb = (w1.alloc (.cells X 103)).alloc (.cells Y 103) := ⟨_, rfl⟩
  rw [← hwb] at hWc
  have rn : rowAt wb n = some c := by rw [hwb]; exact (rowAt_alloc_past _ _ _ (by have := rowAt_lt r1; simp; omega)).trans ((rowAt_alloc_past _ _ _ (rowAt_lt r1)).trans r1)
  have ry : rowAt wb (w1.heap.size + 1) = some Y := by rw [hwb]; exact rowAt_alloc_at _ _ _ _ (by simp)
  have wB : Below w.heap.size w wb := by rw [hwb]; exact (b1.alloc b1.size _).alloc (by have := b1.size; simp; omega) _
  have hws : wb.heap.size = w1.heap.size + 1 + 1 := by rw [hwb]; simp
  clear hwb r1 b1
  have ow := owns_empty wb 68 2
  have hB0 : Below wb.heap.size wb (wb.alloc (.cells #[] 68)) := (Below.refl _ _).alloc (Nat.le_refl _) _
  rw [← hWc] at ow hB0
  have hcs : Wc.heap.size = wb.heap.size + 1 := by rw [hWc]; simp
  clear hWc
  have r0 := brow hB0 rn
  refine (l01All_any n c r hh ww hhe hwe h8 w8 _ r0 hR).mono ?_
  rintro e w2 ⟨va, rfl, la, b2⟩
  have ow2 := owns_below ow b2
  have B2 := bnext hB0 b2 hB0.size
  have hs2 : wb.heap.size < w2.heap.size := by have := b2.size; omega
  rw [plUpto_size (Nat.le_refl _)] at la
  replace la := la.mono (show wb.heap.size + 1 ≤ _ by omega)
  obtain ⟨aa, ca, rfl⟩ := la.shape
  have LA := Lib.hid la
  have HR := Lib.hid rn
  have HY := Lib.hid ry
  have HW := Lib.hid hws
  have HWB := Lib.hid wB
  have cs := Coll.start B2 0 0
  have HYK := Lib.hid hY
  clear b2 ow hB0 r0 la B2 rn ry wB hcs hY
  go_wp2_with fail
  go_loopw [10, 12] (fun v i W => ∃ m : Nat, m ≤ hh * ww ∧ i = .int .i64 m ∧ W.ownsRow wb.heap.size 68 2 v (r.wetL t b (plUpto hh ww m)).length (plCells (r.wetL t b (plUpto hh ww m))) ∧ Coll wb w2 W v) (fun _ i _ => hh * ww - (intOf i).toNat)
  case atStart => exact ⟨0, by omega, rfl, by rw [← hws]; exact ow2, by rw [← hws]; exact cs⟩
  case round =>
    clear ow2 cs hws
    obtain ⟨m, hm, rfl, hv, hC⟩ := hrel
    by_cases hlt : m < hh * ww
    · have hp := pl_in hlt
      have i8 : m / ww < 8 := by omega
      have j8 : m % ww < 8 := by omega
      have rW := brow hC.bel HR.out
      have yW := brow hC.bel HY.out
      obtain ⟨h0, _⟩ | ⟨g, cap, cur, e1, hg, hgr, hgs, hgf⟩ := LA.out.by_rows (fun g h1 h2 => hC.rows g (by omega) h2)
      · omega
      cases e1
      have c0 : wr.cell? ⟨g, m * 2, none⟩ = some (.int .i8 ((m / ww : Nat) : Int)) := (cell_of_rowAt hgr _).trans ((hgf _ (by omega)).trans (congrArg (fun z => some (Value.int .i8 z)) (plAt_even (Nat.le_refl _) hlt)))
      have c1 : wr.cell? ⟨g, m * 2 + 1, none⟩ = some (.int .i8 ((m % ww : Nat) : Int)) := (cell_of_rowAt hgr _).trans ((hgf _ (by omega)).trans (congrArg (fun z => some (Value.int .i8 z)) (plAt_odd (Nat.le_refl _) hlt)))
      have m0 : 0 ≤ (m : Int) := by omega
      have m1 : (m : Int) < ((hh * ww : Nat) : Int) := by omega
      have hpl := r.wetL_len (t := t) (b := b) (plUpto hh ww m)
      have hpl2 := plUpto_len hh ww m
      clear hgf hgs
      obtain ⟨N, hN⟩ : ∃ N, N = hh * ww := ⟨_, rfl⟩
      have HN := Lib.hid hN
      rw [← hN] at m1 hlt hm hsz
      generalize hi : m / ww = i at *
      generalize hj : m % ww = j at *
      have hby := r.by_bd i
      have hce := r.cell0_eq i j
      have hq1 := r.cell0_le (i := i) j8
      have g0e := Rf.comeAll_at (r := r) (t := t) (i := i) (q := r.cell0 i j) (by omega) (by omega) (by omega)
      have g1e := Rf.comeAll_at (r := r) (t := t) (i := i) (q := r.cell0 i j + 1) (by omega) (by omega) (by omega)
      have hwet : r.wetB t i j = decide (0 < r.come (t (r.cell0 i j)) (r.cell0 i j) i ∨ 0 < r.come (t (r.cell0 i j + 1)) (r.cell0 i j + 1) i) := rfl
      have y0 : Y[i * 17 + r.cell0 i j]? = some (.int .i32 (r.comeAll t (i * 17 + r.cell0 i j))) := HYK.out.get (by omega)
      have y1 : Y[i * 17 + (r.cell0 i j + 1)]? = some (.int .i32 (r.comeAll t (i * 17 + (r.cell0 i j + 1)))) := HYK.out.get (by omega)
      rw [g0e] at y0
      rw [g1e] at y1
      have CF := fun W h => l01First_any n c r i j W h hR i8 j8
      rw [hce] at CF
      generalize r.come (t (r.cell0 i j)) (r.cell0 i j) i = g0 at *
      generalize r.come (t (r.cell0 i j + 1)) (r.cell0 i j + 1) i = g1 at *
      generalize r.cell0 i j = q at *
      have HI := Lib.hid hi
      have HJ := Lib.hid hj
      have HT := Lib.hid hwet
      have CF := Lib.hid CF
      clear hi hj g0e g1e hce hwet hby
      go_wp2_with fail
      refine (CF.out _ rW).mono ?_
      rintro e w3 ⟨rfl, b3⟩
      have hv2 := owns_below hv b3
      have hC2 := hC.call b3
      have d0 : w3.cell? ⟨g, m * 2, none⟩ = some (.int .i8 (i : Int)) := (b3.cell (p := ⟨g, m * 2, none⟩) (rowAt_lt hgr)).trans c0
      have d1 : w3.cell? ⟨g, m * 2 + 1, none⟩ = some (.int .i8 (j : Int)) := (b3.cell (p := ⟨g, m * 2 + 1, none⟩) (rowAt_lt hgr)).trans c1
      have y3 := brow b3 yW
      have k4 : w3.cell? ⟨w1.heap.size + 1, i * 17 + q, none⟩ = some (.int .i32 g0) := (cell_of_rowAt y3 _).trans y0
      have k5 : w3.cell? ⟨w1.heap.size + 1, i * 17 + (q + 1), none⟩ = some (.int .i32 g1) := (cell_of_rowAt y3 _).trans y1
      have hgw2 : g < w3.heap.size := Nat.lt_of_lt_of_le (rowAt_lt hgr) b3.size
      clear hv hC b3 c0 c1 hgr rW yW y0 y1 y3
      have hsC := hC2.bel.size
      have ii0 : 0 ≤ (i : Int) := by omega
      have ii1 : (i : Int) < 8 := by omega
      have q0 : 0 ≤ (q : Int) := by omega
      have q2 : (q : Int) < 17 := by omega
      have q3 : 0 ≤ (q : Int) + 1 := by omega
      have q4 : (q : Int) + 1 < 17 := by omega
      have q5 : ((q : Int) + 1).toNat = q + 1 := by omega
      by_cases h0 : 0 < g0
      · have hd0 : decide (0 < g0) = true := by simp [h0]
        cases b with
        | true =>
          have hwv : r.wetB t i j = true := by rw [HT.out]; first | exact decide_eq_true (by omega) | exact decide_eq_false (by omega)
          have HV := Lib.hid hwv
          clear hwv
          go_wp2_with (at_builtin; refine wpList_append_own_at _ rfl _ _ 32 rfl wb.heap.size 68 i0 (.agg #[.int .i8 0, .int .i8 0]) 2 2 Try.underlying32 hi0 hz0 hz1 hz2 rfl (by decide) _ _ _ rfl (hv2.alloc _) ⟨w3.heap.size, 0, none⟩ 1 1 [.int .i8 i, .int .i8 j] rfl rfl (cell_two_new _ _ _ _) (by simp [Value.oneCell']) (by unfold maxLen; omega) (by omega) (by simp; omega) ?_; intro v' w4 own4 grow4 _ at4)
          have hC3 := hC2.append hs2 grow4 (at4.imp (fun h => h) (fun h => h.trans (by simp)))
          clear hv2 hC2 d0 d1 k4 k5 grow4 at4
          go_wp2_with fail
          refine ⟨⟨m + 1, by omega, by go_num, ?_, hC3⟩, by simp [intOf]; omega⟩
          rw [plUpto_next (by rw [← HN.out]; exact hlt), Rf.wetL_hit (by simp only [HI.out, HJ.out, HV.out]; rfl), plCells_snoc]
          simp only [HI.out, HJ.out]
          simpa using own4
        | false =>
          have hwv : r.wetB t i j = true := by rw [HT.out]; first | exact decide_eq_true (by omega) | exact decide_eq_false (by omega)
          have HV := Lib.hid hwv
          clear hwv
          go_wp2_with fail
          refine ⟨⟨m + 1, by omega, by go_num, ?_, hC2⟩, by simp [intOf]; omega⟩
          rw [plUpto_next (by rw [← HN.out]; exact hlt), Rf.wetL_miss (by simp only [HI.out, HJ.out, HV.out]; rfl)]
          exact hv2
      · have hd0 : decide (0 < g0) = false := by simpa using h0
        by_cases h1 : 0 < g1
        · have hd1 : decide (0 < g1) = true := by simp [h1]
          cases b with
          | true =>
            have hwv : r.wetB t i j = true := by rw [HT.out]; first | exact decide_eq_true (by omega) | exact decide_eq_false (by omega)
            have HV := Lib.hid hwv
            clear hwv
            go_wp2_with (at_builtin; refine wpList_append_own_at _ rfl _ _ 32 rfl wb.heap.size 68 i0 (.agg #[.int .i8 0, .int .i8 0]) 2 2 Try.underlying32 hi0 hz0 hz1 hz2 rfl (by decide) _ _ _ rfl (hv2.alloc _) ⟨w3.heap.size, 0, none⟩ 1 1 [.int .i8 i, .int .i8 j] rfl rfl (cell_two_new _ _ _ _) (by simp [Value.oneCell']) (by unfold maxLen; omega) (by omega) (by simp; omega) ?_; intro v' w4 own4 grow4 _ at4)
            have hC3 := hC2.append hs2 grow4 (at4.imp (fun h => h) (fun h => h.trans (by simp)))
            clear hv2 hC2 d0 d1 k4 k5 grow4 at4
            go_wp2_with fail
            refine ⟨⟨m + 1, by omega, by go_num, ?_, hC3⟩, by simp [intOf]; omega⟩
            rw [plUpto_next (by rw [← HN.out]; exact hlt), Rf.wetL_hit (by simp only [HI.out, HJ.out, HV.out]; rfl), plCells_snoc]
            simp only [HI.out, HJ.out]
            simpa using own4
          | false =>
            have hwv : r.wetB t i j = true := by rw [HT.out]; first | exact decide_eq_true (by omega) | exact decide_eq_false (by omega)
            have HV := Lib.hid hwv
            clear hwv
            go_wp2_with fail
            refine ⟨⟨m + 1, by omega, by go_num, ?_, hC2⟩, by simp [intOf]; omega⟩
            rw [plUpto_next (by rw [← HN.out]; exact hlt), Rf.wetL_miss (by simp only [HI.out, HJ.out, HV.out]; rfl)]
            exact hv2
        · have hd1 : decide (0 < g1) = false := by simpa using h1
          cases b with
          | true =>
            have hwv : r.wetB t i j = false := by rw [HT.out]; first | exact decide_eq_true (by omega) | exact decide_eq_false (by omega)
            have HV := Lib.hid hwv
            clear hwv
            go_wp2_with fail
            refine ⟨⟨m + 1, by omega, by go_num, ?_, hC2⟩, by simp [intOf]; omega⟩
            rw [plUpto_next (by rw [← HN.out]; exact hlt), Rf.wetL_miss (by simp only [HI.out, HJ.out, HV.out]; rfl)]
            exact hv2
          | false =>
            have hwv : r.wetB t i j = false := by rw [HT.out]; first | exact decide_eq_true (by omega) | exact decide_eq_false (by omega)
            have HV := Lib.hid hwv
            clear hwv
            go_wp2_with (at_builtin; refine wpList_append_own_at _ rfl _ _ 32 rfl wb.heap.size 68 i0 (.agg #[.int .i8 0, .int .i8 0]) 2 2 Try.underlying32 hi0 hz0 hz1 hz2 rfl (by decide) _ _ _ rfl (hv2.alloc _) ⟨w3.heap.size, 0, none⟩ 1 1 [.int .i8 i, .int .i8 j] rfl rfl (cell_two_new _ _ _ _) (by simp [Value.oneCell']) (by unfold maxLen; omega) (by omega) (by simp; omega) ?_; intro v' w4 own4 grow4 _ at4)
            have hC3 := hC2.append hs2 grow4 (at4.imp (fun h => h) (fun h => h.trans (by simp)))
            clear hv2 hC2 d0 d1 k4 k5 grow4 at4
            go_wp2_with fail
            refine ⟨⟨m + 1, by omega, by go_num, ?_, hC3⟩, by simp [intOf]; omega⟩
            rw [plUpto_next (by rw [← HN.out]; exact hlt), Rf.wetL_hit (by simp only [HI.out, HJ.out, HV.out]; rfl), plCells_snoc]
            simp only [HI.out, HJ.out]
            simpa using own4
    · obtain rfl : m = hh * ww := by omega
      go_wp2_with fail
      go_ret
      exact ⟨_, rfl, (IsList.of_pls hv).mono HWB.out.size, HWB.out.trans (hC.bel.mono HWB.out.size)⟩
end Go.Proofs.Ytoibolmippfcgaa
