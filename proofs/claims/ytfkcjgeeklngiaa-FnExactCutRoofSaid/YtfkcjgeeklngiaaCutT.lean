/- CutRoof: both contracts. -/
import Derived.Test.YtfkcjgeeklngiaaCutS
namespace Go.Proofs.Ytfkcjgeeklngiaa
open Go.RowKit

noncomputable def Rf.cuC (r : Rf) (a n : Int) : Int := if r.told (inB a 0 (r.h - 1)) = 0 then if inB n 1 (r.h - a) = true then 0 else 2 else r.told (inB a 0 (r.h - 1))
noncomputable def Rf.cuX (r : Rf) (c : Array Value) (a n : Int) : Array Value := if r.cuC a n = 0 then cutA c r a.toNat n.toNat n else Try.zeroCells33
theorem inB_iff {x lo hi : Int} (h : inB x lo hi = true) : lo ≤ x ∧ x ≤ hi := by simpa [inB] using h
theorem Rf.cu_yes {r : Rf} {a n : Int} (h : r.cuC a n = 0) : r.Ok ∧ 0 ≤ a ∧ a < r.h ∧ 1 ≤ n ∧ a + n ≤ r.h := by
  unfold Rf.cuC at h
  by_cases h1 : r.told (inB a 0 (r.h - 1)) = 0
  · rw [if_pos h1] at h
    obtain ⟨ho, hb⟩ := Rf.told_zero h1
    by_cases h2 : inB n 1 (r.h - a) = true
    · have x1 := inB_iff hb
      have x2 := inB_iff h2
      exact ⟨ho, by omega, by omega, by omega, by omega⟩
    · rw [if_neg h2] at h; exact absurd h (by decide)
  · rw [if_neg h1] at h; exact absurd h h1
theorem cuX_is {c : Array Value} {r : Rf} (hR : IsRoof c r) (a n : Int) : ∃ q, IsRoof (r.cuX c a n) q := by
  unfold Rf.cuX
  by_cases h : r.cuC a n = 0
  · rw [if_pos h]
    obtain ⟨ho, x1, x2, x3, x4⟩ := Rf.cu_yes h
    have := ho.2.2.2.1
    exact ⟨_, cutA_is hR (by omega) (by omega) (by omega)⟩
  · rw [if_neg h]; exact ⟨_, zroof_is⟩

set_option maxRecDepth 100000 in
set_option maxHeartbeats 4000000 in
theorem specCutRoof_any (c : Array Value) (r : Rf) (a n : Int) (w : World) (hR : IsRoof c r) :
    Calls Try.prog 49 #[.agg c, .int .i64 a, .int .i64 n] w fun e w' => e = .returned (.tuple #[.agg (r.cuX c a n), .int .i64 (r.cuC a n)]) ∧ Below w.heap.size w w' := by
  by_cases hz : r.cuC a n = 0
  · obtain ⟨ho, x1, x2, x3, x4⟩ := Rf.cu_yes hz
    have eX : r.cuX c a n = cutA c r a.toNat n.toNat n := if_pos hz
    obtain ⟨A, rfl⟩ := Int.eq_ofNat_of_zero_le x1
    obtain ⟨N, rfl⟩ := Int.eq_ofNat_of_zero_le (show 0 ≤ n by omega)
    rw [hz, eX]
    exact specCut_go c _ r A N w hR ho x2 (by omega) x4 rfl
  · have eX : r.cuX c a n = Try.zeroCells33 := if_neg hz
    rw [eX]
    have hc := hR.size
    have hzs := zroof_size
    have hzo := zroof_ones
    have p0 : rowAt ((w.alloc (.cells c 33)).alloc (.cells Try.zeroCells33 33)) w.heap.size = some c := (rowAt_alloc_past _ _ _ (by simp)).trans (rowAt_alloc_at _ _ _ _ rfl)
    have p1 : rowAt ((w.alloc (.cells c 33)).alloc (.cells Try.zeroCells33 33)) (w.heap.size + 1) = some Try.zeroCells33 := rowAt_alloc_at _ _ _ _ (by simp)
    have pB : Below w.heap.size w ((w.alloc (.cells c 33)).alloc (.cells Try.zeroCells33 33)) := ((Below.refl _ _).alloc (Nat.le_refl _) _).alloc (by simp) _
    by_cases ht : r.told (inB a 0 (r.h - 1)) = 0
    · obtain ⟨ho, hb⟩ := Rf.told_zero ht
      have hb2 := inB_iff hb
      have h8 := ho.2.2.2.1
      have hnb : inB n 1 (r.h - a) = false := by
        cases h2 : inB n 1 (r.h - a) with
        | false => rfl
        | true => exact absurd (show r.cuC a n = 0 by unfold Rf.cuC; rw [if_pos ht, if_pos h2]) hz
      have eC : r.cuC a n = 2 := by unfold Rf.cuC; rw [if_pos ht, hnb]; rfl
      rw [eC]
      have k1 := hR.high (by omega)
      have e1 : IntKind.i64.wrap r.h = r.h := IntWalk.i64_in _ (by omega)
      have e2 : IntKind.i64.wrap (r.h - a) = r.h - a := IntWalk.i64_in _ (by omega)
      have hnf : (!inB n 1 (r.h - a)) = true := by simp [hnb]
      clear hb
      go_enter Try.func49, Try.ntmps49
      go_wp2_with fail
      refine (l01Course_any w.heap.size c r a _ p0 hR).mono ?_
      rintro e w0 ⟨rfl, rfl⟩
      go_wp2_with fail
      refine (l01Told_any w.heap.size c r _ _ p0 hR).mono ?_
      rw [ht]
      rintro e w1 ⟨rfl, b1⟩
      have q0 := brow b1 p0
      have q1 := brow b1 p1
      have B1 := bnext pB b1 pB.size
      clear b1 p0 p1 pB
      have c1 : w1.cell? ⟨w.heap.size, 1, none⟩ = some (.int .i8 r.h) := by rw [← k1]; exact (cell_of_rowAt q0 1).trans (Array.getElem?_eq_getElem (by omega))
      go_wp2_with fail
      refine (l00In_q n 1 (r.h - a) _).mono ?_
      rw [hnb]
      rintro e w2 ⟨rfl, rfl⟩
      go_wp2_with fail
      refine bodyPost_ret (v := .tuple #[.agg Try.zeroCells33, .int .i64 2]) (results_row2 (m := 67) rfl _ _ (w.heap.size + 1) _ _ rfl rfl (rowAt_setRow_at _ _ _ (Option.isSome_iff_exists.2 ⟨_, q1⟩)) Try.underlying33 rfl (by kernel_rfl) hzs) rfl ⟨rfl, ?_⟩
      exact below_setRow B1 (by omega) _
    · have eC : r.cuC a n = r.told (inB a 0 (r.h - 1)) := if_neg ht
      rw [eC]
      have ht0 : (r.told (inB a 0 (r.h - 1)) != 0) = true := by simp [ht]
      clear ht
      go_enter Try.func49, Try.ntmps49
      go_wp2_with fail
      refine (l01Course_any w.heap.size c r a _ p0 hR).mono ?_
      rintro e w0 ⟨rfl, rfl⟩
      go_wp2_with fail
      refine (l01Told_any w.heap.size c r _ _ p0 hR).mono ?_
      rintro e w1 ⟨rfl, b1⟩
      have q0 := brow b1 p0
      have q1 := brow b1 p1
      have B1 := bnext pB b1 pB.size
      clear b1 p0 p1 pB
      go_wp2_with fail
      refine bodyPost_ret (v := .tuple #[.agg Try.zeroCells33, .int .i64 (r.told (inB a 0 (r.h - 1)))]) (results_row2 (m := 67) rfl _ _ (w.heap.size + 1) _ _ rfl rfl (rowAt_setRow_at _ _ _ (Option.isSome_iff_exists.2 ⟨_, q1⟩)) Try.underlying33 rfl (by kernel_rfl) hzs) rfl ⟨rfl, ?_⟩
      exact below_setRow B1 (by omega) _

set_option maxRecDepth 100000 in
set_option maxHeartbeats 4000000 in
theorem implCutRoof_any (c : Array Value) (r : Rf) (a n : Int) (w : World) (hR : IsRoof c r) :
    Calls Try.prog 50 #[.agg c, .int .i64 a, .int .i64 n] w fun e w' => e = .returned (.tuple #[.agg (r.cuX c a n), .int .i64 (r.cuC a n)]) ∧ Below w.heap.size w w' := by
  by_cases hz : r.cuC a n = 0
  · obtain ⟨ho, x1, x2, x3, x4⟩ := Rf.cu_yes hz
    have eX : r.cuX c a n = cutA c r a.toNat n.toNat n := if_pos hz
    obtain ⟨A, rfl⟩ := Int.eq_ofNat_of_zero_le x1
    obtain ⟨N, rfl⟩ := Int.eq_ofNat_of_zero_le (show 0 ≤ n by omega)
    rw [hz, eX]
    exact implCut_go c _ r A N w hR ho x2 (by omega) x4 rfl
  · have eX : r.cuX c a n = Try.zeroCells33 := if_neg hz
    rw [eX]
    have hc := hR.size
    have hzs := zroof_size
    have hzo := zroof_ones
    have p0 : rowAt ((w.alloc (.cells c 33)).alloc (.cells Try.zeroCells33 33)) w.heap.size = some c := (rowAt_alloc_past _ _ _ (by simp)).trans (rowAt_alloc_at _ _ _ _ rfl)
    have p1 : rowAt ((w.alloc (.cells c 33)).alloc (.cells Try.zeroCells33 33)) (w.heap.size + 1) = some Try.zeroCells33 := rowAt_alloc_at _ _ _ _ (by simp)
    have pB : Below w.heap.size w ((w.alloc (.cells c 33)).alloc (.cells Try.zeroCells33 33)) := ((Below.refl _ _).alloc (Nat.le_refl _) _).alloc (by simp) _
    by_cases ht : r.told (inB a 0 (r.h - 1)) = 0
    · obtain ⟨ho, hb⟩ := Rf.told_zero ht
      have hb2 := inB_iff hb
      have h8 := ho.2.2.2.1
      have hnb : inB n 1 (r.h - a) = false := by
        cases h2 : inB n 1 (r.h - a) with
        | false => rfl
        | true => exact absurd (show r.cuC a n = 0 by unfold Rf.cuC; rw [if_pos ht, if_pos h2]) hz
      have eC : r.cuC a n = 2 := by unfold Rf.cuC; rw [if_pos ht, hnb]; rfl
      rw [eC]
      have k1 := hR.high (by omega)
      have e1 : IntKind.i64.wrap r.h = r.h := IntWalk.i64_in _ (by omega)
      have e2 : IntKind.i64.wrap (r.h - a) = r.h - a := IntWalk.i64_in _ (by omega)
      have hd : (n < 1) ∨ (¬ n < 1 ∧ r.h - a < n) := by
        by_cases h1 : n < 1
        · exact .inl h1
        · refine .inr ⟨h1, ?_⟩
          by_cases h2 : r.h - a < n
          · exact h2
          · rw [inB_true (by omega)] at hnb; cases hnb
      clear hb
      rcases hd with hd | ⟨hd1, hd2⟩
      · have d1 : decide (n < 1) = true := by simpa using hd
        go_enter Try.func50, Try.ntmps50
        go_wp2_with fail
        refine (checkCourse_any c r a _ hR).mono ?_
        rw [ht]
        rintro e w1 ⟨rfl, b1⟩
        have q0 := brow b1 p0
        have q1 := brow b1 p1
        have B1 := bnext pB b1 pB.size
        clear b1 p0 p1 pB
        have c1 : w1.cell? ⟨w.heap.size, 1, none⟩ = some (.int .i8 r.h) := by rw [← k1]; exact (cell_of_rowAt q0 1).trans (Array.getElem?_eq_getElem (by omega))
        go_wp2_with fail
        refine bodyPost_ret (v := .tuple #[.agg Try.zeroCells33, .int .i64 2]) (results_row2 (m := 67) rfl _ _ (w.heap.size + 1) _ _ rfl rfl (rowAt_setRow_at _ _ _ (Option.isSome_iff_exists.2 ⟨_, q1⟩)) Try.underlying33 rfl (by kernel_rfl) hzs) rfl ⟨rfl, ?_⟩
        exact below_setRow B1 (by omega) _
      · have d1 : decide (n < 1) = false := by simpa using hd1
        have d2 : decide (r.h - a < n) = true := by simpa using hd2
        go_enter Try.func50, Try.ntmps50
        go_wp2_with fail
        refine (checkCourse_any c r a _ hR).mono ?_
        rw [ht]
        rintro e w1 ⟨rfl, b1⟩
        have q0 := brow b1 p0
        have q1 := brow b1 p1
        have B1 := bnext pB b1 pB.size
        clear b1 p0 p1 pB
        have c1 : w1.cell? ⟨w.heap.size, 1, none⟩ = some (.int .i8 r.h) := by rw [← k1]; exact (cell_of_rowAt q0 1).trans (Array.getElem?_eq_getElem (by omega))
        go_wp2_with fail
        refine bodyPost_ret (v := .tuple #[.agg Try.zeroCells33, .int .i64 2]) (results_row2 (m := 67) rfl _ _ (w.heap.size + 1) _ _ rfl rfl (rowAt_setRow_at _ _ _ (Option.isSome_iff_exists.2 ⟨_, q1⟩)) Try.underlying33 rfl (by kernel_rfl) hzs) rfl ⟨rfl, ?_⟩
        exact below_setRow B1 (by omega) _
    · have eC : r.cuC a n = r.told (inB a 0 (r.h - 1)) := if_neg ht
      rw [eC]
      have ht0 : (r.told (inB a 0 (r.h - 1)) != 0) = true := by simp [ht]
      clear ht
      go_enter Try.func50, Try.ntmps50
      go_wp2_with fail
      refine (checkCourse_any c r a _ hR).mono ?_
      rintro e w1 ⟨rfl, b1⟩
      have q0 := brow b1 p0
      have q1 := brow b1 p1
      have B1 := bnext pB b1 pB.size
      clear b1 p0 p1 pB
      go_wp2_with fail
      refine bodyPost_ret (v := .tuple #[.agg Try.zeroCells33, .int .i64 (r.told (inB a 0 (r.h - 1)))]) (results_row2 (m := 67) rfl _ _ (w.heap.size + 1) _ _ rfl rfl (rowAt_setRow_at _ _ _ (Option.isSome_iff_exists.2 ⟨_, q1⟩)) Try.underlying33 rfl (by kernel_rfl) hzs) rfl ⟨rfl, ?_⟩
      exact below_setRow B1 (by omega) _
end Go.Proofs.Ytfkcjgeeklngiaa
