/- SaveOf: the model's save; both sides by one answer. -/
import Derived.Test.YtfkcjgeeklngiaaSave
namespace Go.Proofs.Ytfkcjgeeklngiaa
open Go.RowKit

set_option maxRecDepth 100000 in
set_option maxHeartbeats 1000000 in
theorem l02Save_any (n m : Nat) (c d : Array Value) (r : Rf) (t : Nat → Int) (i j : Nat) (w : World) (hr : rowAt w n = some c) (hR : IsRoof c r) (hdd : rowAt w m = some d) (hT : IsRain d t) (ho : r.Rains t) (hi : i < 8) (hj : j < 8) :
    Calls Try.prog 53 #[.pointer (some ⟨n, 0, none⟩), .pointer (some ⟨m, 0, none⟩), .agg #[.int .i8 i, .int .i8 j]] w fun e w' => e = .returned (.int .i64 (r.save t (i * 8 + j))) ∧ Below w.heap.size w w' := by
  have hc := hR.size
  have hco := hR.ones
  have hM := hR.set (i * 8 + j) (by omega) 0 (by omega)
  rw [← Nat.add_assoc] at hM
  have hO := Rf.set_rains ho (i * 8 + j)
  obtain ⟨b10, b11⟩ := Rf.sum_bd ho
  obtain ⟨b20, b21⟩ := Rf.sum_bd hO
  have C1 := fun w h1 h2 => l02Sum_any n m c d r t w h1 hR h2 hT ho
  have C2 := fun k w h1 h2 => l02Sum_any k m _ d _ t w h1 hM h2 hT hO
  unfold Rf.save
  generalize sumTo (r.drips t) 136 = s1 at *
  generalize sumTo ((r.set (i * 8 + j) 0).drips t) 136 = s2 at *
  have C1 := Lib.hid C1
  have C2 := Lib.hid C2
  have hn := rowAt_lt hr
  have hm := rowAt_lt hdd
  have i0 : 0 ≤ (i : Int) := by omega
  have i1 : (i : Int) < 8 := by omega
  have j0 : 0 ≤ (j : Int) := by omega
  have j1 : (j : Int) < 8 := by omega
  have hcx : 3 + i * 8 + j < 67 := by omega
  have hzs := zroof_size
  have hr1 : rowAt (w.alloc (.cells #[.int .i8 i, .int .i8 j] 37)) n = some c := (rowAt_alloc_past _ _ _ hn).trans hr
  have pq : ∀ W, W = (w.alloc (.cells #[.int .i8 i, .int .i8 j] 37)).alloc (.cells c 33) → rowAt W n = some c ∧ rowAt W m = some d ∧ rowAt W w.heap.size = some #[.int .i8 i, .int .i8 j] ∧ rowAt W (w.heap.size + 1) = some c ∧ Below w.heap.size w W := fun W hW => by
    rw [hW]
    exact ⟨(rowAt_alloc_past _ _ _ (by simp; omega)).trans ((rowAt_alloc_past _ _ _ hn).trans hr), (rowAt_alloc_past _ _ _ (by simp; omega)).trans ((rowAt_alloc_past _ _ _ hm).trans hdd), (rowAt_alloc_past _ _ _ (by simp)).trans (rowAt_alloc_at _ _ _ _ rfl), rowAt_alloc_at _ _ _ _ (by simp), ((Below.refl _ _).alloc (Nat.le_refl _) _).alloc (by simp) _⟩
  have PQ := Lib.hid pq
  clear pq hr hdd
  go_enter Try.func53, Try.ntmps53
  go_wp2_with fail
  refine gen_world fun W hW => ?_
  obtain ⟨p0, p1, p2, p3, pB⟩ := PQ.out W hW
  clear hW hr1
  have g1 : W.cell? ⟨w.heap.size, 0, none⟩ = some (.int .i8 i) := by rw [cell_of_rowAt p2]; rfl
  have g2 : W.cell? ⟨w.heap.size, 1, none⟩ = some (.int .i8 j) := by rw [cell_of_rowAt p2]; rfl
  have gcell := cell_of_rowAt p3
  have gfro := frozen_of_rowAt p3
  go_still_tail 7, (by kernel_rfl)
  change wpList _ _ _ _ _ W.drew
  repeat go_step
  refine gen_calls fun W2 hW2 => ?_
  have q0 : rowAt W2 n = some c := by rw [hW2]; exact (rowAt_setCell_ne W (w.heap.size + 1) n (3 + i * 8 + j) (.int .u8 0) (by omega)).trans p0
  have q1 : rowAt W2 m = some d := by rw [hW2]; exact (rowAt_setCell_ne W (w.heap.size + 1) m (3 + i * 8 + j) (.int .u8 0) (by omega)).trans p1
  have q3 : rowAt W2 (w.heap.size + 1) = some (c.setIfInBounds (3 + i * 8 + j) (.int .u8 0)) := by
    rw [hW2]
    have := rowAt_setCell_at W (w.heap.size + 1) (3 + i * 8 + j) (.int .u8 0) (by rw [p3]; rfl)
    rwa [p3] at this
  have qB : Below w.heap.size w W2 := by rw [hW2]; exact (pB.setCell (p := ⟨_, _, none⟩) (Nat.le_succ _) _).drew
  clear hW2 p0 p1 p2 p3 pB g1 g2 gcell gfro
  refine (C1.out _ q0 q1).mono ?_
  rintro e w1 ⟨rfl, b1⟩
  have s1 := brow b1 q1
  have s3 := brow b1 q3
  have B1 := bnext qB b1 qB.size
  clear b1 q0 q1 q3 qB
  go_wp2_with fail
  refine (C2.out _ _ s3 s1).mono ?_
  rintro e w2 ⟨rfl, b2⟩
  have B2 := bnext B1 b2 B1.size
  clear b2
  go_wp2_with fail
  go_ret
  exact ⟨rfl, B2⟩

noncomputable def Rf.scode (r : Rf) (t : Nat → Int) (a b : Int) : Int := if r.rok t = true then (if r.isB a b = true then 0 else 2) else 1
noncomputable def Rf.sval (r : Rf) (t : Nat → Int) (a b : Int) : Int := if r.scode t a b = 0 then r.save t (a.toNat * 8 + b.toNat) else 0
theorem Rf.scode_no {r : Rf} {t : Nat → Int} {a b : Int} (h : ¬ r.Rains t) : r.scode t a b = 1 := by simp [Rf.scode, Rf.rok_false h]
theorem Rf.scode_out {r : Rf} {t : Nat → Int} {a b : Int} (h : r.Rains t) (hp : ¬ (0 ≤ a ∧ a < r.h ∧ 0 ≤ b ∧ b < r.w)) : r.scode t a b = 2 := by simp [Rf.scode, Rf.rok_true h, Rf.isB_false hp]
theorem Rf.scode_in {r : Rf} {t : Nat → Int} {a b : Int} (h : r.Rains t) (hp : 0 ≤ a ∧ a < r.h ∧ 0 ≤ b ∧ b < r.w) : r.scode t a b = 0 := by simp [Rf.scode, Rf.rok_true h, Rf.isB_true hp]
theorem Rf.sval_no {r : Rf} {t : Nat → Int} {a b : Int} (h : r.scode t a b ≠ 0) : r.sval t a b = 0 := if_neg h
theorem Rf.sval_in {r : Rf} {t : Nat → Int} {i j : Nat} (h : r.scode t i j = 0) : r.sval t i j = r.save t (i * 8 + j) := if_pos h

set_option maxRecDepth 100000 in
set_option maxHeartbeats 1000000 in
theorem specSaveOf_any (c d : Array Value) (r : Rf) (t : Nat → Int) (a b : Int) (w : World) (hR : IsRoof c r) (hT : IsRain d t) (ha : -128 ≤ a ∧ a ≤ 127) (hb : -128 ≤ b ∧ b ≤ 127) :
    Calls Try.prog 15 #[.agg c, .agg d, .agg #[.int .i8 a, .int .i8 b]] w fun e w' => e = .returned (.tuple #[.int .i64 (r.sval t a b), .int .i64 (r.scode t a b)]) ∧ Below w.heap.size w w' := by
  obtain ⟨p0, p1, pB⟩ := two_boxes w c d 33 35
  have q0 := (rowAt_alloc_past _ (.cells #[.int .i8 a, .int .i8 b] 37) _ (by simp; omega)).trans p0
  have q1 := (rowAt_alloc_past _ (.cells #[.int .i8 a, .int .i8 b] 37) _ (by simp)).trans p1
  have q2 := rowAt_alloc_at ((w.alloc (.cells c 33)).alloc (.cells d 35)) #[.int .i8 a, .int .i8 b] 37 (w.heap.size + 1 + 1) (by simp)
  have qB := pB.alloc (by simp; omega) (.cells #[.int .i8 a, .int .i8 b] 37)
  clear p0 p1 pB
  by_cases ho : r.Rains t
  · by_cases hp : 0 ≤ a ∧ a < r.h ∧ 0 ≤ b ∧ b < r.w
    · have hz := Rf.scode_in ho hp
      obtain ⟨i, hi⟩ := Int.eq_ofNat_of_zero_le hp.1
      obtain ⟨j, hj⟩ := Int.eq_ofNat_of_zero_le hp.2.2.1
      have hi8 : i < 8 := by have := ho.1.2.2.2.1; omega
      have hj8 : j < 8 := by have := ho.1.2.1; omega
      subst hi hj
      rw [Rf.sval_in hz, hz]
      clear hz
      go_enter Try.func15, Try.ntmps15
      go_wp2_with fail
      refine (l02Ok_t w.heap.size (w.heap.size + 1) c d r t _ q0 hR q1 hT ho).mono ?_
      rintro e w1 ⟨rfl, b1⟩
      have s0 := brow b1 q0
      have s1 := brow b1 q1
      have s2 := brow b1 q2
      have k0 : w1.cell? ⟨w.heap.size + 1 + 1, 0, none⟩ = some (.int .i8 i) := by rw [cell_of_rowAt s2]; rfl
      have k1 : w1.cell? ⟨w.heap.size + 1 + 1, 1, none⟩ = some (.int .i8 j) := by rw [cell_of_rowAt s2]; rfl
      have B1 := bnext qB b1 qB.size
      clear b1 q0 q1 q2 qB
      go_wp2_with fail
      refine (l01Is_t w.heap.size c r _ _ _ s0 hR ha hb hp).mono ?_
      rintro e w2 ⟨rfl, b2⟩
      have u0 := brow b2 s0
      have u1 := brow b2 s1
      have u2 := brow b2 s2
      have k2 : w2.cell? ⟨w.heap.size + 1 + 1, 0, none⟩ = some (.int .i8 i) := by rw [cell_of_rowAt u2]; rfl
      have k3 : w2.cell? ⟨w.heap.size + 1 + 1, 1, none⟩ = some (.int .i8 j) := by rw [cell_of_rowAt u2]; rfl
      have B2 := bnext B1 b2 B1.size
      clear b2 s0 s1 s2 B1 k0 k1
      go_wp2_with fail
      refine (l02Save_any w.heap.size (w.heap.size + 1) c d r t i j _ u0 hR u1 hT ho hi8 hj8).mono ?_
      rintro e w3 ⟨rfl, b3⟩
      have B3 := bnext B2 b3 B2.size
      clear b3
      go_wp2_with fail
      go_ret2
      exact ⟨rfl, B3⟩
    · have hz := Rf.scode_out ho hp
      rw [Rf.sval_no (by rw [hz]; decide), hz]
      clear hz
      go_enter Try.func15, Try.ntmps15
      go_wp2_with fail
      refine (l02Ok_t w.heap.size (w.heap.size + 1) c d r t _ q0 hR q1 hT ho).mono ?_
      rintro e w1 ⟨rfl, b1⟩
      have s0 := brow b1 q0
      have s2 := brow b1 q2
      have k0 : w1.cell? ⟨w.heap.size + 1 + 1, 0, none⟩ = some (.int .i8 a) := by rw [cell_of_rowAt s2]; rfl
      have k1 : w1.cell? ⟨w.heap.size + 1 + 1, 1, none⟩ = some (.int .i8 b) := by rw [cell_of_rowAt s2]; rfl
      have B1 := bnext qB b1 qB.size
      clear b1 q0 q1 q2 qB
      go_wp2_with fail
      refine (l01Is_f w.heap.size c r _ _ _ s0 hR ha hb hp).mono ?_
      rintro e w2 ⟨rfl, b2⟩
      have B2 := bnext B1 b2 B1.size
      clear b2 s0 s2 B1 k0 k1
      go_wp2_with fail
      go_ret2
      exact ⟨rfl, B2⟩
  · have hz := Rf.scode_no (a := a) (b := b) ho
    rw [Rf.sval_no (by rw [hz]; decide), hz]
    clear hz
    go_enter Try.func15, Try.ntmps15
    go_wp2_with fail
    refine (l02Ok_f w.heap.size (w.heap.size + 1) c d r t _ q0 hR q1 hT ho).mono ?_
    rintro e w1 ⟨rfl, b1⟩
    have B1 := bnext qB b1 qB.size
    clear b1 q0 q1 q2 qB
    go_wp2_with fail
    go_ret2
    exact ⟨rfl, B1⟩

set_option maxRecDepth 100000 in
set_option maxHeartbeats 1000000 in
theorem implSaveOf_any (c d : Array Value) (r : Rf) (t : Nat → Int) (a b : Int) (w : World) (hR : IsRoof c r) (hT : IsRain d t) :
    Calls Try.prog 19 #[.agg c, .agg d, .agg #[.int .i8 a, .int .i8 b]] w fun e w' => e = .returned (.tuple #[.int .i64 (r.sval t a b), .int .i64 (r.scode t a b)]) ∧ Below w.heap.size w w' := by
  have hc := hR.size
  have hd := hT.size
  obtain ⟨p0, p1, pB⟩ := two_boxes w c d 33 35
  have q0 := (rowAt_alloc_past _ (.cells #[.int .i8 a, .int .i8 b] 37) _ (by simp; omega)).trans p0
  have q1 := (rowAt_alloc_past _ (.cells #[.int .i8 a, .int .i8 b] 37) _ (by simp)).trans p1
  have q2 := rowAt_alloc_at ((w.alloc (.cells c 33)).alloc (.cells d 35)) #[.int .i8 a, .int .i8 b] 37 (w.heap.size + 1 + 1) (by simp)
  have qB := pB.alloc (by simp; omega) (.cells #[.int .i8 a, .int .i8 b] 37)
  clear p0 p1 pB
  by_cases ho : r.Rains t
  · by_cases hp : 0 ≤ a ∧ a < r.h ∧ 0 ≤ b ∧ b < r.w
    · have hz := Rf.scode_in ho hp
      obtain ⟨i, hi⟩ := Int.eq_ofNat_of_zero_le hp.1
      obtain ⟨j, hj⟩ := Int.eq_ofNat_of_zero_le hp.2.2.1
      have hi8 : i < 8 := by have := ho.1.2.2.2.1; omega
      have hj8 : j < 8 := by have := ho.1.2.1; omega
      subst hi hj
      rw [Rf.sval_in hz, hz]
      clear hz
      go_enter Try.func19, Try.ntmps19
      go_wp2_with fail
      refine (implValidRain_t c d r t _ hR hT ho).mono ?_
      rintro e w1 ⟨rfl, b1⟩
      have s0 := brow b1 q0
      have s1 := brow b1 q1
      have s2 := brow b1 q2
      have k0 : w1.cell? ⟨w.heap.size + 1 + 1, 0, none⟩ = some (.int .i8 i) := by rw [cell_of_rowAt s2]; rfl
      have k1 : w1.cell? ⟨w.heap.size + 1 + 1, 1, none⟩ = some (.int .i8 j) := by rw [cell_of_rowAt s2]; rfl
      have B1 := bnext qB b1 qB.size
      clear b1 q0 q1 q2 qB
      go_wp2_with fail
      refine (has_t c r _ _ _ hR hp).mono ?_
      rintro e w2 ⟨rfl, b2⟩
      have u0 := brow b2 s0
      have u1 := brow b2 s1
      have u2 := brow b2 s2
      have k2 : w2.cell? ⟨w.heap.size + 1 + 1, 0, none⟩ = some (.int .i8 i) := by rw [cell_of_rowAt u2]; rfl
      have k3 : w2.cell? ⟨w.heap.size + 1 + 1, 1, none⟩ = some (.int .i8 j) := by rw [cell_of_rowAt u2]; rfl
      have B2 := bnext B1 b2 B1.size
      clear b2 s0 s1 s2 B1 k0 k1
      go_wp2_with fail
      refine (saveOf_any c d r t i j _ hR hT ho hi8 hj8).mono ?_
      rintro e w3 ⟨rfl, b3⟩
      have B3 := bnext B2 b3 B2.size
      clear b3
      go_wp2_with fail
      go_ret2
      exact ⟨rfl, B3⟩
    · have hz := Rf.scode_out ho hp
      rw [Rf.sval_no (by rw [hz]; decide), hz]
      clear hz
      go_enter Try.func19, Try.ntmps19
      go_wp2_with fail
      refine (implValidRain_t c d r t _ hR hT ho).mono ?_
      rintro e w1 ⟨rfl, b1⟩
      have s0 := brow b1 q0
      have s2 := brow b1 q2
      have k0 : w1.cell? ⟨w.heap.size + 1 + 1, 0, none⟩ = some (.int .i8 a) := by rw [cell_of_rowAt s2]; rfl
      have k1 : w1.cell? ⟨w.heap.size + 1 + 1, 1, none⟩ = some (.int .i8 b) := by rw [cell_of_rowAt s2]; rfl
      have B1 := bnext qB b1 qB.size
      clear b1 q0 q1 q2 qB
      go_wp2_with fail
      refine (has_f c r _ _ _ hR hp).mono ?_
      rintro e w2 ⟨rfl, b2⟩
      have B2 := bnext B1 b2 B1.size
      clear b2 s0 s2 B1 k0 k1
      go_wp2_with fail
      go_ret2
      exact ⟨rfl, B2⟩
  · have hz := Rf.scode_no (a := a) (b := b) ho
    rw [Rf.sval_no (by rw [hz]; decide), hz]
    clear hz
    go_enter Try.func19, Try.ntmps19
    go_wp2_with fail
    refine (implValidRain_f c d r t _ hR hT ho).mono ?_
    rintro e w1 ⟨rfl, b1⟩
    have B1 := bnext qB b1 qB.size
    clear b1 q0 q1 q2 qB
    go_wp2_with fail
    go_ret2
    exact ⟨rfl, B1⟩
end Go.Proofs.Ytfkcjgeeklngiaa
