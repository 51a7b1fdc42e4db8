/- DripAfter: contracts of both sides. -/
import Derived.Test.YtoibolmippfcgaaDoorMendI
namespace Go.Proofs.YtoibolmippfcgaaDoor
open Go.RowKit

theorem neqNilE (a : Addr) (w : World) : (binOp .neq 66 (errV a) .nilIface).run Tryd.prog w = .ok (.bool true) w := run_neq_iface_nil (P := Tryd.prog) (w := w) 66 (by kernel_rfl) _ _
theorem neqNil0 (w : World) : (binOp .neq 66 .nilIface .nilIface).run Tryd.prog w = .ok (.bool false) w := run_neq_nil_nil_at (P := Tryd.prog) (w := w) 66 (by kernel_rfl)

/-- What DripAfter answers. -/
noncomputable def Rf.dV (r : Rf) (t f : Nat → Int) (n : Nat) : Int := if r.pcode t f n true = 0 then r.aft t f n else 0
theorem Rf.pcode_zero {r : Rf} {t f : Nat → Int} {n : Nat} {fine : Bool} (h : r.pcode t f n fine = 0) : r.Rains t ∧ r.okP f n ∧ fine = true := by
  unfold Rf.pcode at h
  split at h
  · rename_i h1
    split at h
    · rename_i h2
      rw [Bool.and_eq_true] at h2
      exact ⟨Rf.Rains_of h1, Rf.okB_of h2.2, h2.1⟩
    · omega
  · omega
theorem Rf.pcode_cases (r : Rf) (t f : Nat → Int) (n : Nat) (fine : Bool) : r.pcode t f n fine = 0 ∨ r.pcode t f n fine = 1 ∨ r.pcode t f n fine = 2 := by
  unfold Rf.pcode
  split
  · split <;> simp
  · simp

set_option maxRecDepth 100000 in
set_option maxHeartbeats 1000000 in
theorem specDripAfter_any (b n : Nat) (c d : Array Value) (r : Rf) (t f : Nat → Int) (v : Value) (w : World) (hR : IsRoof c r) (hT : IsRain d t)
    (hv : IsList w b v 2 n (fun i => .int .i8 (f i))) (hn : n ≤ 2000000) (hf : ∀ i, i < n * 2 → -128 ≤ f i ∧ f i ≤ 127) :
    Calls Tryd.prog 9 #[.agg c, .agg d, v] w fun e w' => e = .returned (.tuple #[.int .i64 (r.dV t f n), .int .i64 (r.pcode t f n true)]) ∧ Below w.heap.size w w' := by
  obtain ⟨p0, p1, pB⟩ := two_boxes w c d 33 35
  have HV := Lib.hid (hv.below pB (Nat.le_refl _))
  have HF := Lib.hid hf
  obtain ⟨av, cv, rfl⟩ := hv.shape
  clear hv hf
  by_cases hz : r.pcode t f n true = 0
  · obtain ⟨ho, hP, _⟩ := Rf.pcode_zero hz
    have HP := Lib.hid hP
    have HD : Hid (r.dV t f n = r.aft t f n) := Lib.hid (if_pos hz)
    have HZ := Lib.hid hz
    clear hP hz
    go_enter Tryd.func9, Tryd.ntmps9
    go_wp2_with fail
    refine (l03Places_any w.heap.size (w.heap.size + 1) b n c d r t f _ true _ p0 hR p1 hT HV.out hn HF.out).mono ?_
    rw [HZ.out]
    rintro e w1 ⟨rfl, b1⟩
    have s0 := brow b1 p0
    have s1 := brow b1 p1
    have HV1 := Lib.hid (HV.out.below b1 (Nat.le_refl _))
    have B1 := bnext pB b1 pB.size
    clear b1 p0 p1 pB
    go_wp2_with fail
    refine (l03After_any w.heap.size (w.heap.size + 1) b n c d r t f _ _ s0 hR s1 hT ho HV1.out hn HP.out).mono ?_
    rintro e w2 ⟨rfl, b2⟩
    have B2 := bnext B1 b2 B1.size
    clear b2 s0 s1 B1
    go_wp2_with fail
    go_ret2
    exact ⟨by rw [HD.out, HZ.out]; rfl, B2⟩
  · have HD : Hid (r.dV t f n = 0) := Lib.hid (if_neg hz)
    obtain ⟨q, hq⟩ : ∃ q, q = r.pcode t f n true := ⟨_, rfl⟩
    have hq0 : (q != 0) = true := by rw [hq]; simpa using hz
    have HQ := Lib.hid hq
    clear hz hq
    go_enter Tryd.func9, Tryd.ntmps9
    go_wp2_with fail
    refine (l03Places_any w.heap.size (w.heap.size + 1) b n c d r t f _ true _ p0 hR p1 hT HV.out hn HF.out).mono ?_
    rw [← HQ.out]
    rintro e w1 ⟨rfl, b1⟩
    have B1 := bnext pB b1 pB.size
    clear b1 p0 p1 pB
    go_wp2_with fail
    go_ret2
    exact ⟨by rw [HD.out, ← HQ.out]; rfl, B1⟩

set_option maxRecDepth 100000 in
set_option maxHeartbeats 1000000 in
theorem implDripAfter_any (a : Nat → Addr) (b n : Nat) (c d : Array Value) (r : Rf) (t f : Nat → Int) (v : Value) (w : World) (hE : Errs a w) (hR : IsRoof c r) (hT : IsRain d t)
    (hv : IsList w b v 2 n (fun i => .int .i8 (f i))) (hn : n ≤ 2000000) :
    Calls Tryd.prog 13 #[.agg c, .agg d, v] w fun e w' => e = .returned (.tuple #[.int .i64 (r.dV t f n), .int .i64 (r.pcode t f n true)]) ∧ Below w.heap.size w w' := by
  have hc := hR.size
  have hd := hT.size
  obtain ⟨p0, p1, pB⟩ := two_boxes w c d 33 35
  have HV := Lib.hid (hv.below pB (Nat.le_refl _))
  have HE := Lib.hid (hE.below pB)
  have ne1 := neqNilE
  have ne0 := neqNil0
  obtain ⟨av, cv, rfl⟩ := hv.shape
  clear hv hE
  by_cases ho : r.Rains t
  · by_cases hP : r.okP f n
    · have hz := Rf.pcode_in ho hP
      have HD : Hid (r.dV t f n = r.aft t f n) := Lib.hid (if_pos hz)
      have HZ := Lib.hid hz
      have HP := Lib.hid hP
      clear hz hP
      go_enter Tryd.func13, Tryd.ntmps13
      go_wp2_with fail
      refine (checkPlaces_ok a b n c d r t f _ _ HE.out hR hT ho HV.out hn HP.out).mono ?_
      rintro e w1 ⟨rfl, b1⟩
      have s0 := brow b1 p0
      have s1 := brow b1 p1
      have HV1 := Lib.hid (HV.out.below b1 (Nat.le_refl _))
      have B1 := bnext pB b1 pB.size
      clear b1 p0 p1 pB
      go_wp2_with fail
      refine (dripAfter_any b n c d r t f _ _ hR hT ho HV1.out hn HP.out).mono ?_
      rintro e w2 ⟨rfl, b2⟩
      have B2 := bnext B1 b2 B1.size
      clear b2 s0 s1 B1
      go_wp2_with fail
      go_ret2
      exact ⟨by rw [HD.out, HZ.out]; rfl, B2⟩
    · have hz := Rf.pcode_out (fine := true) ho (by rw [Rf.okB_f hP]; rfl)
      have HD : Hid (r.dV t f n = 0) := Lib.hid (if_neg (by rw [hz]; decide))
      have HZ := Lib.hid hz
      have HP := Lib.hid hP
      clear hz hP
      go_enter Tryd.func13, Tryd.ntmps13
      go_wp2_with fail
      refine (checkPlaces_bad a b n c d r t f _ _ HE.out hR hT ho HV.out hn HP.out).mono ?_
      rintro e w1 ⟨rfl, b1⟩
      have HE1 := Lib.hid (HE.out.below b1)
      have B1 := bnext pB b1 pB.size
      clear b1 p0 p1 pB
      go_wp2_with fail
      refine (leakCode_any a 1 _ HE1.out (by omega)).mono ?_
      rintro e w2 ⟨rfl, rfl⟩
      go_wp2_with fail
      go_ret2
      exact ⟨by rw [HD.out, HZ.out]; rfl, B1⟩
  · have hz := Rf.pcode_no (f := f) (n := n) (fine := true) ho
    have HD : Hid (r.dV t f n = 0) := Lib.hid (if_neg (by rw [hz]; decide))
    have HZ := Lib.hid hz
    clear hz
    go_enter Tryd.func13, Tryd.ntmps13
    go_wp2_with fail
    refine (checkPlaces_no a c d r t _ _ HE.out hR hT ho).mono ?_
    rintro e w1 ⟨rfl, b1⟩
    have HE1 := Lib.hid (HE.out.below b1)
    have B1 := bnext pB b1 pB.size
    clear b1 p0 p1 pB
    go_wp2_with fail
    refine (leakCode_any a 0 _ HE1.out (by omega)).mono ?_
    rintro e w2 ⟨rfl, rfl⟩
    go_wp2_with fail
    go_ret2
    exact ⟨by rw [HD.out, HZ.out]; rfl, B1⟩
end Go.Proofs.YtoibolmippfcgaaDoor
