/- CheckRepairs: contracts of both sides. -/
import Derived.Test.YtcopdilmkfmpiaaDoorDAfter
import Derived.Test.YtcopdilmkfmpiaaDoorWrong
namespace Go.Proofs.YtcopdilmkfmpiaaDoor
open Go.RowKit

/-- All tiles that are not whole. -/
def Rf.wrs (r : Rf) : List (Pl r.h.toNat r.w.toNat) := r.wrongs (plUpto r.h.toNat r.w.toNat (r.h.toNat * r.w.toNat))
theorem wrong_ok (c : Array Value) (r : Rf) (w : World) (hR : IsRoof c r) (ho : r.Ok) : Calls Tryd.prog 101 #[.agg c] w (GivesP w r.wrs) :=
  wrong_any c r r.h.toNat r.w.toNat (by have := ho.2.2.1; omega) (by have := ho.1; omega) (by have := ho.2.2.2.1; omega) (by have := ho.2.1; omega) w hR
theorem l03Wrong_ok (n : Nat) (c : Array Value) (r : Rf) (w : World) (hr : rowAt w n = some c) (hR : IsRoof c r) (ho : r.Ok) : Calls Tryd.prog 51 #[.pointer (some ⟨n, 0, none⟩)] w (GivesP w r.wrs) :=
  l03Wrong_any n c r r.h.toNat r.w.toNat (by have := ho.2.2.1; omega) (by have := ho.1; omega) (by have := ho.2.2.2.1; omega) (by have := ho.2.1; omega) w hr hR
theorem Rf.wrs_le {r : Rf} (ho : r.Ok) : r.wrs.length ≤ 64 := by
  have h1 := r.wrongs_len (plUpto r.h.toNat r.w.toNat (r.h.toNat * r.w.toNat))
  have h2 := plUpto_len r.h.toNat r.w.toNat (r.h.toNat * r.w.toNat)
  have h3 : r.h.toNat * r.w.toNat ≤ 8 * 8 := Nat.mul_le_mul (by have := ho.2.2.2.1; omega) (by have := ho.2.1; omega)
  have h4 : r.wrs.length ≤ _ := h1
  omega

/-- The code of a roof, rain, places and a bound. -/
noncomputable def Rf.bcode (r : Rf) (t f : Nat → Int) (n : Nat) (b : Int) : Int := if r.pcode t f n (decide (0 ≤ b)) ≠ 0 then r.pcode t f n (decide (0 ≤ b)) else if 10 < r.wrs.length then 3 else 0
noncomputable def Rf.cV (r : Rf) (t f : Nat → Int) (n : Nat) (b : Int) : Bool := if r.bcode t f n b = 0 then decide (r.aft t f n ≤ b) else false
theorem Rf.bcode_zero {r : Rf} {t f : Nat → Int} {n : Nat} {b : Int} (h : r.bcode t f n b = 0) : r.Rains t ∧ r.okP f n ∧ 0 ≤ b ∧ r.wrs.length ≤ 10 := by
  unfold Rf.bcode at h
  split at h
  · rename_i h1; exact absurd h h1
  · rename_i h1
    obtain ⟨a1, a2, a3⟩ := Rf.pcode_zero (Decidable.not_not.1 h1)
    split at h
    · omega
    · exact ⟨a1, a2, of_decide_eq_true a3, by omega⟩
theorem Rf.bcode_p {r : Rf} {t f : Nat → Int} {n : Nat} {b : Int} (h : r.pcode t f n (decide (0 ≤ b)) ≠ 0) : r.bcode t f n b = r.pcode t f n (decide (0 ≤ b)) := if_pos h
theorem Rf.bcode_m {r : Rf} {t f : Nat → Int} {n : Nat} {b : Int} (h : r.pcode t f n (decide (0 ≤ b)) = 0) (hm : 10 < r.wrs.length) : r.bcode t f n b = 3 := by
  unfold Rf.bcode; rw [if_neg (by omega), if_pos hm]

set_option maxRecDepth 100000 in
set_option maxHeartbeats 1000000 in
theorem checkWrong_any (a : Nat → Addr) (c : Array Value) (r : Rf) (w : World) (hE : Errs a w) (hR : IsRoof c r) (ho : r.Ok) :
    Calls Tryd.prog 78 #[.agg c] w fun e w' => e = .returned (cpRes (fun _ => a 2) 10 r.wrs.length) ∧ Below w.heap.size w w' := by
  have hc := hR.size
  have p0 := rowAt_alloc_at w c 35 w.heap.size rfl
  have pB : Below w.heap.size w (w.alloc (.cells c 35)) := (Below.refl _ _).alloc (Nat.le_refl _) _
  have HE := Lib.hid (hE.below pB)
  have CW := fun w => wrong_ok c r w hR ho
  have hle := Rf.wrs_le ho
  obtain ⟨m, hm⟩ : ∃ m, m = r.wrs.length := ⟨_, rfl⟩
  clear hE
  by_cases h : 10 < m
  · have HC : Hid (cpRes (fun _ => a 2) 10 r.wrs.length = errV (a 2)) := Lib.hid (if_pos (by omega))
    go_enter Tryd.func78, Tryd.ntmps78
    go_wp2_with fail
    refine (CW _).mono ?_
    rintro e w1 ⟨v, rfl, l1, b1⟩
    obtain ⟨av, cv, rfl⟩ := l1.shape
    rw [← hm]
    have B1 := bnext pB b1 pB.size
    have k2 := (HE.out.below b1).v2
    have HM := Lib.hid hm
    clear b1 l1 p0 pB hm
    go_wp2_with fail
    go_ret
    exact ⟨by rw [HC.out]; rfl, B1⟩
  · have HC : Hid (cpRes (fun _ => a 2) 10 r.wrs.length = .nilIface) := Lib.hid (if_neg (by omega))
    go_enter Tryd.func78, Tryd.ntmps78
    go_wp2_with fail
    refine (CW _).mono ?_
    rintro e w1 ⟨v, rfl, l1, b1⟩
    obtain ⟨av, cv, rfl⟩ := l1.shape
    rw [← hm]
    have B1 := bnext pB b1 pB.size
    have HM := Lib.hid hm
    clear b1 l1 p0 pB hm
    go_wp2_with fail
    go_ret
    exact ⟨by rw [HC.out]; rfl, B1⟩

set_option maxRecDepth 100000 in
set_option maxHeartbeats 2000000 in
/-- The program's check of a roof, rain, places and a bound. -/
theorem checkBound_err (a : Nat → Addr) (b0 n : Nat) (c d : Array Value) (r : Rf) (t f : Nat → Int) (b : Int) (hR : IsRoof c r) (hT : IsRain d t) (hn : n ≤ 2000000) (hz : r.bcode t f n b ≠ 0) :
    ∃ i, i < 6 ∧ ecode i = r.bcode t f n b ∧ ∀ (v : Value) (w : World), Errs a w → IsList w b0 v 2 n (fun i => .int .i8 (f i)) → Calls Tryd.prog 52 #[.agg c, .agg d, v, .int .i64 b] w fun e w' => e = .returned (errV (a i)) ∧ Below w.heap.size w w' := by
  have hc := hR.size
  have hd := hT.size
  by_cases ho : r.Rains t
  · by_cases hP : r.okP f n
    · by_cases hb : b < 0
      · refine ⟨1, by omega, ?_, fun v w hE hv => ?_⟩
        · have hz := Rf.pcode_out (f := f) (n := n) (fine := decide (0 ≤ b)) ho (by rw [decide_eq_false (by omega)]; rfl)
          rw [Rf.bcode_p (by rw [hz]; decide), hz]; rfl
        · obtain ⟨p0, p1, pB⟩ := two_boxes w c d 35 37
          have HV := Lib.hid (hv.below pB (Nat.le_refl _))
          have HE := Lib.hid (hE.below pB)
          have HP := Lib.hid hP
          have ne0 := neqNil0
          obtain ⟨av, cv, rfl⟩ := hv.shape
          clear hv hE hz hP
          go_enter Tryd.func52, Tryd.ntmps52
          go_wp2_with fail
          refine (checkPlaces_ok a b0 n c d r t f _ _ HE.out hR hT ho HV.out hn HP.out).mono ?_
          rintro e w1 ⟨rfl, b1⟩
          have k1 := (HE.out.below b1).v1
          have B1 := bnext pB b1 pB.size
          clear b1 p0 p1 pB
          go_wp2_with fail
          go_ret
          exact ⟨rfl, B1⟩
      · have hpz : r.pcode t f n (decide (0 ≤ b)) = 0 := by rw [decide_eq_true (by omega)]; exact Rf.pcode_in ho hP
        have hm : 10 < r.wrs.length := by
          unfold Rf.bcode at hz
          rw [if_neg (by omega)] at hz
          by_cases h : 10 < r.wrs.length
          · exact h
          · rw [if_neg h] at hz; exact absurd rfl hz
        refine ⟨2, by omega, by rw [Rf.bcode_m hpz hm]; rfl, fun v w hE hv => ?_⟩
        obtain ⟨p0, p1, pB⟩ := two_boxes w c d 35 37
        have HV := Lib.hid (hv.below pB (Nat.le_refl _))
        have HE := Lib.hid (hE.below pB)
        have HP := Lib.hid hP
        have HC : Hid (cpRes (fun _ => a 2) 10 r.wrs.length = errV (a 2)) := Lib.hid (if_pos hm)
        have ne0 := neqNil0
        obtain ⟨av, cv, rfl⟩ := hv.shape
        clear hv hE hz hP hm hpz
        go_enter Tryd.func52, Tryd.ntmps52
        go_wp2_with fail
        refine (checkPlaces_ok a b0 n c d r t f _ _ HE.out hR hT ho HV.out hn HP.out).mono ?_
        rintro e w1 ⟨rfl, b1⟩
        have s0 := brow b1 p0
        have HE1 := Lib.hid (HE.out.below b1)
        have B1 := bnext pB b1 pB.size
        clear b1 p0 p1 pB
        go_wp2_with fail
        refine (checkWrong_any a c r _ HE1.out hR ho.1).mono ?_
        rw [HC.out]
        rintro e w2 ⟨rfl, b2⟩
        have B2 := bnext B1 b2 B1.size
        clear b2 s0 B1
        go_wp2_with fail
        go_ret
        exact ⟨rfl, B2⟩
    · refine ⟨1, by omega, ?_, fun v w hE hv => ?_⟩
      · have hz := Rf.pcode_out (f := f) (n := n) (fine := decide (0 ≤ b)) ho (by rw [Rf.okB_f hP, Bool.and_false])
        rw [Rf.bcode_p (by rw [hz]; decide), hz]; rfl
      · obtain ⟨p0, p1, pB⟩ := two_boxes w c d 35 37
        have HV := Lib.hid (hv.below pB (Nat.le_refl _))
        have HE := Lib.hid (hE.below pB)
        have HP := Lib.hid hP
        have ne1 := neqNilE
        obtain ⟨av, cv, rfl⟩ := hv.shape
        clear hv hE hz hP
        go_enter Tryd.func52, Tryd.ntmps52
        go_wp2_with fail
        refine (checkPlaces_bad a b0 n c d r t f _ _ HE.out hR hT ho HV.out hn HP.out).mono ?_
        rintro e w1 ⟨rfl, b1⟩
        have B1 := bnext pB b1 pB.size
        clear b1 p0 p1 pB
        go_wp2_with fail
        go_ret
        exact ⟨rfl, B1⟩
  · refine ⟨0, by omega, ?_, fun v w hE hv => ?_⟩
    · have hz := Rf.pcode_no (f := f) (n := n) (fine := decide (0 ≤ b)) ho
      rw [Rf.bcode_p (by rw [hz]; decide), hz]; rfl
    · obtain ⟨p0, p1, pB⟩ := two_boxes w c d 35 37
      have HE := Lib.hid (hE.below pB)
      have ne1 := neqNilE
      obtain ⟨av, cv, rfl⟩ := hv.shape
      clear hv hE hz
      go_enter Tryd.func52, Tryd.ntmps52
      go_wp2_with fail
      refine (checkPlaces_no a c d r t _ _ HE.out hR hT ho).mono ?_
      rintro e w1 ⟨rfl, b1⟩
      have B1 := bnext pB b1 pB.size
      clear b1 p0 p1 pB
      go_wp2_with fail
      go_ret
      exact ⟨rfl, B1⟩

set_option maxRecDepth 100000 in
set_option maxHeartbeats 1000000 in
theorem checkBound_ok (a : Nat → Addr) (b0 n : Nat) (c d : Array Value) (r : Rf) (t f : Nat → Int) (b : Int) (hR : IsRoof c r) (hT : IsRain d t) (hn : n ≤ 2000000) (hz : r.bcode t f n b = 0) (v : Value) (w : World) (hE : Errs a w) (hv : IsList w b0 v 2 n (fun i => .int .i8 (f i))) :
    Calls Tryd.prog 52 #[.agg c, .agg d, v, .int .i64 b] w fun e w' => e = .returned .nilIface ∧ Below w.heap.size w w' := by
  have hc := hR.size
  have hd := hT.size
  obtain ⟨ho, hP, hb, hm⟩ := Rf.bcode_zero hz
  obtain ⟨p0, p1, pB⟩ := two_boxes w c d 35 37
  have HV := Lib.hid (hv.below pB (Nat.le_refl _))
  have HE := Lib.hid (hE.below pB)
  have HP := Lib.hid hP
  have HC : Hid (cpRes (fun _ => a 2) 10 r.wrs.length = .nilIface) := Lib.hid (if_neg (by omega))
  have hb' : ¬ b < 0 := by omega
  have ne0 := neqNil0
  obtain ⟨av, cv, rfl⟩ := hv.shape
  clear hv hE hz hP hm
  go_enter Tryd.func52, Tryd.ntmps52
  go_wp2_with fail
  refine (checkPlaces_ok a b0 n c d r t f _ _ HE.out hR hT ho HV.out hn HP.out).mono ?_
  rintro e w1 ⟨rfl, b1⟩
  have s0 := brow b1 p0
  have HE1 := Lib.hid (HE.out.below b1)
  have B1 := bnext pB b1 pB.size
  clear b1 p0 p1 pB
  go_wp2_with fail
  refine (checkWrong_any a c r _ HE1.out hR ho.1).mono ?_
  rw [HC.out]
  rintro e w2 ⟨rfl, b2⟩
  have B2 := bnext B1 b2 B1.size
  clear b2 s0 B1
  go_wp2_with fail
  go_ret
  exact ⟨rfl, B2⟩

set_option maxRecDepth 100000 in
set_option maxHeartbeats 1000000 in
theorem implCheckRepairs_any (a : Nat → Addr) (b0 n : Nat) (c d : Array Value) (r : Rf) (t f : Nat → Int) (b : Int) (v : Value) (w : World) (hE : Errs a w) (hR : IsRoof c r) (hT : IsRain d t)
    (hv : IsList w b0 v 2 n (fun i => .int .i8 (f i))) (hn : n ≤ 2000000) :
    Calls Tryd.prog 21 #[.agg c, .agg d, v, .int .i64 b] w fun e w' => e = .returned (.tuple #[.bool (r.cV t f n b), .int .i64 (r.bcode t f n b)]) ∧ Below w.heap.size w w' := by
  have hc := hR.size
  have hd := hT.size
  obtain ⟨p0, p1, pB⟩ := two_boxes w c d 35 37
  have HV := Lib.hid (hv.below pB (Nat.le_refl _))
  have HE := Lib.hid (hE.below pB)
  have ne1 := neqNilE
  have ne0 := neqNil0
  obtain ⟨av, cv, rfl⟩ := hv.shape
  clear hv hE
  by_cases hz : r.bcode t f n b = 0
  · obtain ⟨ho, hP, hb, hm⟩ := Rf.bcode_zero hz
    have HP := Lib.hid hP
    have CB := Lib.hid (fun v w hE hv => checkBound_ok a b0 n c d r t f b hR hT hn hz v w hE hv)
    have HD : Hid (r.cV t f n b = decide (r.aft t f n ≤ b)) := Lib.hid (if_pos hz)
    have HZ := Lib.hid hz
    clear hz hP hm
    go_enter Tryd.func21, Tryd.ntmps21
    go_wp2_with fail
    refine (CB.out _ _ HE.out HV.out).mono ?_
    rintro e w1 ⟨rfl, b1⟩
    have s0 := brow b1 p0
    have s1 := brow b1 p1
    have HV1 := Lib.hid (HV.out.below b1 (Nat.le_refl _))
    have B1 := bnext pB b1 pB.size
    clear b1 p0 p1 pB
    go_wp2_with fail
    refine (dripAfter_any b0 n c d r t f _ _ hR hT ho HV1.out hn HP.out).mono ?_
    rintro e w2 ⟨rfl, b2⟩
    have B2 := bnext B1 b2 B1.size
    clear b2 s0 s1 B1
    go_wp2_with fail
    go_ret2
    exact ⟨by rw [HD.out, HZ.out]; rfl, B2⟩
  · obtain ⟨i, hi, he, hcb⟩ := checkBound_err a b0 n c d r t f b hR hT hn hz
    have HD : Hid (r.cV t f n b = false) := Lib.hid (if_neg hz)
    have CB := Lib.hid hcb
    have HI := Lib.hid he
    clear hz he hcb
    go_enter Tryd.func21, Tryd.ntmps21
    go_wp2_with fail
    refine (CB.out _ _ HE.out HV.out).mono ?_
    rintro e w1 ⟨rfl, b1⟩
    have HE1 := Lib.hid (HE.out.below b1)
    have B1 := bnext pB b1 pB.size
    clear b1 p0 p1 pB
    go_wp2_with fail
    refine (leakCode_any a i _ HE1.out hi).mono ?_
    rintro e w2 ⟨rfl, rfl⟩
    go_wp2_with fail
    go_ret2
    exact ⟨by rw [HD.out, ← HI.out]; rfl, B1⟩

set_option maxRecDepth 100000 in
set_option maxHeartbeats 1000000 in
theorem specCheckRepairs_any (b0 n : Nat) (c d : Array Value) (r : Rf) (t f : Nat → Int) (b : Int) (v : Value) (w : World) (hR : IsRoof c r) (hT : IsRain d t)
    (hv : IsList w b0 v 2 n (fun i => .int .i8 (f i))) (hn : n ≤ 2000000) (hf : ∀ i, i < n * 2 → -128 ≤ f i ∧ f i ≤ 127) :
    Calls Tryd.prog 20 #[.agg c, .agg d, v, .int .i64 b] w fun e w' => e = .returned (.tuple #[.bool (r.cV t f n b), .int .i64 (r.bcode t f n b)]) ∧ Below w.heap.size w w' := by
  obtain ⟨p0, p1, pB⟩ := two_boxes w c d 35 37
  have HV := Lib.hid (hv.below pB (Nat.le_refl _))
  have HF := Lib.hid hf
  obtain ⟨av, cv, rfl⟩ := hv.shape
  clear hv hf
  have CP := fun fine W h0 h1 hv => l03Places_any w.heap.size (w.heap.size + 1) b0 n c d r t f (.slice av n cv) fine W h0 hR h1 hT hv hn HF.out
  by_cases hp : r.pcode t f n (decide (0 ≤ b)) = 0
  · obtain ⟨ho, hP, hb'⟩ := Rf.pcode_zero hp
    have hb : 0 ≤ b := of_decide_eq_true hb'
    have hle := Rf.wrs_le ho.1
    obtain ⟨m, hm⟩ : ∃ m, m = r.wrs.length := ⟨_, rfl⟩
    have HP := Lib.hid hP
    have HPC := Lib.hid hp
    have HM := Lib.hid hm
    by_cases hmany : 10 < m
    · have hz := Rf.bcode_m hp (by omega)
      have HD : Hid (r.cV t f n b = false) := Lib.hid (if_neg (by rw [hz]; decide))
      have HZ := Lib.hid hz
      clear hz hP hp hb' hm
      go_enter Tryd.func20, Tryd.ntmps20
      go_wp2_with fail
      refine (CP _ _ p0 p1 HV.out).mono ?_
      rw [show r.pcode t f n true = 0 from by rw [← HPC.out, decide_eq_true hb]]
      rintro e w1 ⟨rfl, b1⟩
      have s0 := brow b1 p0
      have B1 := bnext pB b1 pB.size
      clear b1 p0 p1 pB
      go_wp2_with fail
      refine (l03Wrong_ok w.heap.size c r _ s0 hR ho.1).mono ?_
      rintro e w2 ⟨u, rfl, l2, b2⟩
      obtain ⟨au, cu, rfl⟩ := l2.shape
      rw [← HM.out]
      have B2 := bnext B1 b2 B1.size
      clear b2 l2 s0 B1
      go_wp2_with fail
      go_ret2
      exact ⟨by rw [HD.out, HZ.out]; rfl, B2⟩
    · have hz : r.bcode t f n b = 0 := by unfold Rf.bcode; rw [if_neg (by omega), if_neg (by omega)]
      have HD : Hid (r.cV t f n b = decide (r.aft t f n ≤ b)) := Lib.hid (if_pos hz)
      have HZ := Lib.hid hz
      clear hz hP hp hb' hm
      go_enter Tryd.func20, Tryd.ntmps20
      go_wp2_with fail
      refine (CP _ _ p0 p1 HV.out).mono ?_
      rw [show r.pcode t f n true = 0 from by rw [← HPC.out, decide_eq_true hb]]
      rintro e w1 ⟨rfl, b1⟩
      have s0 := brow b1 p0
      have s1 := brow b1 p1
      have HV1 := Lib.hid (HV.out.below b1 (Nat.le_refl _))
      have B1 := bnext pB b1 pB.size
      clear b1 p0 p1 pB
      go_wp2_with fail
      refine (l03Wrong_ok w.heap.size c r _ s0 hR ho.1).mono ?_
      rintro e w2 ⟨u, rfl, l2, b2⟩
      obtain ⟨au, cu, rfl⟩ := l2.shape
      rw [← HM.out]
      have u0 := brow b2 s0
      have u1 := brow b2 s1
      have HV2 := Lib.hid (HV1.out.below b2 (Nat.le_refl _))
      have B2 := bnext B1 b2 B1.size
      clear b2 l2 s0 s1 B1
      go_wp2_with fail
      refine (l03After_any w.heap.size (w.heap.size + 1) b0 n c d r t f _ _ u0 hR u1 hT ho HV2.out hn HP.out).mono ?_
      rintro e w3 ⟨rfl, b3⟩
      have B3 := bnext B2 b3 B2.size
      clear b3 u0 u1 B2
      go_wp2_with fail
      go_ret2
      exact ⟨by rw [HD.out, HZ.out]; rfl, B3⟩
  · have hz := Rf.bcode_p hp
    have HD : Hid (r.cV t f n b = false) := Lib.hid (if_neg (by rw [hz]; exact hp))
    have HZ := Lib.hid hz
    obtain ⟨q, hq⟩ : ∃ q, q = r.pcode t f n (decide (0 ≤ b)) := ⟨_, rfl⟩
    have hq0 : (q != 0) = true := by rw [hq]; simpa using hp
    have hq1 : (q == 0) = false := by rw [hq]; simpa using hp
    have HQ := Lib.hid hq
    clear hz hp hq
    by_cases hb : 0 ≤ b
    · go_enter Tryd.func20, Tryd.ntmps20
      go_wp2_with fail
      refine (CP _ _ p0 p1 HV.out).mono ?_
      rw [show r.pcode t f n true = q from by rw [HQ.out, decide_eq_true (by omega)]]
      rintro e w1 ⟨rfl, b1⟩
      have B1 := bnext pB b1 pB.size
      clear b1 p0 p1 pB
      go_wp2_with fail
      go_ret2
      exact ⟨by rw [HD.out, HZ.out, ← HQ.out]; rfl, B1⟩
    · go_enter Tryd.func20, Tryd.ntmps20
      go_wp2_with fail
      refine (CP _ _ p0 p1 HV.out).mono ?_
      rw [show r.pcode t f n false = q from by rw [HQ.out, decide_eq_false (by omega)]]
      rintro e w1 ⟨rfl, b1⟩
      have B1 := bnext pB b1 pB.size
      clear b1 p0 p1 pB
      go_wp2_with fail
      go_ret2
      exact ⟨by rw [HD.out, HZ.out, ← HQ.out]; rfl, B1⟩
end Go.Proofs.YtcopdilmkfmpiaaDoor
