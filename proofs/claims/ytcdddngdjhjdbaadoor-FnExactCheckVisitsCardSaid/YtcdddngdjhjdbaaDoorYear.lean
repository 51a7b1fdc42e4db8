/- Chapter 7's refusals: their codes; the check of ages and numbers; the model's. -/
import Derived.Test.YtcdddngdjhjdbaaDoorAsW
import Derived.Test.YtcdddngdjhjdbaaDoorAgeV
import Derived.Test.YtcdddngdjhjdbaaDoorAgeS
import Derived.Test.YtcdddngdjhjdbaaDoorOuts
import Derived.Test.YtcdddngdjhjdbaaDoorGive
namespace Go.Proofs.YtcdddngdjhjdbaaDoor
open Go.RowKit

def bn3 (x lo hi : Int) : Nat → Int := fun i => if i = 0 then x else if i = 1 then lo else hi
theorem IsList.li3 {w : World} {n base cap : Nat} {x lo hi : Int} (hr : rowAt w n = some #[.int .i64 x, .int .i64 lo, .int .i64 hi]) (hb : base ≤ n) : IsList w base (.slice (some ⟨n, 0, none⟩) 1 cap) 3 1 (fun i => .int .i64 (bn3 x lo hi i)) :=
  .inr ⟨n, cap, _, rfl, hb, hr, by simp, fun i hi => by
    have : i = 0 ∨ i = 1 ∨ i = 2 := by omega
    rcases this with rfl | rfl | rfl <;> simp [bn3]⟩
theorem fineB_bn3 (x lo hi : Int) : fineB (bn3 x lo hi) 1 = inB x lo hi := by
  unfold fineB anyI firstI firstI outs outB bn3 inB
  by_cases h1 : x < lo <;> by_cases h2 : hi < x <;> simp [h1, h2] <;> omega
def bn6 (x lo hi y l2 h2 : Int) : Nat → Int := fun i => if i = 0 then x else if i = 1 then lo else if i = 2 then hi else if i = 3 then y else if i = 4 then l2 else h2
theorem IsList.li6 {w : World} {n base cap : Nat} {x lo hi y l2 h2 : Int} (hr : rowAt w n = some #[.int .i64 x, .int .i64 lo, .int .i64 hi, .int .i64 y, .int .i64 l2, .int .i64 h2]) (hb : base ≤ n) : IsList w base (.slice (some ⟨n, 0, none⟩) 2 cap) 3 2 (fun i => .int .i64 (bn6 x lo hi y l2 h2 i)) :=
  .inr ⟨n, cap, _, rfl, hb, hr, by simp, fun i hi => by
    have : i = 0 ∨ i = 1 ∨ i = 2 ∨ i = 3 ∨ i = 4 ∨ i = 5 := by omega
    rcases this with rfl | rfl | rfl | rfl | rfl | rfl <;> simp [bn6]⟩
theorem fineB_bn6 (x lo hi y l2 h2 : Int) : fineB (bn6 x lo hi y l2 h2) 2 = (inB x lo hi && inB y l2 h2) := by
  unfold fineB
  rw [anyI_succ, anyI_succ, anyI_zero, Bool.false_or]
  unfold outs outB bn6 inB
  by_cases a1 : x < lo <;> by_cases a2 : hi < x <;> by_cases a3 : y < l2 <;> by_cases a4 : h2 < y <;> simp [a1, a2, a3, a4] <;> omega
theorem IsList.no3 (w : World) (base : Nat) : IsList w base (.slice none 0 0) 3 0 (fun i => .int .i64 ((fun _ => 0 : Nat → Int) i)) := .inl ⟨rfl, none, 0, rfl⟩
/-- The code of ages and numbers. -/
noncomputable def Rf.ageC (r : Rf) (t : Nat → Int) (fine : Bool) : Int := if r.aok t = true then (if fine = true then 0 else 2) else 1
theorem Rf.ageC_v {r : Rf} {t : Nat → Int} {fine : Bool} (h : ¬ r.Aged t) : r.ageC t fine = 1 := by simp [Rf.ageC, Rf.aok_f h]
theorem Rf.ageC_r {r : Rf} {t : Nat → Int} {fine : Bool} (h : r.Aged t) (hf : fine = false) : r.ageC t fine = 2 := by simp [Rf.ageC, Rf.aok_t h, hf]
theorem Rf.ageC_ok {r : Rf} {t : Nat → Int} {fine : Bool} (h : r.Aged t) (hf : fine = true) : r.ageC t fine = 0 := by simp [Rf.ageC, Rf.aok_t h, hf]

set_option maxHeartbeats 1000000 in
theorem yearCode_V (w : World) (hT : ErrT w) : Calls Tryd.prog 49 #[.iface 133 (.agg #[])] w fun e w' => e = .returned (.int .i64 1) ∧ Below w.heap.size w w' := by
  go_enter Tryd.func49, Tryd.ntmps49
  go_wp2_with fail
  refine gen_callsW fun W hW => ?_
  have B0 : Below w.heap.size w W := by rw [hW]; exact (((Below.refl _ _).alloc (Nat.le_refl _) _).alloc (by simp) _).alloc (by simp; omega) _
  have T0 := hT.below B0
  clear hW
  refine (as_VV _ _ T0).mono ?_
  rintro e w1 ⟨rfl, b1⟩
  have B1 := bnext B0 b1 B0.size
  have T1 := T0.below b1
  clear b1 B0 T0
  go_wp2_with fail
  clear T1
  go_ret
  exact ⟨rfl, B1⟩

set_option maxHeartbeats 1000000 in
theorem yearCode_R (w : World) (hT : ErrT w) : Calls Tryd.prog 49 #[.iface 134 (.agg #[])] w fun e w' => e = .returned (.int .i64 2) ∧ Below w.heap.size w w' := by
  go_enter Tryd.func49, Tryd.ntmps49
  go_wp2_with fail
  refine gen_callsW fun W hW => ?_
  have B0 : Below w.heap.size w W := by rw [hW]; exact (((Below.refl _ _).alloc (Nat.le_refl _) _).alloc (by simp) _).alloc (by simp; omega) _
  have T0 := hT.below B0
  clear hW
  refine (as_RV _ _ T0).mono ?_
  rintro e w1 ⟨rfl, b1⟩
  have B1 := bnext B0 b1 B0.size
  have T1 := T0.below b1
  clear b1 B0 T0
  go_wp2_with fail
  refine (as_RR _ _ T1).mono ?_
  rintro e w2 ⟨rfl, b2⟩
  have B2 := bnext B1 b2 B1.size
  have T2 := T1.below b2
  clear b2 B1 T1
  go_wp2_with fail
  clear T2
  go_ret
  exact ⟨rfl, B2⟩

set_option maxHeartbeats 1000000 in
theorem yearCode_T (w : World) (hT : ErrT w) : Calls Tryd.prog 49 #[.iface 132 (.agg #[])] w fun e w' => e = .returned (.int .i64 6) ∧ Below w.heap.size w w' := by
  go_enter Tryd.func49, Tryd.ntmps49
  go_wp2_with fail
  refine gen_callsW fun W hW => ?_
  have B0 : Below w.heap.size w W := by rw [hW]; exact (((Below.refl _ _).alloc (Nat.le_refl _) _).alloc (by simp) _).alloc (by simp; omega) _
  have T0 := hT.below B0
  clear hW
  refine (as_TV _ _ T0).mono ?_
  rintro e w1 ⟨rfl, b1⟩
  have B1 := bnext B0 b1 B0.size
  have T1 := T0.below b1
  clear b1 B0 T0
  go_wp2_with fail
  refine (as_TR _ _ T1).mono ?_
  rintro e w2 ⟨rfl, b2⟩
  have B2 := bnext B1 b2 B1.size
  have T2 := T1.below b2
  clear b2 B1 T1
  go_wp2_with fail
  refine (as_TL _ _ T2).mono ?_
  rintro e w3 ⟨rfl, b3⟩
  have B3 := bnext B2 b3 B2.size
  have T3 := T2.below b3
  clear b3 B2 T2
  go_wp2_with fail
  clear T3
  go_ret
  exact ⟨rfl, B3⟩

set_option maxHeartbeats 1000000 in
theorem yearCode_L (w : World) (hT : ErrT w) : Calls Tryd.prog 49 #[.iface 135 (.agg #[])] w fun e w' => e = .returned (.int .i64 3) ∧ Below w.heap.size w w' := by
  go_enter Tryd.func49, Tryd.ntmps49
  go_wp2_with fail
  refine gen_callsW fun W hW => ?_
  have B0 : Below w.heap.size w W := by rw [hW]; exact (((Below.refl _ _).alloc (Nat.le_refl _) _).alloc (by simp) _).alloc (by simp; omega) _
  have T0 := hT.below B0
  clear hW
  refine (as_LV _ _ T0).mono ?_
  rintro e w1 ⟨rfl, b1⟩
  have B1 := bnext B0 b1 B0.size
  have T1 := T0.below b1
  clear b1 B0 T0
  go_wp2_with fail
  refine (as_LR _ _ T1).mono ?_
  rintro e w2 ⟨rfl, b2⟩
  have B2 := bnext B1 b2 B1.size
  have T2 := T1.below b2
  clear b2 B1 T1
  go_wp2_with fail
  refine (as_LL _ _ T2).mono ?_
  rintro e w3 ⟨rfl, b3⟩
  have B3 := bnext B2 b3 B2.size
  have T3 := T2.below b3
  clear b3 B2 T2
  go_wp2_with fail
  clear T3
  go_ret
  exact ⟨rfl, B3⟩

set_option maxRecDepth 100000 in
set_option maxHeartbeats 1000000 in
theorem checkAges_v (c d : Array Value) (r : Rf) (t : Nat → Int) (v : Value) (w : World) (hR : IsRoof c r) (hA : IsU8 d 64 t) (h : ¬ r.Aged t) :
    Calls Tryd.prog 54 #[.agg c, .agg d, v] w fun e w' => e = .returned (.iface 133 (.agg #[])) ∧ Below w.heap.size w w' := by
  obtain ⟨p0, p1, pB⟩ := two_boxes w c d 30 32
  have hc := hR.size
  have hd := hA.size
  go_enter Tryd.func54, Tryd.ntmps54
  go_wp2_with fail
  refine (implValidAges_f c d r t _ hR hA h).mono ?_
  rintro e w1 ⟨rfl, b1⟩
  have B1 := bnext pB b1 pB.size
  clear b1 p0 p1 pB
  go_wp2_with fail
  go_ret
  exact ⟨rfl, B1⟩
set_option maxRecDepth 100000 in
set_option maxHeartbeats 1000000 in
theorem checkAges_r (b n : Nat) (c d : Array Value) (r : Rf) (t : Nat → Int) (v : Value) (h : Nat → Int) (w : World) (hR : IsRoof c r) (hA : IsU8 d 64 t) (ha : r.Aged t) (hv : IsList w b v 3 n (fun i => .int .i64 (h i))) (hn : n ≤ 2000000) (hf : fineB h n = false) :
    Calls Tryd.prog 54 #[.agg c, .agg d, v] w fun e w' => e = .returned (.iface 134 (.agg #[])) ∧ Below w.heap.size w w' := by
  obtain ⟨p0, p1, pB⟩ := two_boxes w c d 30 32
  have hc := hR.size
  have hd := hA.size
  have HV := Lib.hid hv
  have hany : anyI (outs h) n = true := by simpa [fineB] using hf
  have HO := fun W H => hasOut_any b n v h W H hn
  rw [hany] at HO
  clear hany hf hv
  go_enter Tryd.func54, Tryd.ntmps54
  go_wp2_with fail
  refine (implValidAges_t c d r t _ hR hA ha).mono ?_
  rintro e w1 ⟨rfl, b1⟩
  have B1 := bnext pB b1 pB.size
  clear b1 p0 p1 pB
  go_wp2_with fail
  refine (HO _ (HV.out.below B1 (Nat.le_refl _))).mono ?_
  rintro e w2 ⟨rfl, b2⟩
  have B2 := bnext B1 b2 B1.size
  clear b2 B1 HO
  go_wp2_with fail
  go_ret
  exact ⟨rfl, B2⟩
set_option maxRecDepth 100000 in
set_option maxHeartbeats 1000000 in
theorem checkAges_ok (b n : Nat) (c d : Array Value) (r : Rf) (t : Nat → Int) (v : Value) (h : Nat → Int) (w : World) (hR : IsRoof c r) (hA : IsU8 d 64 t) (ha : r.Aged t) (hv : IsList w b v 3 n (fun i => .int .i64 (h i))) (hn : n ≤ 2000000) (hf : fineB h n = true) :
    Calls Tryd.prog 54 #[.agg c, .agg d, v] w fun e w' => e = .returned .nilIface ∧ Below w.heap.size w w' := by
  obtain ⟨p0, p1, pB⟩ := two_boxes w c d 30 32
  have hc := hR.size
  have hd := hA.size
  have HV := Lib.hid hv
  have hany : anyI (outs h) n = false := by simpa [fineB] using hf
  have HO := fun W H => hasOut_any b n v h W H hn
  rw [hany] at HO
  clear hany hf hv
  go_enter Tryd.func54, Tryd.ntmps54
  go_wp2_with fail
  refine (implValidAges_t c d r t _ hR hA ha).mono ?_
  rintro e w1 ⟨rfl, b1⟩
  have B1 := bnext pB b1 pB.size
  clear b1 p0 p1 pB
  go_wp2_with fail
  refine (HO _ (HV.out.below B1 (Nat.le_refl _))).mono ?_
  rintro e w2 ⟨rfl, b2⟩
  have B2 := bnext B1 b2 B1.size
  clear b2 B1 HO
  go_wp2_with fail
  go_ret
  exact ⟨rfl, B2⟩

set_option maxHeartbeats 1000000 in
theorem lived_any (x : Int) (w : World) : Calls Tryd.prog 55 #[.int .i64 x] w fun e w' => e = .returned (.agg #[.int .i64 x, .int .i64 1, .int .i64 100]) ∧ Below w.heap.size w w' := by
  go_enter Tryd.func55, Tryd.ntmps55
  go_wp2_with fail
  exact bodyPost_ret (v := .agg #[.int .i64 x, .int .i64 1, .int .i64 100]) (by simp [results, Tryd.results55, go_sem]) rfl ⟨rfl, (Below.refl _ _).alloc (Nat.le_refl _) _⟩

set_option maxHeartbeats 1000000 in
theorem gone_any (x : Int) (w : World) : Calls Tryd.prog 56 #[.int .i64 x] w fun e w' => e = .returned (.agg #[.int .i64 x, .int .i64 0, .int .i64 200]) ∧ Below w.heap.size w w' := by
  go_enter Tryd.func56, Tryd.ntmps56
  go_wp2_with fail
  exact bodyPost_ret (v := .agg #[.int .i64 x, .int .i64 0, .int .i64 200]) (by simp [results, Tryd.results56, go_sem]) rfl ⟨rfl, (Below.refl _ _).alloc (Nat.le_refl _) _⟩
theorem l07Life_any (k : Int) (w : World) :
    Calls Tryd.prog 41 #[.int .i64 k] w fun e w' => e = .returned (.bool (inB k 1 100)) ∧ w = w' := by
  go_enter Tryd.func41, Tryd.ntmps41
  go_wp2_with fail
  refine (l00In_any _ _ _ _).mono ?_
  rintro e w' ⟨rfl, rfl⟩
  go_wp2
  go_ret
  exact ⟨rfl, rfl⟩
theorem l07Years_any (k : Int) (w : World) :
    Calls Tryd.prog 42 #[.int .i64 k] w fun e w' => e = .returned (.bool (inB k 0 200)) ∧ w = w' := by
  go_enter Tryd.func42, Tryd.ntmps42
  go_wp2_with fail
  refine (l00In_any _ _ _ _).mono ?_
  rintro e w' ⟨rfl, rfl⟩
  go_wp2
  go_ret
  exact ⟨rfl, rfl⟩

set_option maxHeartbeats 1000000 in
theorem l07Asked_any (n p : Nat) (c d : Array Value) (r : Rf) (t : Nat → Int) (fine : Bool) (w : World) (hr : rowAt w n = some c) (hR : IsRoof c r) (hp : rowAt w p = some d) (hA : IsU8 d 64 t) :
    Calls Tryd.prog 40 #[.pointer (some ⟨n, 0, none⟩), .pointer (some ⟨p, 0, none⟩), .bool fine] w fun e w' => e = .returned (.int .i64 (r.ageC t fine)) ∧ Below w.heap.size w w' := by
  by_cases h : r.Aged t
  · cases fine with
    | true =>
      rw [Rf.ageC_ok h rfl]
      go_enter Tryd.func40, Tryd.ntmps40
      go_wp2_with fail
      refine (l07Ages_t n p c d r t _ hr hR hp hA h).mono ?_
      rintro e w1 ⟨rfl, b1⟩
      go_wp2_with fail
      go_ret
      exact ⟨rfl, b1⟩
    | false =>
      rw [Rf.ageC_r h rfl]
      go_enter Tryd.func40, Tryd.ntmps40
      go_wp2_with fail
      refine (l07Ages_t n p c d r t _ hr hR hp hA h).mono ?_
      rintro e w1 ⟨rfl, b1⟩
      go_wp2_with fail
      go_ret
      exact ⟨rfl, b1⟩
  · rw [Rf.ageC_v h]
    go_enter Tryd.func40, Tryd.ntmps40
    go_wp2_with fail
    refine (l07Ages_f n p c d r t _ hr hR hp hA h).mono ?_
    rintro e w1 ⟨rfl, b1⟩
    go_wp2_with fail
    go_ret
    exact ⟨rfl, b1⟩
def maxI (a b : Int) : Int := if b < a then a else b
end Go.Proofs.YtcdddngdjhjdbaaDoor
