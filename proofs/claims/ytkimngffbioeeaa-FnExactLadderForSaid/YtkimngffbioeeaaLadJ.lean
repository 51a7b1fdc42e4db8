/- CanReach, LadderFor: the program's two functions. -/
import Derived.Test.YtkimngffbioeeaaLadI
namespace Go.Proofs.Ytkimngffbioeeaa
open Go.RowKit

set_option maxRecDepth 100000 in
set_option maxHeartbeats 1000000 in
theorem implCanReach_any (c : Array Value) (r : Rf) (B1 m : Nat) (g : Nat → Int) (u1 : Option Addr) (y : Int) (B2 n : Nat) (f : Nat → Int) (u2 : Option Addr) (w : World) (hR : IsRoof c r)
    (hv1 : IsList w B1 (.slice u1 m m) 1 m (fun i => .int .i64 (g i))) (hm : m ≤ 2000000) (_hg : ∀ i, i < m → -9223372036854775808 ≤ g i ∧ g i ≤ 9223372036854775807)
    (hv2 : IsList w B2 (.slice u2 n n) 2 n (fun i => .int .i8 (f i))) (hn : n ≤ 2000000) (_hf : ∀ i, i < n * 2 → -128 ≤ f i ∧ f i ≤ 127) :
    Calls Try.prog 25 #[.agg c, .slice u1 m m, .int .i64 y, .slice u2 n n] w fun e w' => e = .returned (.tuple #[.bool (r.canV g m f n y), .int .i64 (r.lcode g m f n y)]) ∧ Below w.heap.size w w' := by
  have hc := hR.size
  have p0 := rowAt_alloc_at w c 30 w.heap.size rfl
  have pB : Below w.heap.size w (w.alloc (.cells c 30)) := (Below.refl _ _).alloc (Nat.le_refl _) _
  have HV1 := Lib.hid (hv1.below pB (Nat.le_refl _)).nums
  have HV2 := Lib.hid (hv2.below pB (Nat.le_refl _))
  have CL := fun W H1 H2 => checkLadders_any B2 m n c r g f (.slice u1 m m) (.slice u2 n n) y W hR H1 hm H2 hn
  rw [show r.wcode g m f n (inB y 0 8) = r.lcode g m f n y from rfl] at CL
  have PB := Lib.hid pB
  clear hv1 hv2 pB
  by_cases hk : r.lcode g m f n y = 0
  · have hb : (r.lcode g m f n y != 0) = false := by simp [hk]
    obtain ⟨ho, hy, _, hp, _, hn8⟩ := Rf.lcode_in hk
    have hV : r.canV g m f n y = !(anyI (r.miss y g m f) n) := if_pos hk
    rw [hV]
    have HK := Lib.hid hk
    have CF := fun W H1 H2 => laddersFor_any B2 m n c r g f (.slice u1 m m) (.slice u2 n n) y W hR ho H1 hm H2 hn hp hy
    have CC := fun W v H => containsI_any (-1) v n (r.lad y g m f) W H hn
    simp only [Rf.any_miss] at CC
    generalize (anyI (r.miss y g m f) n) = z at *
    clear hk hp hV
    go_enter Try.func25, Try.ntmps25
    go_wp2_with fail
    refine (CL _ HV1.out HV2.out).mono ?_
    rintro e w1 ⟨rfl, b1⟩
    have q0 := brow b1 p0
    have q1 := Lib.hid (HV1.out.below b1 (Nat.le_refl _))
    have q2 := Lib.hid (HV2.out.below b1 (Nat.le_refl _))
    have B1 := Lib.hid (bnext PB.out b1 PB.out.size)
    clear b1 p0 CL
    go_wp2_with fail
    refine (CF _ q1.out q2.out).mono ?_
    rintro e w2 ⟨a, rfl, l2, b2⟩
    have B2 := Lib.hid (bnext B1.out b2 B1.out.size)
    have L2 := Lib.hid l2.nums
    clear b2 q0 l2 CF
    go_wp2_with fail
    refine (CC _ _ L2.out).mono ?_
    rintro e w3 ⟨rfl, b3⟩
    have B3 := Lib.hid (bnext B2.out b3 B2.out.size)
    clear b3
    go_wp2_with fail
    go_ret2
    exact ⟨by rw [HK.out]; rfl, B3.out⟩
  · have hb : (r.lcode g m f n y != 0) = true := by simp [hk]
    have hV : r.canV g m f n y = false := if_neg hk
    rw [hV]
    clear hk hV
    go_enter Try.func25, Try.ntmps25
    go_wp2_with fail
    refine (CL _ HV1.out HV2.out).mono ?_
    rintro e w1 ⟨rfl, b1⟩
    have B1 := Lib.hid (bnext PB.out b1 PB.out.size)
    clear b1 p0
    go_wp2_with fail
    go_ret2
    exact ⟨rfl, B1.out⟩

set_option maxRecDepth 100000 in
set_option maxHeartbeats 1000000 in
theorem implLadderFor_any (c : Array Value) (r : Rf) (B1 m : Nat) (g : Nat → Int) (u1 : Option Addr) (y : Int) (B2 n : Nat) (f : Nat → Int) (u2 : Option Addr) (w : World) (hR : IsRoof c r)
    (hv1 : IsList w B1 (.slice u1 m m) 1 m (fun i => .int .i64 (g i))) (hm : m ≤ 2000000) (_hg : ∀ i, i < m → -9223372036854775808 ≤ g i ∧ g i ≤ 9223372036854775807)
    (hv2 : IsList w B2 (.slice u2 n n) 2 n (fun i => .int .i8 (f i))) (hn : n ≤ 2000000) (_hf : ∀ i, i < n * 2 → -128 ≤ f i ∧ f i ≤ 127) :
    Calls Try.prog 28 #[.agg c, .slice u1 m m, .int .i64 y, .slice u2 n n] w (GivesT w 1 .i64 (r.ladN g m f n y) (r.lad y g m f) [.int .i64 (r.ladC g m f n y)]) := by
  have hc := hR.size
  have p0 := rowAt_alloc_at w c 30 w.heap.size rfl
  have pB : Below w.heap.size w (w.alloc (.cells c 30)) := (Below.refl _ _).alloc (Nat.le_refl _) _
  have HV1 := Lib.hid (hv1.below pB (Nat.le_refl _)).nums
  have HV2 := Lib.hid (hv2.below pB (Nat.le_refl _))
  have CL := fun W H1 H2 => checkLadders_any B2 m n c r g f (.slice u1 m m) (.slice u2 n n) y W hR H1 hm H2 hn
  rw [show r.wcode g m f n (inB y 0 8) = r.lcode g m f n y from rfl] at CL
  have PB := Lib.hid pB
  clear hv1 hv2 pB
  by_cases hk : r.lcode g m f n y = 0
  · have hb : (r.lcode g m f n y != 0) = false := by simp [hk]
    obtain ⟨ho, hy, _, hp, _, hn8⟩ := Rf.lcode_in hk
    have CF := fun W H1 H2 => laddersFor_any B2 m n c r g f (.slice u1 m m) (.slice u2 n n) y W hR ho H1 hm H2 hn hp hy
    have CC := fun W v H => containsI_any (-1) v n (r.lad y g m f) W H hn
    simp only [Rf.any_miss] at CC
    cases hz : anyI (r.miss y g m f) n with
    | true =>
      rw [hz] at CC
      have HC : Hid (r.ladC g m f n y = 6) := Lib.hid (by unfold Rf.ladC; rw [if_pos hk, hz]; rfl)
      have HN : Hid (r.ladN g m f n y = 0) := Lib.hid (by unfold Rf.ladN; rw [HC.out]; rfl)
      clear hk hp hz
      go_enter Try.func28, Try.ntmps28
      go_wp2_with fail
      refine (CL _ HV1.out HV2.out).mono ?_
      rintro e w1 ⟨rfl, b1⟩
      have q0 := brow b1 p0
      have q1 := Lib.hid (HV1.out.below b1 (Nat.le_refl _))
      have q2 := Lib.hid (HV2.out.below b1 (Nat.le_refl _))
      have B1 := Lib.hid (bnext PB.out b1 PB.out.size)
      clear b1 p0 CL
      go_wp2_with fail
      refine (CF _ q1.out q2.out).mono ?_
      rintro e w2 ⟨a, rfl, l2, b2⟩
      have B2 := Lib.hid (bnext B1.out b2 B1.out.size)
      have L2 := Lib.hid l2.nums
      clear b2 q0 l2 CF
      go_wp2_with fail
      refine (CC _ _ L2.out).mono ?_
      rintro e w3 ⟨rfl, b3⟩
      have B3 := Lib.hid (bnext B2.out b3 B2.out.size)
      clear b3
      go_wp2_with fail
      go_ret2
      rw [HC.out, HN.out]
      exact ⟨_, rfl, .inl ⟨rfl, _, _, rfl⟩, B3.out⟩
    | false =>
      rw [hz] at CC
      have HC : Hid (r.ladC g m f n y = 0) := Lib.hid (by unfold Rf.ladC; rw [if_pos hk, hz]; rfl)
      have HN : Hid (r.ladN g m f n y = n) := Lib.hid (by unfold Rf.ladN; rw [HC.out]; rfl)
      clear hk hp hz
      go_enter Try.func28, Try.ntmps28
      go_wp2_with fail
      refine (CL _ HV1.out HV2.out).mono ?_
      rintro e w1 ⟨rfl, b1⟩
      have q0 := brow b1 p0
      have q1 := Lib.hid (HV1.out.below b1 (Nat.le_refl _))
      have q2 := Lib.hid (HV2.out.below b1 (Nat.le_refl _))
      have B1 := Lib.hid (bnext PB.out b1 PB.out.size)
      clear b1 p0 CL
      go_wp2_with fail
      refine (CF _ q1.out q2.out).mono ?_
      rintro e w2 ⟨a, rfl, l2, b2⟩
      have B2 := Lib.hid (bnext B1.out b2 B1.out.size)
      have L2 := Lib.hid l2.nums
      have L2' := Lib.hid (l2.mono B1.out.size)
      clear b2 q0 l2 CF
      go_wp2_with fail
      refine (CC _ _ L2.out).mono ?_
      rintro e w3 ⟨rfl, b3⟩
      have B3 := Lib.hid (bnext B2.out b3 B2.out.size)
      have L3 := Lib.hid (L2'.out.below b3 (Nat.le_refl _))
      clear b3
      go_wp2_with fail
      go_ret2
      rw [HC.out, HN.out]
      exact ⟨_, rfl, L3.out, B3.out⟩
  · have hb : (r.lcode g m f n y != 0) = true := by simp [hk]
    have HC : Hid (r.ladC g m f n y = r.lcode g m f n y) := Lib.hid (if_neg hk)
    have HN : Hid (r.ladN g m f n y = 0) := Lib.hid (by unfold Rf.ladN; rw [if_neg (by rw [HC.out]; exact hk)])
    clear hk
    go_enter Try.func28, Try.ntmps28
    go_wp2_with fail
    refine (CL _ HV1.out HV2.out).mono ?_
    rintro e w1 ⟨rfl, b1⟩
    have B1 := Lib.hid (bnext PB.out b1 PB.out.size)
    clear b1 p0
    go_wp2_with fail
    go_ret2
    rw [HC.out, HN.out]
    exact ⟨_, rfl, .inl ⟨rfl, _, _, rfl⟩, B1.out⟩
end Go.Proofs.Ytkimngffbioeeaa
