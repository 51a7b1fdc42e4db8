/- JobTime: contracts of both sides. -/
import Derived.Test.YtkimngffbioeeaaClimbF
import Derived.Test.YtkimngffbioeeaaLifted
namespace Go.Proofs.Ytkimngffbioeeaa
open Go.RowKit

/-- Two numbers and their bounds. -/
def bnd6 (x lo hi y l2 h2 : Int) : Nat → Int := fun i => if i = 0 then x else if i = 1 then lo else if i = 2 then hi else if i = 3 then y else if i = 4 then l2 else h2
theorem IsList.lit6 {w : World} {n base cap : Nat} {x lo hi y l2 h2 : Int} (hr : rowAt w n = some #[.int .i64 x, .int .i64 lo, .int .i64 hi, .int .i64 y, .int .i64 l2, .int .i64 h2]) (hb : base ≤ n) : IsList w base (.slice (some ⟨n, 0, none⟩) 2 cap) 3 2 (fun i => .int .i64 (bnd6 x lo hi y l2 h2 i)) :=
  .inr ⟨n, cap, _, rfl, hb, hr, by simp, fun i hi => by
    have : i = 0 ∨ i = 1 ∨ i = 2 ∨ i = 3 ∨ i = 4 ∨ i = 5 := by omega
    rcases this with rfl | rfl | rfl | rfl | rfl | rfl <;> simp [bnd6]⟩
theorem fineB_bnd6 (x lo hi y l2 h2 : Int) : fineB (bnd6 x lo hi y l2 h2) 2 = (inB x lo hi && inB y l2 h2) := by
  unfold fineB
  rw [anyI_succ, anyI_succ, anyI_zero, Bool.false_or]
  unfold outs outB bnd6 inB
  by_cases h1 : x < lo <;> by_cases h2' : hi < x <;> by_cases h3 : y < l2 <;> by_cases h4 : h2 < y <;> simp [h1, h2', h3, h4] <;> omega

/-- How long the list takes, and the code. -/
noncomputable def Rf.jobC (r : Rf) (f : Nat → Int) (n : Nat) (y z : Int) : Int := r.ocode f n (inB y 1 20 && inB z 0 1000)
noncomputable def Rf.jobV (r : Rf) (f : Nat → Int) (n : Nat) (y z : Int) : Int := if r.jobC f n y z = 0 then tot r.h f y.toNat n + z * n + r.lifted f n else 0
theorem Rf.job_in {r : Rf} {f : Nat → Int} {n : Nat} {y z : Int} (h : r.jobC f n y z = 0) : r.Ok ∧ (1 ≤ y ∧ y ≤ 20) ∧ (0 ≤ z ∧ z ≤ 1000) ∧ r.okP f n ∧ n ≤ 8 := by
  obtain ⟨ho, hf, hp, hn, _⟩ := Rf.ocode_zero h
  rw [Bool.and_eq_true] at hf
  exact ⟨ho, by simpa [inB] using hf.1, by simpa [inB] using hf.2, hp, hn⟩

theorem l04Each_any (y : Int) (w : World) :
    Calls Try.prog 90 #[.int .i64 y] w fun e w' => e = .returned (.bool (inB y 0 1000)) ∧ w = w' := by
  go_enter Try.func90, Try.ntmps90
  go_wp2_with fail
  refine (l00In_any _ _ _ _).mono ?_
  rintro e w' ⟨rfl, rfl⟩
  go_wp2
  go_ret
  exact ⟨rfl, rfl⟩

set_option maxRecDepth 100000 in
set_option maxHeartbeats 2000000 in
theorem specJobTime_any (c : Array Value) (r : Rf) (B n : Nat) (f : Nat → Int) (u : Option Addr) (y z : Int) (w : World) (hR : IsRoof c r) (hv : IsList w B (.slice u n n) 2 n (fun i => .int .i8 (f i))) (hn : n ≤ 2000000) (hf : ∀ i, i < n * 2 → -128 ≤ f i ∧ f i ≤ 127) :
    Calls Try.prog 47 #[.agg c, .slice u n n, .int .i64 y, .int .i64 z] w fun e w' => e = .returned (.tuple #[.int .i64 (r.jobV f n y z), .int .i64 (r.jobC f n y z)]) ∧ Below w.heap.size w w' := by
  have hc := hR.size
  have PB := Lib.hid (show Below w.heap.size w (w.alloc (.cells c 30)) from (Below.refl _ _).alloc (Nat.le_refl _) _)
  have P0 := Lib.hid (rowAt_alloc_at w c 30 w.heap.size rfl)
  have HV := Lib.hid (hv.below PB.out (Nat.le_refl _))
  have CO := fun W h H => l04Once_any w.heap.size B n c r f u (inB y 1 20 && inB z 0 1000) W h hR H hn hf
  rw [show r.ocode f n (inB y 1 20 && inB z 0 1000) = r.jobC f n y z from rfl] at CO
  clear hv
  by_cases hk : r.jobC f n y z = 0
  · have hb1 : (r.jobC f n y z != 0) = false := by simp [hk]
    have hV : r.jobV f n y z = tot r.h f y.toNat n + z * n + r.lifted f n := by unfold Rf.jobV; rw [if_pos hk]
    obtain ⟨ho, hy, hz, hp, hn8⟩ := Rf.job_in hk
    have HP := Lib.hid hp
    have HK := Lib.hid hk
    obtain ⟨s, rfl⟩ : ∃ s : Nat, y = s := ⟨y.toNat, by omega⟩
    have hs : 1 ≤ s ∧ s ≤ 20 := by omega
    have hyb : inB (s : Int) 1 20 = true := by unfold inB; exact decide_eq_true hy
    rw [hV, Int.toNat_natCast]
    clear hk hV hp
    have hn0 : (0 : Int) ≤ n := by omega
    have m0 : 0 ≤ z * n := Int.mul_nonneg hz.1 hn0
    have m1 : z * n ≤ 1000 * 8 := Int.mul_le_mul hz.2 (by omega) hn0 (by omega)
    have t0 := tot_bd (y := s) (Rf.climb_bd ho HP.out)
    have l0 := r.lifted_bd f n
    have k1 : IntKind.i64.wrap (z * n) = z * n := IntWalk.i64_in _ (by omega)
    have k2 : IntKind.i64.wrap (tot r.h f s n + z * n) = tot r.h f s n + z * n := IntWalk.i64_in _ (by omega)
    have k3 : IntKind.i64.wrap (tot r.h f s n + z * n + r.lifted f n) = tot r.h f s n + z * n + r.lifted f n := IntWalk.i64_in _ (by omega)
    clear m0 m1 t0 l0
    simp only [hyb, Bool.true_and] at CO
    go_enter Try.func47, Try.ntmps47
    go_wp2_with fail
    refine (l04Carry_any (s : Int) _).mono ?_
    rintro e w1 ⟨rfl, rfl⟩
    go_wp2_with fail
    refine (l04Each_any z _).mono ?_
    rintro e w1 ⟨rfl, rfl⟩
    go_wp2_with fail
    refine (CO _ P0.out HV.out).mono ?_
    rintro e w1 ⟨rfl, b1⟩
    have PB1 := Lib.hid (bnext PB.out b1 PB.out.size)
    have P1 := Lib.hid (brow b1 P0.out)
    have HV1 := Lib.hid (HV.out.below b1 (Nat.le_refl _))
    clear b1 CO
    go_wp2_with fail
    refine (l04Climbs_any w.heap.size B n s c r f u _ P1.out hR ho HV1.out hn8 HP.out hs).mono ?_
    rintro e w2 ⟨rfl, b2⟩
    have PB2 := Lib.hid (bnext PB1.out b2 PB1.out.size)
    have P2 := Lib.hid (brow b2 P1.out)
    have HV2 := Lib.hid (HV1.out.below b2 (Nat.le_refl _))
    clear b2
    go_wp2_with fail
    refine (l04Lifted_any w.heap.size B n c r f u _ P2.out hR ho HV2.out hn HP.out).mono ?_
    rintro e w3 ⟨rfl, b3⟩
    have PB3 := Lib.hid (bnext PB2.out b3 PB2.out.size)
    clear b3
    go_wp2_with fail
    go_ret2
    exact ⟨by simp [HK.out], PB3.out⟩
  · by_cases hyb : inB y 1 20 = true
    · have hb1 : (r.jobC f n y z != 0) = true := by simp [hk]
      have hV : r.jobV f n y z = 0 := by unfold Rf.jobV; rw [if_neg hk]
      rw [hV]
      clear hk hV
      simp only [hyb, Bool.true_and] at CO
      go_enter Try.func47, Try.ntmps47
      go_wp2_with fail
      refine (l04Carry_any y _).mono ?_
      rintro e w1 ⟨rfl, rfl⟩
      go_wp2_with fail
      refine (l04Each_any z _).mono ?_
      rintro e w1 ⟨rfl, rfl⟩
      go_wp2_with fail
      refine (CO _ P0.out HV.out).mono ?_
      rintro e w1 ⟨rfl, b1⟩
      have PB1 := Lib.hid (bnext PB.out b1 PB.out.size)
      have P1 := Lib.hid (brow b1 P0.out)
      have HV1 := Lib.hid (HV.out.below b1 (Nat.le_refl _))
      clear b1 CO
      go_wp2_with fail
      go_ret2
      exact ⟨rfl, PB1.out⟩
    · rw [Bool.not_eq_true] at hyb
      have hb1 : (r.jobC f n y z != 0) = true := by simp [hk]
      have hV : r.jobV f n y z = 0 := by unfold Rf.jobV; rw [if_neg hk]
      rw [hV]
      clear hk hV
      simp only [hyb, Bool.false_and] at CO
      go_enter Try.func47, Try.ntmps47
      go_wp2_with fail
      refine (l04Carry_any y _).mono ?_
      rintro e w1 ⟨rfl, rfl⟩
      go_wp2_with fail
      refine (CO _ P0.out HV.out).mono ?_
      rintro e w1 ⟨rfl, b1⟩
      have PB1 := Lib.hid (bnext PB.out b1 PB.out.size)
      have P1 := Lib.hid (brow b1 P0.out)
      have HV1 := Lib.hid (HV.out.below b1 (Nat.le_refl _))
      clear b1 CO
      go_wp2_with fail
      go_ret2
      exact ⟨rfl, PB1.out⟩

set_option maxRecDepth 100000 in
set_option maxHeartbeats 2000000 in
theorem implJobTime_any (c : Array Value) (r : Rf) (B n : Nat) (f : Nat → Int) (u : Option Addr) (y z : Int) (w : World) (hR : IsRoof c r) (hv : IsList w B (.slice u n n) 2 n (fun i => .int .i8 (f i))) (hn : n ≤ 2000000) (hf : ∀ i, i < n * 2 → -128 ≤ f i ∧ f i ≤ 127) :
    Calls Try.prog 48 #[.agg c, .slice u n n, .int .i64 y, .int .i64 z] w fun e w' => e = .returned (.tuple #[.int .i64 (r.jobV f n y z), .int .i64 (r.jobC f n y z)]) ∧ Below w.heap.size w w' := by
  have hc := hR.size
  have HV := Lib.hid hv
  clear hv
  have p0 := rowAt_alloc_at w c 30 w.heap.size rfl
  have CW := fun W B' k H2 H3 => checkOrder_any B B' n 2 c r f (bnd6 y 1 20 z 0 1000) (.slice u n n) (.slice (some ⟨k, 0, none⟩) 2 2) W hR H2 hn hf H3 (by omega)
  rw [fineB_bnd6, show r.ocode f n (inB y 1 20 && inB z 0 1000) = r.jobC f n y z from rfl] at CW
  by_cases hk : r.jobC f n y z = 0
  · have hb1 : (r.jobC f n y z != 0) = false := by simp [hk]
    have hV : r.jobV f n y z = tot r.h f y.toNat n + z * n + r.lifted f n := by unfold Rf.jobV; rw [if_pos hk]
    obtain ⟨ho, hy, hz, hp, hn8⟩ := Rf.job_in hk
    have HP := Lib.hid hp
    have HK := Lib.hid hk
    obtain ⟨s, rfl⟩ : ∃ s : Nat, y = s := ⟨y.toNat, by omega⟩
    have hs : 1 ≤ s ∧ s ≤ 20 := by omega
    have hyb : inB (s : Int) 1 20 = true := by unfold inB; exact decide_eq_true hy
    rw [hV, Int.toNat_natCast]
    clear hk hV hp
    have hn0 : (0 : Int) ≤ n := by omega
    have m0 : 0 ≤ z * n := Int.mul_nonneg hz.1 hn0
    have m1 : z * n ≤ 1000 * 8 := Int.mul_le_mul hz.2 (by omega) hn0 (by omega)
    have t0 := tot_bd (y := s) (Rf.climb_bd ho HP.out)
    have l0 := r.lifted_bd f n
    have k1 : IntKind.i64.wrap (z * n) = z * n := IntWalk.i64_in _ (by omega)
    have k2 : IntKind.i64.wrap (tot r.h f s n + z * n) = tot r.h f s n + z * n := IntWalk.i64_in _ (by omega)
    have k3 : IntKind.i64.wrap (tot r.h f s n + z * n + r.lifted f n) = tot r.h f s n + z * n + r.lifted f n := IntWalk.i64_in _ (by omega)
    clear m0 m1 t0 l0
    go_enter Try.func48, Try.ntmps48
    go_wp2_with fail
    refine gen_world fun W hW => ?_
    have P0 : Hid (rowAt W w.heap.size = some c) := Lib.hid (by rw [hW]; exact p0)
    have PB : Hid (Below w.heap.size w W) := Lib.hid (by rw [hW]; exact (Below.refl _ _).alloc (Nat.le_refl _) _)
    clear hW p0
    refine wp_region_held_drew (S := fun w' => Below W.heap.size W w') (by kernel_rfl) ((Below.refl _ _).drew) (fun hH => ?_)
    refine wpAnyH_take (i := 0) (v := .agg c) rfl (by kernel_rfl) (by kernel_rfl) (by kernel_rfl) (fun _ _ _ h => h) (Or.inl ⟨by rfl, ?_⟩) hH ?_
    · intro w1 hS; (try dsimp only at hS); have s0 := brow hS P0.out; go_simp
    (try simp only [List.getElem_toArray]); (try simp only [List.getElem_cons_succ]); (try simp only [List.getElem_cons_zero]); (try simp only [Act.put]); (try simp only [List.setIfInBounds_toArray]); (try simp only [List.set_cons_succ]); (try simp only [List.set_cons_zero])
    refine wpAnyH_take (i := 1) (v := .slice u n n) rfl (by kernel_rfl) (by kernel_rfl) (by kernel_rfl) (fun _ _ _ h => h) (Or.inl ⟨by rfl, ?_⟩) hH ?_
    · intro w1 hS; (try dsimp only at hS); go_simp
    (try simp only [List.getElem_toArray]); (try simp only [List.getElem_cons_succ]); (try simp only [List.getElem_cons_zero]); (try simp only [Act.put]); (try simp only [List.setIfInBounds_toArray]); (try simp only [List.set_cons_succ]); (try simp only [List.set_cons_zero])
    refine wpAnyH_take (i := 2) (v := .int .i64 (s : Int)) rfl (by kernel_rfl) (by kernel_rfl) (by kernel_rfl) (fun _ _ _ h => h) (Or.inl ⟨by rfl, ?_⟩) hH ?_
    · intro w1 hS; (try dsimp only at hS); go_simp
    (try simp only [List.getElem_toArray]); (try simp only [List.getElem_cons_succ]); (try simp only [List.getElem_cons_zero]); (try simp only [Act.put]); (try simp only [List.setIfInBounds_toArray]); (try simp only [List.set_cons_succ]); (try simp only [List.set_cons_zero])
    refine wpAnyH_take (i := 4) (v := .int .i64 z) rfl (by kernel_rfl) (by kernel_rfl) (by kernel_rfl) (fun _ _ _ h => h) (Or.inl ⟨by rfl, ?_⟩) hH ?_
    · intro w1 hS; (try dsimp only at hS); go_simp
    (try simp only [List.getElem_toArray]); (try simp only [List.getElem_cons_succ]); (try simp only [List.getElem_cons_zero]); (try simp only [Act.put]); (try simp only [List.setIfInBounds_toArray]); (try simp only [List.set_cons_succ]); (try simp only [List.set_cons_zero])
    refine wpAnyH_take (i := 5) (v := .agg #[.int .i64 z, .int .i64 0, .int .i64 1000]) rfl (by kernel_rfl) (by kernel_rfl) (by kernel_rfl) (fun _ _ _ h => h) (Or.inl ⟨by rfl, ?_⟩) hH ?_
    · intro w1 hS; (try dsimp only at hS); go_simp
    (try simp only [List.getElem_toArray]); (try simp only [List.getElem_cons_succ]); (try simp only [List.getElem_cons_zero]); (try simp only [Act.put]); (try simp only [List.setIfInBounds_toArray]); (try simp only [List.set_cons_succ]); (try simp only [List.set_cons_zero])
    refine wpAnyH_ready (rs := [3]) (by kernel_rfl) (by simp) (AllReadyH.cons rfl (fun K hK => ?_) AllReadyH.nil)
    go_simp
    refine (carried_any (s : Int) _).mono ?_
    rintro x wx ⟨rfl, bx⟩
    go_simp
    refine hK.out _ _ (bnext hH bx hH.size) (fun hG => ?_)
    clear hK K hH bx
    replace hH := hG
    clear hG
    (try simp only [List.getElem_toArray]); (try simp only [List.getElem_cons_succ]); (try simp only [List.getElem_cons_zero]); (try simp only [Act.put]); (try simp only [List.setIfInBounds_toArray]); (try simp only [List.set_cons_succ]); (try simp only [List.set_cons_zero])
    refine wpAnyH_ready (rs := [6]) (by kernel_rfl) (by simp) (AllReadyH.cons rfl (fun K hK => ?_) AllReadyH.nil)
    go_simp
    refine hK.out _ _ (hH.alloc hH.size _) (fun hG => ?_)
    clear hK K hH
    replace hH := hG
    clear hG
    (try simp only [List.getElem_toArray]); (try simp only [List.getElem_cons_succ]); (try simp only [List.getElem_cons_zero]); (try simp only [Act.put]); (try simp only [List.setIfInBounds_toArray]); (try simp only [List.set_cons_succ]); (try simp only [List.set_cons_zero])
    refine wpAnyH_ready (rs := [7]) (by kernel_rfl) (by simp) (AllReadyH.cons rfl (fun K hK => ?_) AllReadyH.nil)
    go_simp
    refine (CW _ 0 _ (HV.out.below (bnext PB.out hH PB.out.size) (Nat.le_refl _)) (IsList.lit6 (rowAt_alloc_at _ _ _ _ rfl) (Nat.zero_le _))).mono ?_
    rintro x wx ⟨rfl, bx⟩
    go_simp
    refine hK.out _ _ (bnext hH bx hH.size) (fun hG => ?_)
    clear hK K hH bx
    replace hH := hG
    clear hG
    (try simp only [List.getElem_toArray]); (try simp only [List.getElem_cons_succ]); (try simp only [List.getElem_cons_zero]); (try simp only [Act.put]); (try simp only [List.setIfInBounds_toArray]); (try simp only [List.set_cons_succ]); (try simp only [List.set_cons_zero])
    refine wpAnyH_take (i := 8) (v := .int .i64 (r.jobC f n (s : Int) z)) rfl (by kernel_rfl) (by kernel_rfl) (by kernel_rfl) (fun _ _ _ h => h) (Or.inl ⟨by rfl, ?_⟩) hH ?_
    · intro w1 hS; (try dsimp only at hS); go_simp
    (try simp only [List.getElem_toArray]); (try simp only [List.getElem_cons_succ]); (try simp only [List.getElem_cons_zero]); (try simp only [Act.put]); (try simp only [List.setIfInBounds_toArray]); (try simp only [List.set_cons_succ]); (try simp only [List.set_cons_zero])
    refine wpAnyH_done (by kernel_rfl) ?_ _
    have PB1 := Lib.hid (bnext PB.out hH PB.out.size)
    have P1 := Lib.hid (brow hH P0.out)
    clear hH P0
    go_wp2_with fail
    refine gen_world fun W1 hW1 => ?_
    rw [← hW1] at P1 PB1
    clear hW1
    refine wp_region_held_drew (S := fun w' => Below W1.heap.size W1 w') (by kernel_rfl) ((Below.refl _ _).drew) (fun hH => ?_)
    refine wpAnyH_take (i := 0) (v := .agg c) rfl (by kernel_rfl) (by kernel_rfl) (by kernel_rfl) (fun _ _ _ h => h) (Or.inl ⟨by rfl, ?_⟩) hH ?_
    · intro w1 hS; (try dsimp only at hS); have s0 := brow hS P1.out; go_simp
    (try simp only [List.getElem_toArray]); (try simp only [List.getElem_cons_succ]); (try simp only [List.getElem_cons_zero]); (try simp only [Act.put]); (try simp only [List.setIfInBounds_toArray]); (try simp only [List.set_cons_succ]); (try simp only [List.set_cons_zero])
    refine wpAnyH_take (i := 1) (v := .slice u n n) rfl (by kernel_rfl) (by kernel_rfl) (by kernel_rfl) (fun _ _ _ h => h) (Or.inl ⟨by rfl, ?_⟩) hH ?_
    · intro w1 hS; (try dsimp only at hS); go_simp
    (try simp only [List.getElem_toArray]); (try simp only [List.getElem_cons_succ]); (try simp only [List.getElem_cons_zero]); (try simp only [Act.put]); (try simp only [List.setIfInBounds_toArray]); (try simp only [List.set_cons_succ]); (try simp only [List.set_cons_zero])
    refine wpAnyH_take (i := 2) (v := .int .i64 (s : Int)) rfl (by kernel_rfl) (by kernel_rfl) (by kernel_rfl) (fun _ _ _ h => h) (Or.inl ⟨by rfl, ?_⟩) hH ?_
    · intro w1 hS; (try dsimp only at hS); go_simp
    (try simp only [List.getElem_toArray]); (try simp only [List.getElem_cons_succ]); (try simp only [List.getElem_cons_zero]); (try simp only [Act.put]); (try simp only [List.setIfInBounds_toArray]); (try simp only [List.set_cons_succ]); (try simp only [List.set_cons_zero])
    refine wpAnyH_take (i := 4) (v := .int .i64 z) rfl (by kernel_rfl) (by kernel_rfl) (by kernel_rfl) (fun _ _ _ h => h) (Or.inl ⟨by rfl, ?_⟩) hH ?_
    · intro w1 hS; (try dsimp only at hS); go_simp
    (try simp only [List.getElem_toArray]); (try simp only [List.getElem_cons_succ]); (try simp only [List.getElem_cons_zero]); (try simp only [Act.put]); (try simp only [List.setIfInBounds_toArray]); (try simp only [List.set_cons_succ]); (try simp only [List.set_cons_zero])
    refine wpAnyH_take (i := 5) (v := .slice u n n) rfl (by kernel_rfl) (by kernel_rfl) (by kernel_rfl) (fun _ _ _ h => h) (Or.inl ⟨by rfl, ?_⟩) hH ?_
    · intro w1 hS; (try dsimp only at hS); go_simp
    (try simp only [List.getElem_toArray]); (try simp only [List.getElem_cons_succ]); (try simp only [List.getElem_cons_zero]); (try simp only [Act.put]); (try simp only [List.setIfInBounds_toArray]); (try simp only [List.set_cons_succ]); (try simp only [List.set_cons_zero])
    refine wpAnyH_take (i := 6) (v := .int .i64 n) rfl (by kernel_rfl) (by kernel_rfl) (by kernel_rfl) (fun _ _ _ h => h) (Or.inl ⟨by rfl, ?_⟩) hH ?_
    · intro w1 hS; (try dsimp only at hS); go_simp
    (try simp only [List.getElem_toArray]); (try simp only [List.getElem_cons_succ]); (try simp only [List.getElem_cons_zero]); (try simp only [Act.put]); (try simp only [List.setIfInBounds_toArray]); (try simp only [List.set_cons_succ]); (try simp only [List.set_cons_zero])
    refine wpAnyH_take (i := 7) (v := .int .i64 (z * n)) rfl (by kernel_rfl) (by kernel_rfl) (by kernel_rfl) (fun _ _ _ h => h) (Or.inl ⟨by rfl, ?_⟩) hH ?_
    · intro w1 hS; (try dsimp only at hS); go_simp
    (try simp only [List.getElem_toArray]); (try simp only [List.getElem_cons_succ]); (try simp only [List.getElem_cons_zero]); (try simp only [Act.put]); (try simp only [List.setIfInBounds_toArray]); (try simp only [List.set_cons_succ]); (try simp only [List.set_cons_zero])
    refine wpAnyH_take (i := 9) (v := .slice u n n) rfl (by kernel_rfl) (by kernel_rfl) (by kernel_rfl) (fun _ _ _ h => h) (Or.inl ⟨by rfl, ?_⟩) hH ?_
    · intro w1 hS; (try dsimp only at hS); go_simp
    (try simp only [List.getElem_toArray]); (try simp only [List.getElem_cons_succ]); (try simp only [List.getElem_cons_zero]); (try simp only [Act.put]); (try simp only [List.setIfInBounds_toArray]); (try simp only [List.set_cons_succ]); (try simp only [List.set_cons_zero])
    refine wpAnyH_take (i := 10) (v := .agg c) rfl (by kernel_rfl) (by kernel_rfl) (by kernel_rfl) (fun _ _ _ h => h) (Or.inl ⟨by rfl, ?_⟩) hH ?_
    · intro w1 hS; (try dsimp only at hS); have s0 := brow hS P1.out; go_simp
    (try simp only [List.getElem_toArray]); (try simp only [List.getElem_cons_succ]); (try simp only [List.getElem_cons_zero]); (try simp only [Act.put]); (try simp only [List.setIfInBounds_toArray]); (try simp only [List.set_cons_succ]); (try simp only [List.set_cons_zero])
    refine wpAnyH_take (i := 11) (v := .func (.func 83) #[.agg c] #[]) rfl (by kernel_rfl) (by kernel_rfl) (by kernel_rfl) (fun _ _ _ h => h) (Or.inl ⟨by rfl, ?_⟩) hH ?_
    · intro w1 hS; (try dsimp only at hS); go_simp
    (try simp only [List.getElem_toArray]); (try simp only [List.getElem_cons_succ]); (try simp only [List.getElem_cons_zero]); (try simp only [Act.put]); (try simp only [List.setIfInBounds_toArray]); (try simp only [List.set_cons_succ]); (try simp only [List.set_cons_zero])
    refine wpAnyH_ready (rs := [3]) (by kernel_rfl) (by simp) (AllReadyH.cons rfl (fun K hK => ?_) AllReadyH.nil)
    go_simp
    refine (climbsFor_any B n s c r f u _ hR ho (HV.out.below (bnext PB1.out hH PB1.out.size) (Nat.le_refl _)) hn8 HP.out hs).mono ?_
    rintro x wx ⟨rfl, bx⟩
    go_simp
    refine hK.out _ _ (bnext hH bx hH.size) (fun hG => ?_)
    clear hK K hH bx
    replace hH := hG
    clear hG
    (try simp only [List.getElem_toArray]); (try simp only [List.getElem_cons_succ]); (try simp only [List.getElem_cons_zero]); (try simp only [Act.put]); (try simp only [List.setIfInBounds_toArray]); (try simp only [List.set_cons_succ]); (try simp only [List.set_cons_zero])
    refine wpAnyH_take (i := 8) (v := .int .i64 (tot r.h f s n + z * n)) rfl (by kernel_rfl) (by kernel_rfl) (by kernel_rfl) (fun _ _ _ h => h) (Or.inl ⟨by rfl, ?_⟩) hH ?_
    · intro w1 hS; (try dsimp only at hS); go_simp
    (try simp only [List.getElem_toArray]); (try simp only [List.getElem_cons_succ]); (try simp only [List.getElem_cons_zero]); (try simp only [Act.put]); (try simp only [List.setIfInBounds_toArray]); (try simp only [List.set_cons_succ]); (try simp only [List.set_cons_zero])
    refine wpAnyH_ready (rs := [12]) (by kernel_rfl) (by simp) (AllReadyH.cons rfl (fun K hK => ?_) AllReadyH.nil)
    go_simp
    refine (costLift_any B n c r f u _ hR ho (HV.out.below (bnext PB1.out hH PB1.out.size) (Nat.le_refl _)) hn HP.out).mono ?_
    rintro x wx ⟨rfl, bx⟩
    go_simp
    refine hK.out _ _ (bnext hH bx hH.size) (fun hG => ?_)
    clear hK K hH bx
    replace hH := hG
    clear hG
    (try simp only [List.getElem_toArray]); (try simp only [List.getElem_cons_succ]); (try simp only [List.getElem_cons_zero]); (try simp only [Act.put]); (try simp only [List.setIfInBounds_toArray]); (try simp only [List.set_cons_succ]); (try simp only [List.set_cons_zero])
    refine wpAnyH_take (i := 13) (v := .int .i64 (tot r.h f s n + z * n + r.lifted f n)) rfl (by kernel_rfl) (by kernel_rfl) (by kernel_rfl) (fun _ _ _ h => h) (Or.inl ⟨by rfl, ?_⟩) hH ?_
    · intro w1 hS; (try dsimp only at hS); go_simp
    (try simp only [List.getElem_toArray]); (try simp only [List.getElem_cons_succ]); (try simp only [List.getElem_cons_zero]); (try simp only [Act.put]); (try simp only [List.setIfInBounds_toArray]); (try simp only [List.set_cons_succ]); (try simp only [List.set_cons_zero])
    refine wpAnyH_take (i := 14) (v := .int .i64 (tot r.h f s n + z * n + r.lifted f n)) rfl (by kernel_rfl) (by kernel_rfl) (by kernel_rfl) (fun _ _ _ h => h) (Or.inl ⟨by rfl, ?_⟩) hH ?_
    · intro w1 hS; (try dsimp only at hS); go_simp
    (try simp only [List.getElem_toArray]); (try simp only [List.getElem_cons_succ]); (try simp only [List.getElem_cons_zero]); (try simp only [Act.put]); (try simp only [List.setIfInBounds_toArray]); (try simp only [List.set_cons_succ]); (try simp only [List.set_cons_zero])
    refine wpAnyH_take (i := 15) (v := .int .i64 0) rfl (by kernel_rfl) (by kernel_rfl) (by kernel_rfl) (fun _ _ _ h => h) (Or.inl ⟨by rfl, ?_⟩) hH ?_
    · intro w1 hS; (try dsimp only at hS); go_simp
    (try simp only [List.getElem_toArray]); (try simp only [List.getElem_cons_succ]); (try simp only [List.getElem_cons_zero]); (try simp only [Act.put]); (try simp only [List.setIfInBounds_toArray]); (try simp only [List.set_cons_succ]); (try simp only [List.set_cons_zero])
    refine wpAnyH_done (by kernel_rfl) ?_ _
    have PB3 := Lib.hid (bnext PB1.out hH PB1.out.size)
    clear hH
    go_wp2_with fail
    go_ret2
    exact ⟨by simp [HK.out], PB3.out⟩
  · have hb1 : (r.jobC f n y z != 0) = true := by simp [hk]
    have hV : r.jobV f n y z = 0 := by unfold Rf.jobV; rw [if_neg hk]
    rw [hV]
    clear hk hV
    go_enter Try.func48, Try.ntmps48
    go_wp2_with fail
    refine gen_world fun W hW => ?_
    have P0 : Hid (rowAt W w.heap.size = some c) := Lib.hid (by rw [hW]; exact p0)
    have PB : Hid (Below w.heap.size w W) := Lib.hid (by rw [hW]; exact (Below.refl _ _).alloc (Nat.le_refl _) _)
    clear hW p0
    refine wp_region_held_drew (S := fun w' => Below W.heap.size W w') (by kernel_rfl) ((Below.refl _ _).drew) (fun hH => ?_)
    refine wpAnyH_take (i := 0) (v := .agg c) rfl (by kernel_rfl) (by kernel_rfl) (by kernel_rfl) (fun _ _ _ h => h) (Or.inl ⟨by rfl, ?_⟩) hH ?_
    · intro w1 hS; (try dsimp only at hS); have s0 := brow hS P0.out; go_simp
    (try simp only [List.getElem_toArray]); (try simp only [List.getElem_cons_succ]); (try simp only [List.getElem_cons_zero]); (try simp only [Act.put]); (try simp only [List.setIfInBounds_toArray]); (try simp only [List.set_cons_succ]); (try simp only [List.set_cons_zero])
    refine wpAnyH_take (i := 1) (v := .slice u n n) rfl (by kernel_rfl) (by kernel_rfl) (by kernel_rfl) (fun _ _ _ h => h) (Or.inl ⟨by rfl, ?_⟩) hH ?_
    · intro w1 hS; (try dsimp only at hS); go_simp
    (try simp only [List.getElem_toArray]); (try simp only [List.getElem_cons_succ]); (try simp only [List.getElem_cons_zero]); (try simp only [Act.put]); (try simp only [List.setIfInBounds_toArray]); (try simp only [List.set_cons_succ]); (try simp only [List.set_cons_zero])
    refine wpAnyH_take (i := 2) (v := .int .i64 y) rfl (by kernel_rfl) (by kernel_rfl) (by kernel_rfl) (fun _ _ _ h => h) (Or.inl ⟨by rfl, ?_⟩) hH ?_
    · intro w1 hS; (try dsimp only at hS); go_simp
    (try simp only [List.getElem_toArray]); (try simp only [List.getElem_cons_succ]); (try simp only [List.getElem_cons_zero]); (try simp only [Act.put]); (try simp only [List.setIfInBounds_toArray]); (try simp only [List.set_cons_succ]); (try simp only [List.set_cons_zero])
    refine wpAnyH_take (i := 4) (v := .int .i64 z) rfl (by kernel_rfl) (by kernel_rfl) (by kernel_rfl) (fun _ _ _ h => h) (Or.inl ⟨by rfl, ?_⟩) hH ?_
    · intro w1 hS; (try dsimp only at hS); go_simp
    (try simp only [List.getElem_toArray]); (try simp only [List.getElem_cons_succ]); (try simp only [List.getElem_cons_zero]); (try simp only [Act.put]); (try simp only [List.setIfInBounds_toArray]); (try simp only [List.set_cons_succ]); (try simp only [List.set_cons_zero])
    refine wpAnyH_take (i := 5) (v := .agg #[.int .i64 z, .int .i64 0, .int .i64 1000]) rfl (by kernel_rfl) (by kernel_rfl) (by kernel_rfl) (fun _ _ _ h => h) (Or.inl ⟨by rfl, ?_⟩) hH ?_
    · intro w1 hS; (try dsimp only at hS); go_simp
    (try simp only [List.getElem_toArray]); (try simp only [List.getElem_cons_succ]); (try simp only [List.getElem_cons_zero]); (try simp only [Act.put]); (try simp only [List.setIfInBounds_toArray]); (try simp only [List.set_cons_succ]); (try simp only [List.set_cons_zero])
    refine wpAnyH_ready (rs := [3]) (by kernel_rfl) (by simp) (AllReadyH.cons rfl (fun K hK => ?_) AllReadyH.nil)
    go_simp
    refine (carried_any y _).mono ?_
    rintro x wx ⟨rfl, bx⟩
    go_simp
    refine hK.out _ _ (bnext hH bx hH.size) (fun hG => ?_)
    clear hK K hH bx
    replace hH := hG
    clear hG
    (try simp only [List.getElem_toArray]); (try simp only [List.getElem_cons_succ]); (try simp only [List.getElem_cons_zero]); (try simp only [Act.put]); (try simp only [List.setIfInBounds_toArray]); (try simp only [List.set_cons_succ]); (try simp only [List.set_cons_zero])
    refine wpAnyH_ready (rs := [6]) (by kernel_rfl) (by simp) (AllReadyH.cons rfl (fun K hK => ?_) AllReadyH.nil)
    go_simp
    refine hK.out _ _ (hH.alloc hH.size _) (fun hG => ?_)
    clear hK K hH
    replace hH := hG
    clear hG
    (try simp only [List.getElem_toArray]); (try simp only [List.getElem_cons_succ]); (try simp only [List.getElem_cons_zero]); (try simp only [Act.put]); (try simp only [List.setIfInBounds_toArray]); (try simp only [List.set_cons_succ]); (try simp only [List.set_cons_zero])
    refine wpAnyH_ready (rs := [7]) (by kernel_rfl) (by simp) (AllReadyH.cons rfl (fun K hK => ?_) AllReadyH.nil)
    go_simp
    refine (CW _ 0 _ (HV.out.below (bnext PB.out hH PB.out.size) (Nat.le_refl _)) (IsList.lit6 (rowAt_alloc_at _ _ _ _ rfl) (Nat.zero_le _))).mono ?_
    rintro x wx ⟨rfl, bx⟩
    go_simp
    refine hK.out _ _ (bnext hH bx hH.size) (fun hG => ?_)
    clear hK K hH bx
    replace hH := hG
    clear hG
    (try simp only [List.getElem_toArray]); (try simp only [List.getElem_cons_succ]); (try simp only [List.getElem_cons_zero]); (try simp only [Act.put]); (try simp only [List.setIfInBounds_toArray]); (try simp only [List.set_cons_succ]); (try simp only [List.set_cons_zero])
    refine wpAnyH_take (i := 8) (v := .int .i64 (r.jobC f n y z)) rfl (by kernel_rfl) (by kernel_rfl) (by kernel_rfl) (fun _ _ _ h => h) (Or.inl ⟨by rfl, ?_⟩) hH ?_
    · intro w1 hS; (try dsimp only at hS); go_simp
    (try simp only [List.getElem_toArray]); (try simp only [List.getElem_cons_succ]); (try simp only [List.getElem_cons_zero]); (try simp only [Act.put]); (try simp only [List.setIfInBounds_toArray]); (try simp only [List.set_cons_succ]); (try simp only [List.set_cons_zero])
    refine wpAnyH_done (by kernel_rfl) ?_ _
    have PB1 := Lib.hid (bnext PB.out hH PB.out.size)
    have P1 := Lib.hid (brow hH P0.out)
    clear hH P0
    go_wp2_with fail
    go_ret2
    exact ⟨rfl, PB1.out⟩
end Go.Proofs.Ytkimngffbioeeaa
