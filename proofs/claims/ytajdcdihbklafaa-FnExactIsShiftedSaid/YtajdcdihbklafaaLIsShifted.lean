/- laws.FnExactIsShifted returns true for every roof and number, and leaves them as they were. No condition. -/
import Derived.Test.YtajdcdihbklafaaHelp
import Derived.Test.YtajdcdihbklafaaCourse
import Derived.Test.YtajdcdihbklafaaOpen
namespace Go.Proofs.Ytajdcdihbklafaa
open Go.RowKit

noncomputable def Rf.shAns (r : Rf) (k : Int) : Bool := if r.told (inB k 0 (r.h - 1)) = 0 then r.by k == 1 else false

set_option maxHeartbeats 400000 in
theorem specIsShifted_any (c : Array Value) (r : Rf) (k : Int) (w : World) (hR : IsRoof c r) :
    Calls Try.prog 28 #[.agg c, .int .i64 k] w fun e w' => e = .returned (.tuple #[.bool (r.shAns k), .int .i64 (r.told (inB k 0 (r.h - 1)))]) ∧ Below w.heap.size w w' := by
  have hc := hR.size
  by_cases hz : r.told (inB k 0 (r.h - 1)) = 0
  · obtain ⟨ho, hin⟩ := Rf.told_zero hz
    have hin' : 0 ≤ k ∧ k ≤ r.h - 1 := by simpa [inB] using hin
    have hh := ho.2.2.2.1
    have hka : r.shAns k = (r.by k == 1) := by unfold Rf.shAns; rw [if_pos hz]
    rw [hka]
    have hb1 : (r.told (inB k 0 (r.h - 1)) != 0) = false := by simp [hz]
    have HZ := Lib.hid hz
    clear hz hka hin
    go_enter Try.func28, Try.ntmps28
    go_wp2_with fail
    refine (l01Course_any w.heap.size c r k _ (rowAt_alloc_at w c 28 _ rfl) hR).mono ?_
    rintro e w0 ⟨rfl, rfl⟩
    go_wp2_with fail
    refine (l01Told_any w.heap.size c r _ _ (rowAt_alloc_at w c 28 _ rfl) hR).mono ?_
    rintro e w1 ⟨rfl, b1⟩
    have q1 := brow b1 (rowAt_alloc_at w c 28 _ rfl)
    have B1 : Below w.heap.size w w1 := ((Below.refl _ _).alloc (Nat.le_refl _) _).trans (b1.mono (by simp))
    clear b1
    go_wp2_with fail
    refine (l01By_any w.heap.size c r k _ q1 hR (by omega)).mono ?_
    rintro e w2 ⟨rfl, rfl⟩
    go_wp2_with fail
    go_ret2
    exact ⟨by simp [HZ.out], B1⟩
  · have hka : r.shAns k = false := by unfold Rf.shAns; rw [if_neg hz]
    rw [hka]
    have hb1 : (r.told (inB k 0 (r.h - 1)) != 0) = true := by simp [hz]
    clear hz hka
    go_enter Try.func28, Try.ntmps28
    go_wp2_with fail
    refine (l01Course_any w.heap.size c r k _ (rowAt_alloc_at w c 28 _ rfl) hR).mono ?_
    rintro e w0 ⟨rfl, rfl⟩
    go_wp2_with fail
    refine (l01Told_any w.heap.size c r _ _ (rowAt_alloc_at w c 28 _ rfl) hR).mono ?_
    rintro e w1 ⟨rfl, b1⟩
    have B1 : Below w.heap.size w w1 := ((Below.refl _ _).alloc (Nat.le_refl _) _).trans (b1.mono (by simp))
    clear b1
    go_wp2_with fail
    go_ret2
    exact ⟨rfl, B1⟩

set_option maxHeartbeats 400000 in
theorem implIsShifted_any (c : Array Value) (r : Rf) (k : Int) (w : World) (hR : IsRoof c r) :
    Calls Try.prog 29 #[.agg c, .int .i64 k] w fun e w' => e = .returned (.tuple #[.bool (r.shAns k), .int .i64 (r.told (inB k 0 (r.h - 1)))]) ∧ Below w.heap.size w w' := by
  have hc := hR.size
  by_cases hz : r.told (inB k 0 (r.h - 1)) = 0
  · obtain ⟨ho, hin⟩ := Rf.told_zero hz
    have hin' : 0 ≤ k ∧ k ≤ r.h - 1 := by simpa [inB] using hin
    have hh := ho.2.2.2.1
    have hka : r.shAns k = (r.by k == 1) := by unfold Rf.shAns; rw [if_pos hz]
    rw [hka]
    have hb1 : (r.told (inB k 0 (r.h - 1)) != 0) = false := by simp [hz]
    have HZ := Lib.hid hz
    clear hz hka hin
    go_enter Try.func29, Try.ntmps29
    go_wp2_with fail
    refine (checkCourse_any c r k _ hR).mono ?_
    rintro e w1 ⟨rfl, b1⟩
    obtain ⟨v1, v2, v3, v4⟩ := bview b1
    have B1 : Below w.heap.size w w1 := ((Below.refl _ _).alloc (Nat.le_refl _) _).trans (b1.mono (by simp))
    clear b1
    go_wp2_with fail
    refine (shifted_any c r k _ hR (by omega)).mono ?_
    rintro e w2 ⟨rfl, b2⟩
    have B2 := bnext B1 b2 B1.size
    clear b2 v1 v2 v3 v4
    go_wp2_with fail
    go_ret2
    exact ⟨by simp [HZ.out], B2⟩
  · have hka : r.shAns k = false := by unfold Rf.shAns; rw [if_neg hz]
    rw [hka]
    have hb1 : (r.told (inB k 0 (r.h - 1)) != 0) = true := by simp [hz]
    clear hz hka
    go_enter Try.func29, Try.ntmps29
    go_wp2_with fail
    refine (checkCourse_any c r k _ hR).mono ?_
    rintro e w1 ⟨rfl, b1⟩
    have B1 : Below w.heap.size w w1 := ((Below.refl _ _).alloc (Nat.le_refl _) _).trans (b1.mono (by simp))
    clear b1
    go_wp2_with fail
    go_ret2
    exact ⟨rfl, B1⟩

set_option maxHeartbeats 400000 in
theorem law_walk_FnExactIsShifted {c : Array Value} {r : Rf} (hR : IsRoof c r) {k : Int} (_hk : -9223372036854775808 ≤ k ∧ k ≤ 9223372036854775807) (w : World) :
    Calls Try.prog 8 #[.agg c, .int .i64 k] w fun e w' => e = .returned (.bool true) ∧ Below w.heap.size w w' := by
  have hc := hR.size
  have hbb : (r.shAns k != r.shAns k) = false := by simp
  have hcc : (r.told (inB k 0 (r.h - 1)) != r.told (inB k 0 (r.h - 1))) = false := by simp
  go_enter Try.func8, Try.ntmps8
  go_wp2_with fail
  refine (toRoof_any c r _ hR).mono ?_
  rintro e w1 ⟨rfl, b1⟩
  have q1 := brow b1 (rowAt_alloc_at w c 26 _ rfl)
  have B1 : Below w.heap.size w w1 := ((Below.refl _ _).alloc (Nat.le_refl _) _).trans (b1.mono (by simp))
  clear b1
  go_wp2_with fail
  refine (specIsShifted_any c r k _ hR).mono ?_
  rintro e w2 ⟨rfl, b2⟩
  have q2 := brow b2 q1
  have B2 := bnext B1 b2 B1.size
  clear b2 q1 B1
  go_wp2_with fail
  refine (toRoof_any c r _ hR).mono ?_
  rintro e w3 ⟨rfl, b3⟩
  have B3 := bnext B2 b3 B2.size
  clear b3 q2 B2
  go_wp2_with fail
  refine (implIsShifted_any c r k _ hR).mono ?_
  rintro e w4 ⟨rfl, b4⟩
  have B4 := bnext B3 b4 B3.size
  clear b4 B3
  go_wp2_with fail
  go_ret
  exact ⟨rfl, B4⟩

namespace LFnExactIsShifted
open Go.RowKit Go.ChangeShapes Go.WideShapes Go.ChangeAt
theorem own : ownKnob Try.prog.godebug = none := by kernel_rfl
theorem laidOut : laidOutB Try.prog = true := by kernel_rfl
set_option maxRecDepth 100000 in
theorem lifted (os : Os) (started : os.Started) (H : Type) (enc : TypeId × Value → H) :
    ReturnsInHanded {} Try.checked os 8 .any (Rows.fnExactIsShiftedSpec.pre6 enc Try.prog Try.f8 Rows.fnExactIsShiftedRow.domain false) (Rows.fnExactIsShiftedSpec.post enc Try.prog Try.f8 false true false false) := by
  refine returnsInHanded_of_change (C := Try.checked) own started (by kernel_rfl) Try.func8
    (ChangeSpec.witness6 (enc := enc) (C := Try.checked) false ⟨#[], #[.agg Try.zeroCells26, .int .i64 0], []⟩ 8 (by kernel_rfl) (by kernel_rfl) (by kernel_rfl) (by kernel_rfl)) ?_
  intro W base args ds gs before hval0 hW hcnd _
  have hval : ∀ (j : Nat) t v, Try.f8.params[j]? = some t → args[j]? = some v → Value.okWide Try.prog W .any base t v := hval0
  have hW' := hW
  obtain ⟨p, q, hA0, hV, rfl, hfz, hnd⟩ := hW
  have hA : DataW.TrodAll enc Try.prog W 0 (fun _ => true) true Try.f8.params.toList args.toList ds p := hA0
  rw [Try.params8] at hA hval
  obtain ⟨v0, vs0, d0, ds0, p0, q0, hargs, rfl, rfl, h0, r0⟩ := trodAll_cons hA
  obtain ⟨v1, vs1, d1, ds1, p1, q1, rfl, rfl, rfl, h1, r1⟩ := trodAll_cons r0
  obtain ⟨rfl, rfl, rfl⟩ := trodAll_nil r1
  obtain rfl : args = #[v0, v1] := by cases args; simp_all
  obtain ⟨rfl, rfl⟩ := trodVars_none hV
  have k0 := h0
  have lt0 : ∀ x ∈ p0, x.block < W.heap.size := by obtain ⟨m, hm⟩ := k0; exact DataW.trod_lt m _ _ _ hm
  obtain ⟨c0, f0, rfl, wf0⟩ := open_roof (hval 0 26 v0 rfl rfl) h0
  obtain ⟨x1, rfl, rfl, rfl, wx1⟩ := open_int Try.underlying2 (hval 1 2 v1 rfl rfl) h1
  clear hA0 hval0
  refine (law_walk_FnExactIsShifted wf0 (bounds_i64 wx1) W).mono fun e W' ⟨he, bel⟩ => ?_
  subst he
  exact ⟨_, rfl, _, _, _, [], _, [], hW', trodAll_mk1 (shut_bool Try.underlying4 _), (trodAll_cons_mk (Below.trod laidOut (by kernel_rfl) (of_decide_eq_true (by kernel_rfl)) k0 bel lt0) (trodAll_cons_mk (shut_int Try.underlying2 wx1) trodAll_mk0)), rfl, bel.frame _, fun h => by cases h⟩

theorem over : Rows.fnExactIsShiftedRow.holds Try.pinned (OpenSpec.ofChange Rows.fnExactIsShiftedSpec) :=
  OpenClaim.holds_of_wide 8 Try.f8 rfl rfl rfl rfl rfl rfl rfl ⟨rfl, rfl, rfl, rfl, rfl⟩ rfl rfl rfl rfl rfl (by kernel_rfl) Try.func8 (by kernel_rfl)
    (of_decide_eq_true (by kernel_rfl)) (by unfold Func.isWrapper; first | (rw [if_pos (by decide +kernel)]; kernel_rfl) | (rw [if_neg (by decide +kernel)]; exact ⟨rfl, rfl⟩))
    (fun os started H enc _ => lifted os started H enc)

theorem proved : Rows.FnExactIsShiftedSaid := over
end LFnExactIsShifted

end Go.Proofs.Ytajdcdihbklafaa
