/- laws.FnExactWholeRoof returns true for every three numbers. No condition. -/
import Derived.Test.YtajdcdihbklafaaHelp
import Derived.Test.YtajdcdihbklafaaSpecA
import Derived.Test.YtajdcdihbklafaaSame
import Derived.Test.YtajdcdihbklafaaOpen
import Derived.Test.YtajdcdihbklafaaEnd
namespace Go.Proofs.Ytajdcdihbklafaa
open Go.RowKit

set_option maxRecDepth 100000 in
set_option maxHeartbeats 400000 in
theorem implWhole_yes (a b s : Int) (w : World) (ha : 1 ≤ a ∧ a ≤ 8) (hb : 1 ≤ b ∧ b ≤ 8) (hs : 0 ≤ s ∧ s ≤ 1) :
    Calls Try.prog 21 #[.int .i64 a, .int .i64 b, .int .i64 s] w fun e w' => e = .returned (.tuple #[.agg (((Try.zeroCells28.setIfInBounds 0 (.int .i8 a)).setIfInBounds 1 (.int .i8 b)).setIfInBounds 2 (.int .u8 s)), .int .i64 0]) ∧ Below w.heap.size w w' := by
  have x1 : decide (a < 1) = false := by simp; omega
  have x2 : decide (8 < a) = false := by simp; omega
  have x3 : decide (b < 1) = false := by simp; omega
  have x4 : decide (8 < b) = false := by simp; omega
  have x5 : decide (s < 0) = false := by simp; omega
  have x6 : decide (1 < s) = false := by simp; omega
  have hz := zroof_size
  have ho := (zroof_is.head a b s (by omega) (by omega) (by omega)).ones
  go_enter Try.func21, Try.ntmps21
  (try dsimp only)
  repeat go_step
  refine bodyPost_ret (v := .tuple #[.agg (((Try.zeroCells28.setIfInBounds 0 (.int .i8 a)).setIfInBounds 1 (.int .i8 b)).setIfInBounds 2 (.int .u8 s)), .int .i64 0]) (results_row2 (m := 67) rfl _ _ w.heap.size _ _ rfl rfl (rowAt_alloc_at _ _ _ _ rfl) Try.underlying28 rfl (by kernel_rfl) (by simp [hz])) rfl ⟨rfl, (Below.refl _ _).alloc (Nat.le_refl _) _⟩
set_option maxRecDepth 100000 in
set_option maxHeartbeats 400000 in
theorem implWhole_no (a b s : Int) (w : World) (h : ¬ (1 ≤ a ∧ a ≤ 8 ∧ 1 ≤ b ∧ b ≤ 8 ∧ 0 ≤ s ∧ s ≤ 1)) :
    Calls Try.prog 21 #[.int .i64 a, .int .i64 b, .int .i64 s] w fun e w' => e = .returned (.tuple #[.agg Try.zeroCells28, .int .i64 2]) ∧ Below w.heap.size w w' := by
  have hz := zroof_size
  have ho := zroof_ones
  by_cases x1 : a < 1
  · go_enter Try.func21, Try.ntmps21
    (try dsimp only)
    repeat go_step
    refine bodyPost_ret (v := .tuple #[.agg Try.zeroCells28, .int .i64 2]) (results_row2 (m := 67) rfl _ _ w.heap.size _ _ rfl rfl (rowAt_alloc_at _ _ _ _ rfl) Try.underlying28 rfl (by kernel_rfl) hz) rfl ⟨rfl, (Below.refl _ _).alloc (Nat.le_refl _) _⟩
  by_cases x2 : 8 < a
  · go_enter Try.func21, Try.ntmps21
    (try dsimp only)
    repeat go_step
    refine bodyPost_ret (v := .tuple #[.agg Try.zeroCells28, .int .i64 2]) (results_row2 (m := 67) rfl _ _ w.heap.size _ _ rfl rfl (rowAt_alloc_at _ _ _ _ rfl) Try.underlying28 rfl (by kernel_rfl) hz) rfl ⟨rfl, (Below.refl _ _).alloc (Nat.le_refl _) _⟩
  by_cases x3 : b < 1
  · go_enter Try.func21, Try.ntmps21
    (try dsimp only)
    repeat go_step
    refine bodyPost_ret (v := .tuple #[.agg Try.zeroCells28, .int .i64 2]) (results_row2 (m := 67) rfl _ _ w.heap.size _ _ rfl rfl (rowAt_alloc_at _ _ _ _ rfl) Try.underlying28 rfl (by kernel_rfl) hz) rfl ⟨rfl, (Below.refl _ _).alloc (Nat.le_refl _) _⟩
  by_cases x4 : 8 < b
  · go_enter Try.func21, Try.ntmps21
    (try dsimp only)
    repeat go_step
    refine bodyPost_ret (v := .tuple #[.agg Try.zeroCells28, .int .i64 2]) (results_row2 (m := 67) rfl _ _ w.heap.size _ _ rfl rfl (rowAt_alloc_at _ _ _ _ rfl) Try.underlying28 rfl (by kernel_rfl) hz) rfl ⟨rfl, (Below.refl _ _).alloc (Nat.le_refl _) _⟩
  by_cases x5 : s < 0
  · go_enter Try.func21, Try.ntmps21
    (try dsimp only)
    repeat go_step
    refine bodyPost_ret (v := .tuple #[.agg Try.zeroCells28, .int .i64 2]) (results_row2 (m := 67) rfl _ _ w.heap.size _ _ rfl rfl (rowAt_alloc_at _ _ _ _ rfl) Try.underlying28 rfl (by kernel_rfl) hz) rfl ⟨rfl, (Below.refl _ _).alloc (Nat.le_refl _) _⟩
  · have x6 : 1 < s := by omega
    go_enter Try.func21, Try.ntmps21
    (try dsimp only)
    repeat go_step
    refine bodyPost_ret (v := .tuple #[.agg Try.zeroCells28, .int .i64 2]) (results_row2 (m := 67) rfl _ _ w.heap.size _ _ rfl rfl (rowAt_alloc_at _ _ _ _ rfl) Try.underlying28 rfl (by kernel_rfl) hz) rfl ⟨rfl, (Below.refl _ _).alloc (Nat.le_refl _) _⟩
set_option maxRecDepth 100000 in
set_option maxHeartbeats 400000 in
theorem specWhole_yes (a b s : Int) (w : World) (ha : 1 ≤ a ∧ a ≤ 8) (hb : 1 ≤ b ∧ b ≤ 8) (hs : 0 ≤ s ∧ s ≤ 1) :
    Calls Try.prog 20 #[.int .i64 a, .int .i64 b, .int .i64 s] w fun e w' => e = .returned (.tuple #[.agg (((Try.zeroCells28.setIfInBounds 0 (.int .i8 a)).setIfInBounds 1 (.int .i8 b)).setIfInBounds 2 (.int .u8 s)), .int .i64 0]) ∧ Below w.heap.size w w' := by
  have hz := zroof_size
  have ho := (zroof_is.head a b s (by omega) (by omega) (by omega)).ones
  go_enter Try.func20, Try.ntmps20
  go_wp2_with fail
  refine (l00In_t _ _ _ _ ha).mono ?_
  rintro e w' ⟨rfl, rfl⟩
  go_wp2_with fail
  refine (l00In_t _ _ _ _ hb).mono ?_
  rintro e w' ⟨rfl, rfl⟩
  go_wp2_with fail
  refine (l00In_t _ _ _ _ hs).mono ?_
  rintro e w' ⟨rfl, rfl⟩
  (try dsimp only)
  repeat go_step
  refine bodyPost_ret (v := .tuple #[.agg (((Try.zeroCells28.setIfInBounds 0 (.int .i8 a)).setIfInBounds 1 (.int .i8 b)).setIfInBounds 2 (.int .u8 s)), .int .i64 0]) (results_row2 (m := 67) rfl _ _ w.heap.size _ _ rfl rfl (rowAt_alloc_at _ _ _ _ rfl) Try.underlying28 rfl (by kernel_rfl) (by simp [hz])) rfl ⟨rfl, (Below.refl _ _).alloc (Nat.le_refl _) _⟩
set_option maxRecDepth 100000 in
set_option maxHeartbeats 400000 in
theorem specWhole_no (a b s : Int) (w : World) (h : ¬ (1 ≤ a ∧ a ≤ 8 ∧ 1 ≤ b ∧ b ≤ 8 ∧ 0 ≤ s ∧ s ≤ 1)) :
    Calls Try.prog 20 #[.int .i64 a, .int .i64 b, .int .i64 s] w fun e w' => e = .returned (.tuple #[.agg Try.zeroCells28, .int .i64 2]) ∧ Below w.heap.size w w' := by
  have hz := zroof_size
  have ho := zroof_ones
  by_cases ha : 1 ≤ a ∧ a ≤ 8
  · by_cases hb : 1 ≤ b ∧ b ≤ 8
    · have hs : ¬ (0 ≤ s ∧ s ≤ 1) := by omega
      go_enter Try.func20, Try.ntmps20
      go_wp2_with fail
      refine (l00In_t _ _ _ _ ha).mono ?_
      rintro e w' ⟨rfl, rfl⟩
      go_wp2_with fail
      refine (l00In_t _ _ _ _ hb).mono ?_
      rintro e w' ⟨rfl, rfl⟩
      go_wp2_with fail
      refine (l00In_f _ _ _ _ hs).mono ?_
      rintro e w' ⟨rfl, rfl⟩
      (try dsimp only)
      repeat go_step
      refine bodyPost_ret (v := .tuple #[.agg Try.zeroCells28, .int .i64 2]) (results_row2 (m := 67) rfl _ _ w.heap.size _ _ rfl rfl (rowAt_alloc_at _ _ _ _ rfl) Try.underlying28 rfl (by kernel_rfl) hz) rfl ⟨rfl, (Below.refl _ _).alloc (Nat.le_refl _) _⟩
    · go_enter Try.func20, Try.ntmps20
      go_wp2_with fail
      refine (l00In_t _ _ _ _ ha).mono ?_
      rintro e w' ⟨rfl, rfl⟩
      go_wp2_with fail
      refine (l00In_f _ _ _ _ hb).mono ?_
      rintro e w' ⟨rfl, rfl⟩
      (try dsimp only)
      repeat go_step
      refine bodyPost_ret (v := .tuple #[.agg Try.zeroCells28, .int .i64 2]) (results_row2 (m := 67) rfl _ _ w.heap.size _ _ rfl rfl (rowAt_alloc_at _ _ _ _ rfl) Try.underlying28 rfl (by kernel_rfl) hz) rfl ⟨rfl, (Below.refl _ _).alloc (Nat.le_refl _) _⟩
  · go_enter Try.func20, Try.ntmps20
    go_wp2_with fail
    refine (l00In_f _ _ _ _ ha).mono ?_
    rintro e w' ⟨rfl, rfl⟩
    (try dsimp only)
    repeat go_step
    refine bodyPost_ret (v := .tuple #[.agg Try.zeroCells28, .int .i64 2]) (results_row2 (m := 67) rfl _ _ w.heap.size _ _ rfl rfl (rowAt_alloc_at _ _ _ _ rfl) Try.underlying28 rfl (by kernel_rfl) hz) rfl ⟨rfl, (Below.refl _ _).alloc (Nat.le_refl _) _⟩

set_option maxRecDepth 100000 in
set_option maxHeartbeats 400000 in
theorem law_whole (a b s : Int) (c : Array Value) (r : Rf) (k : Int) (hR : IsRoof c r) (w : World)
    (h1 : ∀ W, Calls Try.prog 20 #[.int .i64 a, .int .i64 b, .int .i64 s] W fun e w' => e = .returned (.tuple #[.agg c, .int .i64 k]) ∧ Below W.heap.size W w')
    (h2 : ∀ W, Calls Try.prog 21 #[.int .i64 a, .int .i64 b, .int .i64 s] W fun e w' => e = .returned (.tuple #[.agg c, .int .i64 k]) ∧ Below W.heap.size W w') :
    Calls Try.prog 5 #[.int .i64 a, .int .i64 b, .int .i64 s] w fun e w' => e = .returned (.bool true) ∧ Below w.heap.size w w' := by
  have hc := hR.size
  have ho := hR.ones
  have hkk : (k != k) = false := by simp
  have HA := Lib.hid h1; clear h1
  have HB := Lib.hid h2; clear h2
  go_enter Try.func5, Try.ntmps5
  go_wp2_with fail
  refine (HA.out _).mono ?_
  rintro e w1 ⟨rfl, b1⟩
  go_wp2_with fail
  refine (HB.out _).mono ?_
  rintro e w2 ⟨rfl, b2⟩
  have q1 := brow b2 (rowAt_alloc_at w1 c 28 _ rfl)
  have B2 := bnext (b1.alloc b1.size _) b2 (by simp; have := b1.size; omega)
  have S1 := b1.size
  have S2 : w1.heap.size < w2.heap.size := by have := b2.size; simp at this; omega
  clear b1 b2
  go_wp2_with fail
  refine (eqRoof_same c r _ hR).mono ?_
  rintro e w3 ⟨rfl, b3⟩
  have B3 := bnext (B2.alloc B2.size _) b3 (by simp; have := B2.size; omega)
  clear b3
  go_wp2_with fail
  go_ret
  exact ⟨rfl, B3⟩

theorem law_walk_FnExactWholeRoof {a b s : Int} (_ha : -9223372036854775808 ≤ a ∧ a ≤ 9223372036854775807) (_hb : -9223372036854775808 ≤ b ∧ b ≤ 9223372036854775807) (_hs : -9223372036854775808 ≤ s ∧ s ≤ 9223372036854775807) (w : World) :
    Calls Try.prog 5 #[.int .i64 a, .int .i64 b, .int .i64 s] w fun e w' => e = .returned (.bool true) ∧ Below w.heap.size w w' := by
  by_cases h : 1 ≤ a ∧ a ≤ 8 ∧ 1 ≤ b ∧ b ≤ 8 ∧ 0 ≤ s ∧ s ≤ 1
  · exact law_whole a b s _ _ 0 (zroof_is.head a b s (by omega) (by omega) (by omega)) w (fun W => specWhole_yes a b s W (by omega) (by omega) (by omega)) (fun W => implWhole_yes a b s W (by omega) (by omega) (by omega))
  · exact law_whole a b s _ _ 2 zroof_is w (fun W => specWhole_no a b s W h) (fun W => implWhole_no a b s W h)

namespace LFnExactWholeRoof
open Go.RowKit Go.ChangeShapes Go.WideShapes Go.ChangeAt
theorem own : ownKnob Try.prog.godebug = none := by kernel_rfl
theorem laidOut : laidOutB Try.prog = true := by kernel_rfl
set_option maxRecDepth 100000 in
theorem lifted (os : Os) (started : os.Started) (H : Type) (enc : TypeId × Value → H) :
    ReturnsInHanded {} Try.checked os 5 .any (Rows.fnExactWholeRoofSpec.pre6 enc Try.prog Try.f5 Rows.fnExactWholeRoofRow.domain false) (Rows.fnExactWholeRoofSpec.post enc Try.prog Try.f5 false true false false) := by
  refine returnsInHanded_of_change (C := Try.checked) own started (by kernel_rfl) Try.func5
    (ChangeSpec.witness6 (enc := enc) (C := Try.checked) false ⟨#[], #[.int .i64 0, .int .i64 0, .int .i64 0], []⟩ 8 (by kernel_rfl) (by kernel_rfl) (by kernel_rfl) (by kernel_rfl)) ?_
  intro W base args ds gs before hval0 hW hcnd _
  have hval : ∀ (j : Nat) t v, Try.f5.params[j]? = some t → args[j]? = some v → Value.okWide Try.prog W .any base t v := hval0
  have hW' := hW
  obtain ⟨p, q, hA0, hV, rfl, hfz, hnd⟩ := hW
  have hA : DataW.TrodAll enc Try.prog W 0 (fun _ => true) true Try.f5.params.toList args.toList ds p := hA0
  rw [Try.params5] at hA hval
  obtain ⟨v0, vs0, d0, ds0, p0, q0, hargs, rfl, rfl, h0, r0⟩ := trodAll_cons hA
  obtain ⟨v1, vs1, d1, ds1, p1, q1, rfl, rfl, rfl, h1, r1⟩ := trodAll_cons r0
  obtain ⟨v2, vs2, d2, ds2, p2, q2, rfl, rfl, rfl, h2, r2⟩ := trodAll_cons r1
  obtain ⟨rfl, rfl, rfl⟩ := trodAll_nil r2
  obtain rfl : args = #[v0, v1, v2] := by cases args; simp_all
  obtain ⟨rfl, rfl⟩ := trodVars_none hV
  obtain ⟨x0, rfl, rfl, rfl, wx0⟩ := open_int Try.underlying2 (hval 0 2 v0 rfl rfl) h0
  obtain ⟨x1, rfl, rfl, rfl, wx1⟩ := open_int Try.underlying2 (hval 1 2 v1 rfl rfl) h1
  obtain ⟨x2, rfl, rfl, rfl, wx2⟩ := open_int Try.underlying2 (hval 2 2 v2 rfl rfl) h2
  clear hA0 hval0
  refine (law_walk_FnExactWholeRoof (bounds_i64 wx0) (bounds_i64 wx1) (bounds_i64 wx2) W).mono fun e W' ⟨he, bel⟩ => ?_
  subst he
  exact ⟨_, rfl, _, _, _, [], _, [], hW', trodAll_mk1 (shut_bool Try.underlying4 _), (trodAll_cons_mk (shut_int Try.underlying2 wx0) (trodAll_cons_mk (shut_int Try.underlying2 wx1) (trodAll_cons_mk (shut_int Try.underlying2 wx2) trodAll_mk0))), rfl, bel.frame _, fun h => by cases h⟩

theorem over : Rows.fnExactWholeRoofRow.holds Try.pinned (OpenSpec.ofChange Rows.fnExactWholeRoofSpec) :=
  OpenClaim.holds_of_wide 5 Try.f5 rfl rfl rfl rfl rfl rfl rfl ⟨rfl, rfl, rfl, rfl, rfl⟩ rfl rfl rfl rfl rfl (by kernel_rfl) Try.func5 (by kernel_rfl)
    (of_decide_eq_true (by kernel_rfl)) (by unfold Func.isWrapper; first | (rw [if_pos (by decide +kernel)]; kernel_rfl) | (rw [if_neg (by decide +kernel)]; exact ⟨rfl, rfl⟩))
    (fun os started H enc _ => lifted os started H enc)

theorem proved : Rows.FnExactWholeRoofSaid := over
end LFnExactWholeRoof

end Go.Proofs.Ytajdcdihbklafaa
