/- laws.FnExactTileAt returns true for every roof and numbers, and leaves them as they were. No condition. -/
import Derived.Test.YtnckgbjhjgocjaaHelp
import Derived.Test.YtnckgbjhjgocjaaCourse
import Derived.Test.YtnckgbjhjgocjaaOpen
import Derived.Test.YtnckgbjhjgocjaaTile
namespace Go.Proofs.Ytnckgbjhjgocjaa
open Go.RowKit

noncomputable def Rf.tatC (r : Rf) (k cell : Int) : Int := if r.told (inB k 0 (r.h - 1)) = 0 then (if 0 ≤ cell ∧ cell ≤ 2 * r.w then 0 else 2) else r.told (inB k 0 (r.h - 1))
noncomputable def Rf.tatV (r : Rf) (k cell : Int) : Int := if r.tatC k cell = 0 then r.tile k cell else 0

set_option maxHeartbeats 400000 in
theorem specTileAt_any (c : Array Value) (r : Rf) (k cell : Int) (w : World) (hR : IsRoof c r) :
    Calls Try.prog 40 #[.agg c, .int .i64 k, .int .i64 cell] w fun e w' => e = .returned (.tuple #[.int .i64 (r.tatV k cell), .int .i64 (r.tatC k cell)]) ∧ Below w.heap.size w w' := by
  have hc := hR.size
  by_cases hz : r.told (inB k 0 (r.h - 1)) = 0
  · obtain ⟨ho, hin⟩ := Rf.told_zero hz
    have hin' : 0 ≤ k ∧ k ≤ r.h - 1 := by simpa [inB] using hin
    have hh := ho.2.2.2.1
    have hw1 := ho.1
    have hw8 := ho.2.1
    have hb1 : (r.told (inB k 0 (r.h - 1)) != 0) = false := by simp [hz]
    by_cases hcl : 0 ≤ cell ∧ cell ≤ 2 * r.w
    · have hC : r.tatC k cell = 0 := by unfold Rf.tatC; rw [if_pos hz, if_pos hcl]
      have hV : r.tatV k cell = r.tile k cell := by unfold Rf.tatV; rw [if_pos hC]
      rw [hV, hC]
      clear hz hin hC hV
      go_enter Try.func40, Try.ntmps40
      go_wp2_with fail
      refine (l01Course_any w.heap.size c r k _ (rowAt_alloc_at w c 29 _ rfl) hR).mono ?_
      rintro e w0 ⟨rfl, rfl⟩
      go_wp2_with fail
      refine (l01Told_any w.heap.size c r _ _ (rowAt_alloc_at w c 29 _ rfl) hR).mono ?_
      rintro e w1 ⟨rfl, b1⟩
      have q1 := brow b1 (rowAt_alloc_at w c 29 _ rfl)
      have B1 : Below w.heap.size w w1 := ((Below.refl _ _).alloc (Nat.le_refl _) _).trans (b1.mono (by simp))
      clear b1
      go_wp2_with fail
      refine (l01Cells_any w.heap.size c r _ q1 hR).mono ?_
      rintro e w2 ⟨rfl, rfl⟩
      go_wp2_with fail
      refine (l00In_t _ _ _ _ (by omega)).mono ?_
      rintro e w2 ⟨rfl, rfl⟩
      go_wp2_with fail
      refine (l01Tile_any w.heap.size c r k cell _ q1 hR (by omega) (by omega) (by omega)).mono ?_
      rintro e w2 ⟨rfl, rfl⟩
      go_wp2_with fail
      go_ret2
      exact ⟨rfl, B1⟩
    · have hC : r.tatC k cell = 2 := by unfold Rf.tatC; rw [if_pos hz, if_neg hcl]
      have hV : r.tatV k cell = 0 := by unfold Rf.tatV; rw [if_neg (by rw [hC]; omega)]
      rw [hV, hC]
      clear hz hin hC hV
      go_enter Try.func40, Try.ntmps40
      go_wp2_with fail
      refine (l01Course_any w.heap.size c r k _ (rowAt_alloc_at w c 29 _ rfl) hR).mono ?_
      rintro e w0 ⟨rfl, rfl⟩
      go_wp2_with fail
      refine (l01Told_any w.heap.size c r _ _ (rowAt_alloc_at w c 29 _ rfl) hR).mono ?_
      rintro e w1 ⟨rfl, b1⟩
      have q1 := brow b1 (rowAt_alloc_at w c 29 _ rfl)
      have B1 : Below w.heap.size w w1 := ((Below.refl _ _).alloc (Nat.le_refl _) _).trans (b1.mono (by simp))
      clear b1
      go_wp2_with fail
      refine (l01Cells_any w.heap.size c r _ q1 hR).mono ?_
      rintro e w2 ⟨rfl, rfl⟩
      go_wp2_with fail
      refine (l00In_f _ _ _ _ (by omega)).mono ?_
      rintro e w2 ⟨rfl, rfl⟩
      go_wp2_with fail
      go_ret2
      exact ⟨rfl, B1⟩
  · have hC : r.tatC k cell = r.told (inB k 0 (r.h - 1)) := by unfold Rf.tatC; rw [if_neg hz]
    have hV : r.tatV k cell = 0 := by unfold Rf.tatV; rw [if_neg (by rw [hC]; exact hz)]
    rw [hV, hC]
    have hb1 : (r.told (inB k 0 (r.h - 1)) != 0) = true := by simp [hz]
    clear hz hC hV
    go_enter Try.func40, Try.ntmps40
    go_wp2_with fail
    refine (l01Course_any w.heap.size c r k _ (rowAt_alloc_at w c 29 _ rfl) hR).mono ?_
    rintro e w0 ⟨rfl, rfl⟩
    go_wp2_with fail
    refine (l01Told_any w.heap.size c r _ _ (rowAt_alloc_at w c 29 _ rfl) hR).mono ?_
    rintro e w1 ⟨rfl, b1⟩
    have B1 : Below w.heap.size w w1 := ((Below.refl _ _).alloc (Nat.le_refl _) _).trans (b1.mono (by simp))
    clear b1
    go_wp2_with fail
    go_ret2
    exact ⟨rfl, B1⟩

set_option maxHeartbeats 400000 in
theorem implTileAt_any (c : Array Value) (r : Rf) (k cell : Int) (w : World) (hR : IsRoof c r) :
    Calls Try.prog 41 #[.agg c, .int .i64 k, .int .i64 cell] w fun e w' => e = .returned (.tuple #[.int .i64 (r.tatV k cell), .int .i64 (r.tatC k cell)]) ∧ Below w.heap.size w w' := by
  obtain ⟨hc, k0, k1, k2, w0, wl, h0, h1, s0, s1⟩ := hR.view
  clear k1 k2
  by_cases hz : r.told (inB k 0 (r.h - 1)) = 0
  · obtain ⟨ho, hin⟩ := Rf.told_zero hz
    have hin' : 0 ≤ k ∧ k ≤ r.h - 1 := by simpa [inB] using hin
    have hh := ho.2.2.2.1
    have hw1 := ho.1
    have hw8 := ho.2.1
    have hb1 : (r.told (inB k 0 (r.h - 1)) != 0) = false := by simp [hz]
    by_cases hcl0 : 0 ≤ cell
    · by_cases hcl1 : cell ≤ 2 * r.w
      · have hC : r.tatC k cell = 0 := by unfold Rf.tatC; rw [if_pos hz, if_pos ⟨hcl0, hcl1⟩]
        have hV : r.tatV k cell = r.tile k cell := by unfold Rf.tatV; rw [if_pos hC]
        rw [hV, hC]
        clear hz hin hC hV
        go_enter Try.func41, Try.ntmps41
        go_wp2_with fail
        refine (checkCourse_any c r k _ hR).mono ?_
        rintro e w1 ⟨rfl, b1⟩
        obtain ⟨v1, v2, v3, v4⟩ := bview b1
        have B1 : Below w.heap.size w w1 := ((Below.refl _ _).alloc (Nat.le_refl _) _).trans (b1.mono (by simp))
        clear b1
        have q1 := (v1 w.heap.size (by simp)).trans (rowAt_alloc_at w c 29 _ rfl)
        go_wp2_with fail
        refine (across_any c r _ hR).mono ?_
        rintro e wA ⟨rfl, bA⟩
        have qA := brow bA q1
        have BA := bnext B1 bA B1.size
        clear bA v1 v2 v3 v4 q1
        go_wp2_with fail
        refine (tileAt_any c r k cell _ hR (by omega) (by omega) (by omega)).mono ?_
        rintro e w2 ⟨rfl, b2⟩
        have B2 := bnext BA b2 BA.size
        clear b2
        go_wp2_with fail
        go_ret2
        exact ⟨rfl, B2⟩
      · have hC : r.tatC k cell = 2 := by unfold Rf.tatC; rw [if_pos hz, if_neg (fun h => hcl1 h.2)]
        have hV : r.tatV k cell = 0 := by unfold Rf.tatV; rw [if_neg (by rw [hC]; omega)]
        rw [hV, hC]
        clear hz hin hC hV
        go_enter Try.func41, Try.ntmps41
        go_wp2_with fail
        refine (checkCourse_any c r k _ hR).mono ?_
        rintro e w1 ⟨rfl, b1⟩
        obtain ⟨v1, v2, v3, v4⟩ := bview b1
        have B1 : Below w.heap.size w w1 := ((Below.refl _ _).alloc (Nat.le_refl _) _).trans (b1.mono (by simp))
        clear b1
        have q1 := (v1 w.heap.size (by simp)).trans (rowAt_alloc_at w c 29 _ rfl)
        go_wp2_with fail
        refine (across_any c r _ hR).mono ?_
        rintro e wA ⟨rfl, bA⟩
        have BA := bnext B1 bA B1.size
        clear bA v1 v2 v3 v4 q1
        go_wp2_with fail
        go_ret2
        exact ⟨rfl, BA⟩
    · have hC : r.tatC k cell = 2 := by unfold Rf.tatC; rw [if_pos hz, if_neg (fun h => hcl0 h.1)]
      have hV : r.tatV k cell = 0 := by unfold Rf.tatV; rw [if_neg (by rw [hC]; omega)]
      rw [hV, hC]
      clear hz hin hC hV
      go_enter Try.func41, Try.ntmps41
      go_wp2_with fail
      refine (checkCourse_any c r k _ hR).mono ?_
      rintro e w1 ⟨rfl, b1⟩
      obtain ⟨v1, v2, v3, v4⟩ := bview b1
      have B1 : Below w.heap.size w w1 := ((Below.refl _ _).alloc (Nat.le_refl _) _).trans (b1.mono (by simp))
      clear b1
      go_wp2_with fail
      go_ret2
      exact ⟨rfl, B1⟩
  · have hC : r.tatC k cell = r.told (inB k 0 (r.h - 1)) := by unfold Rf.tatC; rw [if_neg hz]
    have hV : r.tatV k cell = 0 := by unfold Rf.tatV; rw [if_neg (by rw [hC]; exact hz)]
    rw [hV, hC]
    have hb1 : (r.told (inB k 0 (r.h - 1)) != 0) = true := by simp [hz]
    clear hz hC hV
    go_enter Try.func41, Try.ntmps41
    go_wp2_with fail
    refine (checkCourse_any c r k _ hR).mono ?_
    rintro e w1 ⟨rfl, b1⟩
    have B1 : Below w.heap.size w w1 := ((Below.refl _ _).alloc (Nat.le_refl _) _).trans (b1.mono (by simp))
    clear b1
    go_wp2_with fail
    go_ret2
    exact ⟨rfl, B1⟩

set_option maxHeartbeats 400000 in
theorem law_walk_FnExactTileAt {c : Array Value} {r : Rf} (hR : IsRoof c r) {k : Int} (_hk : -9223372036854775808 ≤ k ∧ k ≤ 9223372036854775807) {cell : Int} (_hcell : -9223372036854775808 ≤ cell ∧ cell ≤ 9223372036854775807) (w : World) :
    Calls Try.prog 12 #[.agg c, .int .i64 k, .int .i64 cell] w fun e w' => e = .returned (.bool true) ∧ Below w.heap.size w w' := by
  have hc := hR.size
  have hbb : (r.tatV k cell != r.tatV k cell) = false := by simp
  have hcc : (r.tatC k cell != r.tatC k cell) = false := by simp
  go_enter Try.func12, Try.ntmps12
  go_wp2_with fail
  refine (toRoof_any c r _ hR).mono ?_
  rintro e w1 ⟨rfl, b1⟩
  have q1 := brow b1 (rowAt_alloc_at w c 26 _ rfl)
  have B1 : Below w.heap.size w w1 := ((Below.refl _ _).alloc (Nat.le_refl _) _).trans (b1.mono (by simp))
  clear b1
  go_wp2_with fail
  refine (specTileAt_any c r k cell _ hR).mono ?_
  rintro e w2 ⟨rfl, b2⟩
  have q2 := brow b2 q1
  have B2 := bnext B1 b2 B1.size
  clear b2 q1 B1
  go_wp2_with fail
  refine (toRoof_any c r _ hR).mono ?_
  rintro e w3 ⟨rfl, b3⟩
  have B3 := bnext B2 b3 B2.size
  clear b3 q2 B2
  go_wp2_with fail
  refine (implTileAt_any c r k cell _ hR).mono ?_
  rintro e w4 ⟨rfl, b4⟩
  have B4 := bnext B3 b4 B3.size
  clear b4 B3
  go_wp2_with fail
  go_ret
  exact ⟨rfl, B4⟩

namespace LFnExactTileAt
open Go.RowKit Go.ChangeShapes Go.WideShapes Go.ChangeAt
theorem own : ownKnob Try.prog.godebug = none := by kernel_rfl
theorem laidOut : laidOutB Try.prog = true := by kernel_rfl
set_option maxRecDepth 100000 in
theorem lifted (os : Os) (started : os.Started) (H : Type) (enc : TypeId × Value → H) :
    ReturnsInHanded {} Try.checked os 12 .any (Rows.fnExactTileAtSpec.pre6 enc Try.prog Try.f12 Rows.fnExactTileAtRow.domain false) (Rows.fnExactTileAtSpec.post enc Try.prog Try.f12 false true false false) := by
  refine returnsInHanded_of_change (C := Try.checked) own started (by kernel_rfl) Try.func12
    (ChangeSpec.witness6 (enc := enc) (C := Try.checked) false ⟨#[], #[.agg Try.zeroCells26, .int .i64 0, .int .i64 0], []⟩ 8 (by kernel_rfl) (by kernel_rfl) (by kernel_rfl) (by kernel_rfl)) ?_
  intro W base args ds gs before hval0 hW hcnd _
  have hval : ∀ (j : Nat) t v, Try.f12.params[j]? = some t → args[j]? = some v → Value.okWide Try.prog W .any base t v := hval0
  have hW' := hW
  obtain ⟨p, q, hA0, hV, rfl, hfz, hnd⟩ := hW
  have hA : DataW.TrodAll enc Try.prog W 0 (fun _ => true) true Try.f12.params.toList args.toList ds p := hA0
  rw [Try.params12] at hA hval
  obtain ⟨v0, vs0, d0, ds0, p0, q0, hargs, rfl, rfl, h0, r0⟩ := trodAll_cons hA
  obtain ⟨v1, vs1, d1, ds1, p1, q1, rfl, rfl, rfl, h1, r1⟩ := trodAll_cons r0
  obtain ⟨v2, vs2, d2, ds2, p2, q2, rfl, rfl, rfl, h2, r2⟩ := trodAll_cons r1
  obtain ⟨rfl, rfl, rfl⟩ := trodAll_nil r2
  obtain rfl : args = #[v0, v1, v2] := by cases args; simp_all
  obtain ⟨rfl, rfl⟩ := trodVars_none hV
  have k0 := h0
  have lt0 : ∀ x ∈ p0, x.block < W.heap.size := by obtain ⟨m, hm⟩ := k0; exact DataW.trod_lt m _ _ _ hm
  obtain ⟨c0, f0, rfl, wf0⟩ := open_roof (hval 0 26 v0 rfl rfl) h0
  obtain ⟨x1, rfl, rfl, rfl, wx1⟩ := open_int Try.underlying2 (hval 1 2 v1 rfl rfl) h1
  obtain ⟨x2, rfl, rfl, rfl, wx2⟩ := open_int Try.underlying2 (hval 2 2 v2 rfl rfl) h2
  clear hA0 hval0
  refine (law_walk_FnExactTileAt wf0 (bounds_i64 wx1) (bounds_i64 wx2) W).mono fun e W' ⟨he, bel⟩ => ?_
  subst he
  exact ⟨_, rfl, _, _, _, [], _, [], hW', trodAll_mk1 (shut_bool Try.underlying4 _), (trodAll_cons_mk (Below.trod laidOut (by kernel_rfl) (of_decide_eq_true (by kernel_rfl)) k0 bel lt0) (trodAll_cons_mk (shut_int Try.underlying2 wx1) (trodAll_cons_mk (shut_int Try.underlying2 wx2) trodAll_mk0))), rfl, bel.frame _, fun h => by cases h⟩

theorem over : Rows.fnExactTileAtRow.holds Try.pinned (OpenSpec.ofChange Rows.fnExactTileAtSpec) :=
  OpenClaim.holds_of_wide 12 Try.f12 rfl rfl rfl rfl rfl rfl rfl ⟨rfl, rfl, rfl, rfl, rfl⟩ rfl rfl rfl rfl rfl (by kernel_rfl) Try.func12 (by kernel_rfl)
    (of_decide_eq_true (by kernel_rfl)) (by unfold Func.isWrapper; first | (rw [if_pos (by decide +kernel)]; kernel_rfl) | (rw [if_neg (by decide +kernel)]; exact ⟨rfl, rfl⟩))
    (fun os started H enc _ => lifted os started H enc)

theorem proved : Rows.FnExactTileAtSaid := over
end LFnExactTileAt

end Go.Proofs.Ytnckgbjhjgocjaa
