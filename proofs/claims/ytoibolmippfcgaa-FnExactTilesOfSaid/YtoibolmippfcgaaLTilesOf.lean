/- laws.FnExactTilesOf returns true for every roof and numbers, and leaves them as they were. No condition. -/
import Derived.Test.YtoibolmippfcgaaHelp
import Derived.Test.YtoibolmippfcgaaOpen
import Derived.Test.YtoibolmippfcgaaNums
import Derived.Test.YtoibolmippfcgaaListP
import Derived.Test.YtoibolmippfcgaaHeld
import Derived.Test.YtoibolmippfcgaaTiles
namespace Go.Proofs.Ytoibolmippfcgaa
open Go.RowKit

set_option maxRecDepth 100000 in
set_option maxHeartbeats 2000000 in
theorem law_walk_FnExactTilesOf {c : Array Value} {r : Rf} (hR : IsRoof c r) {k : Int} (_hk : -9223372036854775808 ≤ k ∧ k ≤ 9223372036854775807) (w : World) :
    Calls Try.prog 4 #[.agg c, .int .i64 k] w fun e w' => e = .returned (.bool true) ∧ Below w.heap.size w w' := by
  have hc := hR.size
  have p0 := rowAt_alloc_at w c 26 w.heap.size rfl
  have pB : Below w.heap.size w (w.alloc (.cells c 26)) := (Below.refl _ _).alloc (Nat.le_refl _) _
  have CS := fun w => specTilesOf_any c r k w hR
  have CI := fun w => implTilesOf_any c r k w hR
  unfold GivesPs at CS CI
  have hcc : ((r.told (inB k 0 3)) != (r.told (inB k 0 3))) = false := by simp
  generalize (r.told (inB k 0 3)) = cd at *
  have hle : (r.tkL k).length ≤ 64 := r.tkL_le k
  generalize hnn : (r.tkL k).length = nn at *
  generalize hff : plAt (r.tkL k) = ff at *
  have hnb : nn ≤ 1000000 := by omega
  obtain ⟨M, hM⟩ : ∃ M : Int, M = ((1 + 2 * nn : Nat) : Int) := ⟨_, rfl⟩
  have hM0 : 0 ≤ M := by omega
  have hmm : (M != M) = false := by simp
  have hml : decide (M < 0) = false := by simp; omega
  have HM := Lib.hid hM
  clear hM hnn hff
  go_enter Try.func4, Try.ntmps4
  go_wp2_with fail
  refine (toRoof_any c r _ hR).mono ?_
  rintro e w1 ⟨rfl, b1⟩
  have q1 := brow b1 p0
  have B1 := bnext pB b1 pB.size
  clear b1 p0 pB
  go_wp2_with fail
  refine (CS _).mono ?_
  rintro e w2 ⟨v0, rfl, l0, b2⟩
  have q2 := brow b2 q1
  have B2 := bnext B1 b2 B1.size
  have l0 := l0.mono (Nat.zero_le _)
  clear b2 q1 B1
  go_wp2_with fail
  refine (toRoof_any c r _ hR).mono ?_
  rintro e w3 ⟨rfl, b3⟩
  have q3 := brow b3 q2
  have B3 := bnext B2 b3 B2.size
  have l0 := l0.below b3 (Nat.le_refl _)
  clear b3 q2 B2
  have lt0 := l0.lt (Nat.le_refl _)
  obtain ⟨N, hN⟩ : ∃ N, N = w3.heap.size := ⟨_, rfl⟩
  have hNn : w.heap.size < N := by rw [hN]; exact rowAt_lt q3
  rw [← hN] at lt0
  go_wp2_with fail
  refine (CI _).mono ?_
  rintro e w4 ⟨v1, rfl, l1, b4⟩
  rw [← hN] at l1
  have q4 := brow b4 q3
  have B4 := bnext B3 b4 B3.size
  have l0 := l0.below b4 (Nat.le_refl _)
  clear b4 q3 B3 hN
  go_wp2_with fail
  refine (eqPlaceS_same nn ff v1 v0 _ _ _ l1 l0 (by omega)).mono ?_
  rintro e w5 ⟨rfl, b5⟩
  have q5 := brow b5 q4
  have B5 := bnext B4 b5 B4.size
  have l0 := l0.below b5 (Nat.le_refl _)
  have l1 := l1.below b5 (Nat.le_refl _)
  clear b5 q4 B4
  go_wp2_with fail
  refine (markP1 nn _ v1 N M HM.out _ l1 hnb).mono ?_
  rintro e w6 ⟨rfl, l1b, b6⟩
  have q6 := brow' b6 hNn q5
  have B6 := B5.trans (b6.mono (Nat.le_of_lt hNn))
  have l0 := l0.kept2 b6 lt0
  clear b6 q5 B5 l1
  go_wp2_with fail
  refine (heldP1 nn v1 N M HM.out _ l1b hnb).mono ?_
  rintro e w7 ⟨rfl, rfl⟩
  go_wp2_with fail
  refine (toRoof_any c r _ hR).mono ?_
  rintro e w8 ⟨rfl, b8⟩
  have B8 := bnext B6 b8 B6.size
  have l0 := l0.below b8 (Nat.le_refl _)
  have l1b := l1b.below b8 (Nat.le_refl _)
  clear b8 q6 B6
  go_wp2_with fail
  refine (CI _).mono ?_
  rintro e w9 ⟨v2, rfl, l2, b9⟩
  have B9 := bnext B8 b9 B8.size
  have l0 := l0.below b9 (Nat.le_refl _)
  have l1b := l1b.below b9 (Nat.le_refl _)
  clear b9 B8
  go_wp2_with fail
  refine (eqPlaceS_same nn ff v2 v0 _ _ _ l2 l0 (by omega)).mono ?_
  rintro e wa ⟨rfl, ba⟩
  have Ba := bnext B9 ba B9.size
  have l1b := l1b.below ba (Nat.le_refl _)
  clear ba B9 l0 l2
  go_wp2_with fail
  refine (heldP1 nn v1 N M HM.out _ l1b hnb).mono ?_
  rintro e wb ⟨rfl, rfl⟩
  go_wp2_with fail
  go_ret
  exact ⟨rfl, Ba⟩

namespace LFnExactTilesOf
open Go.RowKit Go.ChangeShapes Go.WideShapes Go.ChangeAt
theorem own : ownKnob Try.prog.godebug = none := by kernel_rfl
theorem laidOut : laidOutB Try.prog = true := by kernel_rfl
set_option maxRecDepth 100000 in
theorem lifted (os : Os) (started : os.Started) (H : Type) (enc : TypeId × Value → H) :
    ReturnsInHanded {} Try.checked os 4 .any (Rows.fnExactTilesOfSpec.pre6 enc Try.prog Try.f4 Rows.fnExactTilesOfRow.domain false) (Rows.fnExactTilesOfSpec.post enc Try.prog Try.f4 false true false false) := by
  refine returnsInHanded_of_change (C := Try.checked) own started (by kernel_rfl) Try.func4
    (ChangeSpec.witness6 (enc := enc) (C := Try.checked) false ⟨#[], #[.agg Try.zeroCells26, .int .i64 0], []⟩ 8 (by kernel_rfl) (by kernel_rfl) (by kernel_rfl) (by kernel_rfl)) ?_
  intro W base args ds gs before hval0 hW hcnd _
  have hval : ∀ (j : Nat) t v, Try.f4.params[j]? = some t → args[j]? = some v → Value.okWide Try.prog W .any base t v := hval0
  have hW' := hW
  obtain ⟨p, q, hA0, hV, rfl, hfz, hnd⟩ := hW
  have hA : DataW.TrodAll enc Try.prog W 0 (fun _ => true) true Try.f4.params.toList args.toList ds p := hA0
  rw [Try.params4] at hA hval
  obtain ⟨v0, vs0, d0, ds0, p0, q0, hargs, rfl, rfl, h0, r0⟩ := trodAll_cons hA
  obtain ⟨v1, vs1, d1, ds1, p1, q1, rfl, rfl, rfl, h1, r1⟩ := trodAll_cons r0
  obtain ⟨rfl, rfl, rfl⟩ := trodAll_nil r1
  obtain rfl : args = #[v0, v1] := by cases args; simp_all
  obtain ⟨rfl, rfl⟩ := trodVars_none hV
  have k0 := h0
  have lt0 : ∀ x ∈ p0, x.block < W.heap.size := by obtain ⟨m, hm⟩ := k0; exact DataW.trod_lt m _ _ _ hm
  obtain ⟨c0, f0, rfl, wf0⟩ := open_roof (hval 0 26 v0 rfl rfl) h0
  obtain ⟨x1, rfl, rfl, rfl, wx1⟩ := open_int Try.underlying2 (hval 1 2 v1 rfl rfl) h1
  clear hA0 hval0
  refine (law_walk_FnExactTilesOf wf0 (bounds_i64 wx1) W).mono fun e W' ⟨he, bel⟩ => ?_
  subst he
  exact ⟨_, rfl, _, _, _, [], _, [], hW', trodAll_mk1 (shut_bool Try.underlying4 _), (trodAll_cons_mk (Below.trod laidOut (by kernel_rfl) (of_decide_eq_true (by kernel_rfl)) k0 bel lt0) (trodAll_cons_mk (shut_int Try.underlying2 wx1) trodAll_mk0)), rfl, bel.frame _, fun h => by cases h⟩

theorem over : Rows.fnExactTilesOfRow.holds Try.pinned (OpenSpec.ofChange Rows.fnExactTilesOfSpec) :=
  OpenClaim.holds_of_wide 4 Try.f4 rfl rfl rfl rfl rfl rfl rfl ⟨rfl, rfl, rfl, rfl, rfl⟩ rfl rfl rfl rfl rfl (by kernel_rfl) Try.func4 (by kernel_rfl)
    (of_decide_eq_true (by kernel_rfl)) (by unfold Func.isWrapper; first | (rw [if_pos (by decide +kernel)]; kernel_rfl) | (rw [if_neg (by decide +kernel)]; exact ⟨rfl, rfl⟩))
    (fun os started H enc _ => lifted os started H enc)

theorem proved : Rows.FnExactTilesOfSaid := over
end LFnExactTilesOf


end Go.Proofs.Ytoibolmippfcgaa
