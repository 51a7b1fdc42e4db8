/- laws.FnExactReachFrom returns true for every roof, number, number, and leaves them as they were. No condition. -/
import Derived.Test.YtoibolmippfcgaaHelp
import Derived.Test.YtoibolmippfcgaaOpen
import Derived.Test.YtoibolmippfcgaaNums
import Derived.Test.YtoibolmippfcgaaGive
import Derived.Test.YtoibolmippfcgaaLsP
import Derived.Test.YtoibolmippfcgaaReachF
namespace Go.Proofs.Ytoibolmippfcgaa
open Go.RowKit

set_option maxRecDepth 100000 in
set_option maxHeartbeats 4000000 in
theorem law_walk_FnExactReachFrom {w : World} {c : Array Value} {r : Rf} (hR : IsRoof c r) {x : Int} (_hx : -9223372036854775808 ≤ x ∧ x ≤ 9223372036854775807) {y : Int} (_hy : -9223372036854775808 ≤ y ∧ y ≤ 9223372036854775807) :
    Calls Try.prog 9 #[.agg c, .int .i64 x, .int .i64 y] w fun e w' => e = .returned (.bool true) ∧ Below w.heap.size w w' := by
  have hc := hR.size
  have q0 := rowAt_alloc_at w c 26 w.heap.size rfl
  have PB0 := Lib.hid (show Below w.heap.size w (w.alloc (.cells c 26)) from (Below.refl _ _).alloc (Nat.le_refl _) _)
  have CS := fun (W : World)   => specReachFrom_any c r x y W hR
  have CI := fun (W : World)   => implReachFrom_any c r x y W hR
  have hne0 : ((r.rcode x y) != (r.rcode x y)) = false := by simp
  generalize (r.rcode x y) = x0 at *
  unfold GivesT at CS CI
  have hnb : ((r.rL x y).length) ≤ 2000000 := r.rL_le x y
  generalize ((r.rL x y).length) = nn at *
  generalize (plAt (r.rL x y)) = ff at *
  obtain ⟨M, hM⟩ : ∃ M : Int, M = ((1 + 2 * nn : Nat) : Int) := ⟨_, rfl⟩
  have hM0 : 0 ≤ M := by omega
  have hmm : (M != M) = false := by simp
  have HM := Lib.hid hM
  clear hM
  go_enter Try.func9, Try.ntmps9
  go_wp2_with fail
  refine gen_callsW fun W0 hW => ?_
  rw [← hW] at q0 PB0
  clear hW
  have H0 := Lib.hid (Below.refl W0.heap.size W0)
  refine (toRoof_any c r _ hR).mono ?_
  rintro e w1 ⟨rfl, b1⟩
  have H1 := Lib.hid (bnext H0.out b1 H0.out.size)
  clear b1 H0
  have q1 := brow H1.out q0
  go_wp2_with fail
  refine (CS _  ).mono ?_
  rintro e w2 ⟨u_W, rfl, l_W, b2⟩
  have H2 := Lib.hid (bnext H1.out b2 H1.out.size)
  obtain ⟨g_W, hg_W, k_W⟩ := l_W.ls
  have g0_W : W0.heap.size ≤ g_W := Nat.le_trans H1.out.size hg_W
  obtain ⟨a_W, c_W, rfl⟩ := l_W.shape
  have W_2 := Lib.hid k_W
  clear l_W k_W hg_W
  clear b2 H1
  have q2 := brow H2.out q0
  go_wp2_with fail
  refine (toRoof_any c r _ hR).mono ?_
  rintro e w3 ⟨rfl, b3⟩
  have H3 := Lib.hid (bnext H2.out b3 H2.out.size)
  have W_3 := Lib.hid (W_2.out.below b3 (Nat.le_refl _))
  clear b3 H2 W_2
  have q3 := brow H3.out q0
  go_wp2_with fail
  refine (CI _  ).mono ?_
  rintro e w4 ⟨u_G, rfl, l_G, b4⟩
  have H4 := Lib.hid (bnext H3.out b4 H3.out.size)
  have W_4 := Lib.hid (W_3.out.below b4 (Nat.le_refl _))
  obtain ⟨g_G, hg_G, k_G⟩ := l_G.ls
  have ne_W_G := W_3.out.ne hg_G
  have g0_G : W0.heap.size ≤ g_G := Nat.le_trans H3.out.size hg_G
  obtain ⟨a_G, c_G, rfl⟩ := l_G.shape
  have G_4 := Lib.hid k_G
  clear l_G k_G hg_G
  clear b4 H3 W_3
  have q4 := brow H4.out q0
  go_wp2_with fail
  refine (eqPlaceS_same nn ff _ _ _ _ _ G_4.out.list W_4.out.list (by omega)).mono ?_
  rintro e w5 ⟨rfl, b5⟩
  have H5 := Lib.hid (bnext H4.out b5 H4.out.size)
  have W_5 := Lib.hid (W_4.out.below b5 (Nat.le_refl _))
  have G_5 := Lib.hid (G_4.out.below b5 (Nat.le_refl _))
  clear b5 H4 W_4 G_4
  have q5 := brow H5.out q0
  go_wp2_with fail
  refine (markPK nn _ _ g_G (1) 1 M rfl HM.out _ G_5.out (by omega) (by omega)).mono ?_
  rintro e w6 ⟨rfl, kk6, o6, z6⟩
  have H6 := Lib.hid (H5.out.trans (o6.below.mono g0_G))
  have W_6 := Lib.hid (W_5.out.only o6 ne_W_G)
  have G_6 := Lib.hid kk6
  clear kk6 o6 z6 H5 W_5 G_5
  have q6 := brow H6.out q0
  go_wp2_with fail
  refine (heldPK nn _ g_G 1 1 M rfl HM.out _ G_6.out (by omega) (by omega)).mono ?_
  rintro e w6_ ⟨rfl, rfl⟩
  go_wp2_with fail
  refine (toRoof_any c r _ hR).mono ?_
  rintro e w7 ⟨rfl, b7⟩
  have H7 := Lib.hid (bnext H6.out b7 H6.out.size)
  have W_7 := Lib.hid (W_6.out.below b7 (Nat.le_refl _))
  have G_7 := Lib.hid (G_6.out.below b7 (Nat.le_refl _))
  clear b7 H6 W_6 G_6
  have q7 := brow H7.out q0
  go_wp2_with fail
  refine (CI _  ).mono ?_
  rintro e w8 ⟨u_H, rfl, l_H, b8⟩
  have H8 := Lib.hid (bnext H7.out b8 H7.out.size)
  have W_8 := Lib.hid (W_7.out.below b8 (Nat.le_refl _))
  have G_8 := Lib.hid (G_7.out.below b8 (Nat.le_refl _))
  obtain ⟨g_H, hg_H, k_H⟩ := l_H.ls
  have ne_W_H := W_7.out.ne hg_H
  have ne_G_H := G_7.out.ne hg_H
  have g0_H : W0.heap.size ≤ g_H := Nat.le_trans H7.out.size hg_H
  obtain ⟨a_H, c_H, rfl⟩ := l_H.shape
  have H_8 := Lib.hid k_H
  clear l_H k_H hg_H
  clear b8 H7 W_7 G_7
  have q8 := brow H8.out q0
  go_wp2_with fail
  refine (eqPlaceS_same nn ff _ _ _ _ _ H_8.out.list W_8.out.list (by omega)).mono ?_
  rintro e w9 ⟨rfl, b9⟩
  have H9 := Lib.hid (bnext H8.out b9 H8.out.size)
  have W_9 := Lib.hid (W_8.out.below b9 (Nat.le_refl _))
  have G_9 := Lib.hid (G_8.out.below b9 (Nat.le_refl _))
  have H_9 := Lib.hid (H_8.out.below b9 (Nat.le_refl _))
  clear b9 H8 W_8 G_8 H_8
  have q9 := brow H9.out q0
  go_wp2_with fail
  refine (heldPK nn _ g_G 1 1 M rfl HM.out _ G_9.out (by omega) (by omega)).mono ?_
  rintro e w9_ ⟨rfl, rfl⟩
  go_wp2_with fail
  go_ret
  exact ⟨rfl, PB0.out.trans (H9.out.mono PB0.out.size)⟩

namespace LFnExactReachFrom
open Go.RowKit Go.ChangeShapes Go.WideShapes Go.ChangeAt
theorem own : ownKnob Try.prog.godebug = none := by kernel_rfl
theorem laidOut : laidOutB Try.prog = true := by kernel_rfl
set_option maxRecDepth 100000 in
theorem lifted (os : Os) (started : os.Started) (H : Type) (enc : TypeId × Value → H) :
    ReturnsInHanded {} Try.checked os 9 .any (Rows.fnExactReachFromSpec.pre6 enc Try.prog Try.f9 Rows.fnExactReachFromRow.domain false) (Rows.fnExactReachFromSpec.post enc Try.prog Try.f9 false true false false) := by
  refine returnsInHanded_of_change (C := Try.checked) own started (by kernel_rfl) Try.func9
    (ChangeSpec.witness6 (enc := enc) (C := Try.checked) false ⟨#[], #[.agg Try.zeroCells26, .int .i64 0, .int .i64 0], []⟩ 8 (by kernel_rfl) (by kernel_rfl) (by kernel_rfl) (by kernel_rfl)) ?_
  intro W base args ds gs before hval0 hW hcnd _
  have hval : ∀ (j : Nat) t v, Try.f9.params[j]? = some t → args[j]? = some v → Value.okWide Try.prog W .any base t v := hval0
  have hW' := hW
  obtain ⟨p, q, hA0, hV, rfl, hfz, hnd⟩ := hW
  have hA : DataW.TrodAll enc Try.prog W 0 (fun _ => true) true Try.f9.params.toList args.toList ds p := hA0
  rw [Try.params9] at hA hval
  obtain ⟨v0, vs0, d0, ds0, p0, q0, hargs, rfl, rfl, h0, r0⟩ := trodAll_cons hA
  obtain ⟨v1, vs1, d1, ds1, p1, q1, rfl, rfl, rfl, h1, r1⟩ := trodAll_cons r0
  obtain ⟨v2, vs2, d2, ds2, p2, q2, rfl, rfl, rfl, h2, r2⟩ := trodAll_cons r1
  obtain ⟨rfl, rfl, rfl⟩ := trodAll_nil r2
  obtain rfl : args = #[v0, v1, v2] := by cases args; simp_all
  obtain ⟨rfl, rfl⟩ := trodVars_none hV
  have k0 := h0
  have lt0 : ∀ x ∈ p0, x.block < W.heap.size := by obtain ⟨m, hm⟩ := k0; exact DataW.trod_lt m _ _ _ hm
  obtain ⟨c0, f0, rfl, wf0⟩ := open_roof (hval 0 26 v0 rfl rfl) h0
  obtain ⟨x1, rfl, rfl, rfl, wx1⟩ := open_int Try.underlying2 (hval 1 2 v1 rfl rfl) h1
  obtain ⟨x2, rfl, rfl, rfl, wx2⟩ := open_int Try.underlying2 (hval 2 2 v2 rfl rfl) h2
  clear hA0 hval0
  refine (law_walk_FnExactReachFrom wf0 (bounds_i64 wx1) (bounds_i64 wx2)).mono fun e W' ⟨he, bel⟩ => ?_
  subst he
  exact ⟨_, rfl, _, _, _, [], _, [], hW', trodAll_mk1 (shut_bool Try.underlying4 _), (trodAll_cons_mk (Below.trod laidOut (by kernel_rfl) (of_decide_eq_true (by kernel_rfl)) k0 bel lt0) (trodAll_cons_mk (shut_int Try.underlying2 wx1) (trodAll_cons_mk (shut_int Try.underlying2 wx2) trodAll_mk0))), rfl, bel.frame _, fun h => by cases h⟩

theorem over : Rows.fnExactReachFromRow.holds Try.pinned (OpenSpec.ofChange Rows.fnExactReachFromSpec) :=
  OpenClaim.holds_of_wide 9 Try.f9 rfl rfl rfl rfl rfl rfl rfl ⟨rfl, rfl, rfl, rfl, rfl⟩ rfl rfl rfl rfl rfl (by kernel_rfl) Try.func9 (by kernel_rfl)
    (of_decide_eq_true (by kernel_rfl)) (by unfold Func.isWrapper; first | (rw [if_pos (by decide +kernel)]; kernel_rfl) | (rw [if_neg (by decide +kernel)]; exact ⟨rfl, rfl⟩))
    (fun os started H enc _ => lifted os started H enc)

theorem proved : Rows.FnExactReachFromSaid := over
end LFnExactReachFrom


end Go.Proofs.Ytoibolmippfcgaa
