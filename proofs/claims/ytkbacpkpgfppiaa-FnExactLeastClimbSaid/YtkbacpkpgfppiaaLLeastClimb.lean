/- laws.FnExactLeastClimb returns true for every roof, list of places, number, and leaves them as they were. No condition. -/
import Derived.Test.YtkbacpkpgfppiaaHelp
import Derived.Test.YtkbacpkpgfppiaaOpen
import Derived.Test.YtkbacpkpgfppiaaNums
import Derived.Test.YtkbacpkpgfppiaaGive
import Derived.Test.YtkbacpkpgfppiaaArgL
import Derived.Test.YtkbacpkpgfppiaaLsP
import Derived.Test.YtkbacpkpgfppiaaLClm
namespace Go.Proofs.Ytkbacpkpgfppiaa
open Go.RowKit

set_option maxRecDepth 100000 in
set_option maxHeartbeats 4000000 in
theorem law_walk_FnExactLeastClimb {w : World} {c : Array Value} {r : Rf} (hR : IsRoof c r) {v_f : Value} {m_f : Nat} {f : Nat → Int} (hv_f : ArgL w v_f m_f f) (hm_f : m_f ≤ maxLen) (hb_f : ∀ i, i < m_f * 2 → -128 ≤ f i ∧ f i ≤ 127) {y : Int} (_hy : -9223372036854775808 ≤ y ∧ y ≤ 9223372036854775807) :
    Calls Try.prog 3 #[.agg c, v_f, .int .i64 y] w fun e w' => e = .returned (.bool true) ∧ Below w.heap.size w w' := by
  have hc := hR.size
  have q0 := rowAt_alloc_at w c 26 w.heap.size rfl
  have PB0 := Lib.hid (show Below w.heap.size w (w.alloc (.cells c 26)) from (Below.refl _ _).alloc (Nat.le_refl _) _)
  have A_f := Lib.hid (hv_f.below PB0.out (Nat.le_refl _))
  have HB_f := Lib.hid hb_f
  have _hmm_f := hm_f
  obtain ⟨av_f, cv_f, rfl⟩ := hv_f.shape
  clear hv_f hb_f
  by_cases hl_f : m_f ≤ 1048576
  rotate_left
  · have hl1_f : (1048576 : Int) < m_f := by omega
    go_enter Try.func3, Try.ntmps3
    go_wp2_with fail
    refine gen_callsW fun W0 hW => ?_
    rw [← hW] at q0 PB0 A_f
    clear hW
    refine (szPlaceS_f _ m_f f _ A_f.out (by omega) hm_f).mono ?_
    rintro e w1 ⟨rfl, rfl⟩
    go_wp2_with fail
    go_ret
    exact ⟨rfl, PB0.out⟩
  have hl1_f : (m_f : Int) ≤ 1048576 := by omega
  have CS := fun (W : World) (B_f : Nat) (U_f : Option Addr) (H_f : IsList W B_f (.slice U_f m_f m_f) 2 m_f (fun i => .int .i8 (f i))) => specLeastClimb_any c r B_f m_f f U_f y W hR H_f (by omega) HB_f.out
  have CI := fun (W : World) (B_f : Nat) (U_f : Option Addr) (H_f : IsList W B_f (.slice U_f m_f m_f) 2 m_f (fun i => .int .i8 (f i))) => implLeastClimb_any c r B_f m_f f U_f y W hR H_f (by omega) HB_f.out
  have hne0 : ((r.lclV f m_f y) != (r.lclV f m_f y)) = false := by simp
  generalize (r.lclV f m_f y) = x0 at *
  have hne1 : ((r.clbC f m_f y) != (r.clbC f m_f y)) = false := by simp
  generalize (r.clbC f m_f y) = x1 at *
  go_enter Try.func3, Try.ntmps3
  go_wp2_with fail
  refine gen_callsW fun W0 hW => ?_
  rw [← hW] at q0 PB0 A_f
  clear hW
  have H0 := Lib.hid (Below.refl W0.heap.size W0)
  refine (szPlaceS_t _ m_f f _ A_f.out hl_f).mono ?_
  rintro e w1 ⟨rfl, rfl⟩
  go_wp2_with fail
  refine (toRoof_any c r _ hR).mono ?_
  rintro e w1 ⟨rfl, b1⟩
  have H1 := Lib.hid (bnext H0.out b1 H0.out.size)
  clear b1 H0
  have q1 := brow H1.out q0
  go_wp2_with fail
  refine (toPlaceS_c _ m_f f _ (A_f.out.below H1.out (Nat.le_refl _)) (by omega)).mono ?_
  rintro e w2 ⟨u_s_f, rfl, l_s_f, b2⟩
  have H2 := Lib.hid (bnext H1.out b2 H1.out.size)
  obtain ⟨g_s_f, hg_s_f, k_s_f⟩ := l_s_f.ls
  have g0_s_f : W0.heap.size ≤ g_s_f := Nat.le_trans H1.out.size hg_s_f
  have s_f_2 := Lib.hid k_s_f
  clear l_s_f k_s_f hg_s_f
  clear b2 H1
  have q2 := brow H2.out q0
  go_wp2_with fail
  refine (CS _ _ _ s_f_2.out.list).mono ?_
  rintro e w3 ⟨rfl, b3⟩
  have H3 := Lib.hid (bnext H2.out b3 H2.out.size)
  have s_f_3 := Lib.hid (s_f_2.out.below b3 (Nat.le_refl _))
  clear b3 H2 s_f_2
  have q3 := brow H3.out q0
  go_wp2_with fail
  clear s_f_3
  refine (toPlaceS_c _ m_f f _ (A_f.out.below H3.out (Nat.le_refl _)) (by omega)).mono ?_
  rintro e w4 ⟨u_x_f, rfl, l_x_f, b4⟩
  have H4 := Lib.hid (bnext H3.out b4 H3.out.size)
  obtain ⟨g_x_f, hg_x_f, k_x_f⟩ := l_x_f.ls
  have g0_x_f : W0.heap.size ≤ g_x_f := Nat.le_trans H3.out.size hg_x_f
  have x_f_4 := Lib.hid k_x_f
  clear l_x_f k_x_f hg_x_f
  clear b4 H3
  have q4 := brow H4.out q0
  go_wp2_with fail
  refine (toRoof_any c r _ hR).mono ?_
  rintro e w5 ⟨rfl, b5⟩
  have H5 := Lib.hid (bnext H4.out b5 H4.out.size)
  have x_f_5 := Lib.hid (x_f_4.out.below b5 (Nat.le_refl _))
  clear b5 H4 x_f_4
  have q5 := brow H5.out q0
  go_wp2_with fail
  refine (CI _ _ _ x_f_5.out.list).mono ?_
  rintro e w6 ⟨rfl, b6⟩
  have H6 := Lib.hid (bnext H5.out b6 H5.out.size)
  have x_f_6 := Lib.hid (x_f_5.out.below b6 (Nat.le_refl _))
  clear b6 H5 x_f_5
  have q6 := brow H6.out q0
  go_wp2_with fail
  refine (toPlaceS_c _ m_f f _ (A_f.out.below H6.out (Nat.le_refl _)) (by omega)).mono ?_
  rintro e w7 ⟨u_t_f, rfl, l_t_f, b7⟩
  have H7 := Lib.hid (bnext H6.out b7 H6.out.size)
  have x_f_7 := Lib.hid (x_f_6.out.below b7 (Nat.le_refl _))
  obtain ⟨g_t_f, hg_t_f, k_t_f⟩ := l_t_f.ls
  have ne_x_f_t_f := x_f_6.out.ne hg_t_f
  have g0_t_f : W0.heap.size ≤ g_t_f := Nat.le_trans H6.out.size hg_t_f
  have t_f_7 := Lib.hid k_t_f
  clear l_t_f k_t_f hg_t_f
  clear b7 H6 x_f_6
  have q7 := brow H7.out q0
  go_wp2_with fail
  refine (eqPlaceS_same m_f f _ _ _ _ _ x_f_7.out.list t_f_7.out.list (by omega)).mono ?_
  rintro e w8 ⟨rfl, b8⟩
  have H8 := Lib.hid (bnext H7.out b8 H7.out.size)
  have x_f_8 := Lib.hid (x_f_7.out.below b8 (Nat.le_refl _))
  have t_f_8 := Lib.hid (t_f_7.out.below b8 (Nat.le_refl _))
  clear b8 H7 x_f_7 t_f_7
  have q8 := brow H8.out q0
  clear t_f_8
  go_wp2_with fail
  go_ret
  exact ⟨rfl, PB0.out.trans (H8.out.mono PB0.out.size)⟩

namespace LFnExactLeastClimb
open Go.RowKit Go.ChangeShapes Go.WideShapes Go.ChangeAt
theorem own : ownKnob Try.prog.godebug = none := by kernel_rfl
theorem laidOut : laidOutB Try.prog = true := by kernel_rfl
set_option maxRecDepth 100000 in
theorem lifted (os : Os) (started : os.Started) (H : Type) (enc : TypeId × Value → H) :
    ReturnsInHanded {} Try.checked os 3 .any (Rows.fnExactLeastClimbSpec.pre6 enc Try.prog Try.f3 Rows.fnExactLeastClimbRow.domain false) (Rows.fnExactLeastClimbSpec.post enc Try.prog Try.f3 false true false false) := by
  refine returnsInHanded_of_change (C := Try.checked) own started (by kernel_rfl) Try.func3
    (ChangeSpec.witness6 (enc := enc) (C := Try.checked) false ⟨#[], #[.agg Try.zeroCells26, .slice none 0 0, .int .i64 0], []⟩ 8 (by kernel_rfl) (by kernel_rfl) (by kernel_rfl) (by kernel_rfl)) ?_
  intro W base args ds gs before hval0 hW hcnd _
  have hval : ∀ (j : Nat) t v, Try.f3.params[j]? = some t → args[j]? = some v → Value.okWide Try.prog W .any base t v := hval0
  have hW' := hW
  obtain ⟨p, q, hA0, hV, rfl, hfz, hnd⟩ := hW
  have hA : DataW.TrodAll enc Try.prog W 0 (fun _ => true) true Try.f3.params.toList args.toList ds p := hA0
  rw [Try.params3] at hA hval
  obtain ⟨v0, vs0, d0, ds0, p0, q0, hargs, rfl, rfl, h0, r0⟩ := trodAll_cons hA
  obtain ⟨v1, vs1, d1, ds1, p1, q1, rfl, rfl, rfl, h1, r1⟩ := trodAll_cons r0
  obtain ⟨v2, vs2, d2, ds2, p2, q2, rfl, rfl, rfl, h2, r2⟩ := trodAll_cons r1
  obtain ⟨rfl, rfl, rfl⟩ := trodAll_nil r2
  obtain rfl : args = #[v0, v1, v2] := by cases args; simp_all
  obtain ⟨rfl, rfl⟩ := trodVars_none hV
  have k0 := h0
  have lt0 : ∀ x ∈ p0, x.block < W.heap.size := by obtain ⟨m, hm⟩ := k0; exact DataW.trod_lt m _ _ _ hm
  have k1 := h1
  have lt1 : ∀ x ∈ p1, x.block < W.heap.size := by obtain ⟨m, hm⟩ := k1; exact DataW.trod_lt m _ _ _ hm
  obtain ⟨c0, f0, rfl, wf0⟩ := open_roof (hval 0 26 v0 rfl rfl) h0
  obtain ⟨len1, cells1, hL1, hm1, hb1⟩ := open_pls (hval 1 27 v1 rfl rfl) h1
  obtain ⟨x2, rfl, rfl, rfl, wx2⟩ := open_int Try.underlying2 (hval 2 2 v2 rfl rfl) h2
  clear hA0 hval0
  refine (law_walk_FnExactLeastClimb wf0 hL1 hm1 hb1 (bounds_i64 wx2)).mono fun e W' ⟨he, bel⟩ => ?_
  subst he
  exact ⟨_, rfl, _, _, _, [], _, [], hW', trodAll_mk1 (shut_bool Try.underlying4 _), (trodAll_cons_mk (Below.trod laidOut (by kernel_rfl) (of_decide_eq_true (by kernel_rfl)) k0 bel lt0) (trodAll_cons_mk (Below.trod laidOut (by kernel_rfl) (of_decide_eq_true (by kernel_rfl)) k1 bel lt1) (trodAll_cons_mk (shut_int Try.underlying2 wx2) trodAll_mk0))), rfl, bel.frame _, fun h => by cases h⟩

theorem over : Rows.fnExactLeastClimbRow.holds Try.pinned (OpenSpec.ofChange Rows.fnExactLeastClimbSpec) :=
  OpenClaim.holds_of_wide 3 Try.f3 rfl rfl rfl rfl rfl rfl rfl ⟨rfl, rfl, rfl, rfl, rfl⟩ rfl rfl rfl rfl rfl (by kernel_rfl) Try.func3 (by kernel_rfl)
    (of_decide_eq_true (by kernel_rfl)) (by unfold Func.isWrapper; first | (rw [if_pos (by decide +kernel)]; kernel_rfl) | (rw [if_neg (by decide +kernel)]; exact ⟨rfl, rfl⟩))
    (fun os started H enc _ => lifted os started H enc)

theorem proved : Rows.FnExactLeastClimbSaid := over
end LFnExactLeastClimb


end Go.Proofs.Ytkbacpkpgfppiaa
