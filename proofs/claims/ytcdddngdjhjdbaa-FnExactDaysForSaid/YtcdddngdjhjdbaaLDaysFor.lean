/- laws.FnExactDaysFor returns true for every list of numbers, number, and leaves them as they were. No condition. -/
import Derived.Test.YtcdddngdjhjdbaaHelp
import Derived.Test.YtcdddngdjhjdbaaOpen
import Derived.Test.YtcdddngdjhjdbaaNums
import Derived.Test.YtcdddngdjhjdbaaGive
import Derived.Test.YtcdddngdjhjdbaaArgN
import Derived.Test.YtcdddngdjhjdbaaDayI
import Derived.Test.YtcdddngdjhjdbaaDayS
namespace Go.Proofs.Ytcdddngdjhjdbaa
open Go.RowKit

set_option maxRecDepth 100000 in
set_option maxHeartbeats 4000000 in
theorem law_walk_FnExactDaysFor {w : World} {v_g : Value} {m_g : Nat} {g : Nat → Int} (hv_g : NumsAt w v_g m_g g) (hm_g : m_g ≤ maxLen) (hb_g : ∀ i, i < m_g → -9223372036854775808 ≤ g i ∧ g i ≤ 9223372036854775807) {y : Int} (_hy : -9223372036854775808 ≤ y ∧ y ≤ 9223372036854775807) :
    Calls Try.prog 3 #[v_g, .int .i64 y] w fun e w' => e = .returned (.bool true) ∧ Below w.heap.size w w' := by
  have PB0 := Lib.hid (Below.refl w.heap.size w)
  have A_g := Lib.hid (hv_g.below PB0.out (Nat.le_refl _))
  have HB_g := Lib.hid hb_g
  have _hmm_g := hm_g
  obtain ⟨av_g, cv_g, rfl⟩ := hv_g.shape
  clear hv_g hb_g
  by_cases hl_g : m_g ≤ 1048576
  rotate_left
  · have hl1_g : (1048576 : Int) < m_g := by omega
    unfold maxLen at hm_g
    go_enter Try.func3, Try.ntmps3
    go_wp2_with fail
    go_ret
    exact ⟨rfl, PB0.out⟩
  have hl1_g : (m_g : Int) ≤ 1048576 := by omega
  have CS := fun (W : World) (B_g : Nat) (U_g : Option Addr) (H_g : IsList W B_g (.slice U_g m_g m_g) 1 m_g (fun i => .int .i64 (g i))) => specDaysFor_any B_g m_g g U_g y W H_g (by omega) HB_g.out
  have CI := fun (W : World) (B_g : Nat) (U_g : Option Addr) (H_g : IsList W B_g (.slice U_g m_g m_g) 1 m_g (fun i => .int .i64 (g i))) => implDaysFor_any B_g m_g g U_g y W H_g (by omega) HB_g.out
  have hne0 : (((daysN m_g g y : Int)) != ((daysN m_g g y : Int))) = false := by simp
  generalize ((daysN m_g g y : Int)) = x0 at *
  have hne1 : ((timC m_g g y) != (timC m_g g y)) = false := by simp
  generalize (timC m_g g y) = x1 at *
  unfold GivesT at CS CI
  have hnb : (daysM m_g g y) ≤ 2000000 := daysM_le (by omega)
  generalize (daysM m_g g y) = nn at *
  generalize (fun i => ((dayD g y i : Nat) : Int)) = ff at *
  obtain ⟨M, hM⟩ : ∃ M : Int, M = ((1 + nn : Nat) : Int) := ⟨_, rfl⟩
  have hM0 : 0 ≤ M := by omega
  have hmm : (M != M) = false := by simp
  have HM := Lib.hid hM
  clear hM
  obtain ⟨K0, hK0⟩ : ∃ K : Int, K = ((1 + m_g : Nat) : Int) := ⟨_, rfl⟩
  have HK0 := Lib.hid hK0
  have hK0_0 : 0 ≤ K0 := by omega
  clear hK0
  go_enter Try.func3, Try.ntmps3
  go_wp2_with fail
  refine gen_callsW fun W0 hW => ?_
  subst hW
  have H0 := Lib.hid (Below.refl W0.heap.size W0)
  refine (toInt64S_any _ m_g g _ (A_g.out.below H0.out (Nat.le_refl _)) (by omega)).mono ?_
  rintro e w1 ⟨u_s_g, rfl, l_s_g, b1⟩
  have H1 := Lib.hid (bnext H0.out b1 H0.out.size)
  obtain ⟨g_s_g, hg_s_g, k_s_g⟩ := l_s_g.ls
  have g0_s_g : W0.heap.size ≤ g_s_g := Nat.le_trans H0.out.size hg_s_g
  have s_g_1 := Lib.hid k_s_g
  clear l_s_g k_s_g hg_s_g
  clear b1 H0
  go_wp2_with fail
  refine (CS _ _ _ s_g_1.out.list).mono ?_
  rintro e w2 ⟨u_W, rfl, l_W, b2⟩
  have H2 := Lib.hid (bnext H1.out b2 H1.out.size)
  have s_g_2 := Lib.hid (s_g_1.out.below b2 (Nat.le_refl _))
  obtain ⟨g_W, hg_W, k_W⟩ := l_W.ls
  have ne_s_g_W := s_g_1.out.ne hg_W
  have g0_W : W0.heap.size ≤ g_W := Nat.le_trans H1.out.size hg_W
  obtain ⟨a_W, c_W, rfl⟩ := l_W.shape
  have W_2 := Lib.hid k_W
  clear l_W k_W hg_W
  clear b2 H1 s_g_1
  go_wp2_with fail
  clear s_g_2
  refine (toInt64S_any _ m_g g _ (A_g.out.below H2.out (Nat.le_refl _)) (by omega)).mono ?_
  rintro e w3 ⟨u_x_g, rfl, l_x_g, b3⟩
  have H3 := Lib.hid (bnext H2.out b3 H2.out.size)
  have W_3 := Lib.hid (W_2.out.below b3 (Nat.le_refl _))
  obtain ⟨g_x_g, hg_x_g, k_x_g⟩ := l_x_g.ls
  have ne_W_x_g := W_2.out.ne hg_x_g
  have g0_x_g : W0.heap.size ≤ g_x_g := Nat.le_trans H2.out.size hg_x_g
  have x_g_3 := Lib.hid k_x_g
  clear l_x_g k_x_g hg_x_g
  clear b3 H2 W_2
  go_wp2_with fail
  refine (CI _ _ _ x_g_3.out.list).mono ?_
  rintro e w4 ⟨u_G, rfl, l_G, b4⟩
  have H4 := Lib.hid (bnext H3.out b4 H3.out.size)
  have W_4 := Lib.hid (W_3.out.below b4 (Nat.le_refl _))
  have x_g_4 := Lib.hid (x_g_3.out.below b4 (Nat.le_refl _))
  obtain ⟨g_G, hg_G, k_G⟩ := l_G.ls
  have ne_W_G := W_3.out.ne hg_G
  have ne_x_g_G := x_g_3.out.ne hg_G
  have g0_G : W0.heap.size ≤ g_G := Nat.le_trans H3.out.size hg_G
  obtain ⟨a_G, c_G, rfl⟩ := l_G.shape
  have G_4 := Lib.hid k_G
  clear l_G k_G hg_G
  clear b4 H3 W_3 x_g_3
  go_wp2_with fail
  refine (eqI nn ff _ _ _ _ _ G_4.out.list W_4.out.list hnb).mono ?_
  rintro e w5 ⟨rfl, b5⟩
  have H5 := Lib.hid (bnext H4.out b5 H4.out.size)
  have W_5 := Lib.hid (W_4.out.below b5 (Nat.le_refl _))
  have x_g_5 := Lib.hid (x_g_4.out.below b5 (Nat.le_refl _))
  have G_5 := Lib.hid (G_4.out.below b5 (Nat.le_refl _))
  clear b5 H4 W_4 x_g_4 G_4
  go_wp2_with fail
  refine (toInt64S_any _ m_g g _ (A_g.out.below H5.out (Nat.le_refl _)) (by omega)).mono ?_
  rintro e w6 ⟨u_t_g, rfl, l_t_g, b6⟩
  have H6 := Lib.hid (bnext H5.out b6 H5.out.size)
  have W_6 := Lib.hid (W_5.out.below b6 (Nat.le_refl _))
  have x_g_6 := Lib.hid (x_g_5.out.below b6 (Nat.le_refl _))
  have G_6 := Lib.hid (G_5.out.below b6 (Nat.le_refl _))
  obtain ⟨g_t_g, hg_t_g, k_t_g⟩ := l_t_g.ls
  have ne_W_t_g := W_5.out.ne hg_t_g
  have ne_x_g_t_g := x_g_5.out.ne hg_t_g
  have ne_G_t_g := G_5.out.ne hg_t_g
  have g0_t_g : W0.heap.size ≤ g_t_g := Nat.le_trans H5.out.size hg_t_g
  have t_g_6 := Lib.hid k_t_g
  clear l_t_g k_t_g hg_t_g
  clear b6 H5 W_5 x_g_5 G_5
  go_wp2_with fail
  refine (eqI m_g g _ _ _ _ _ x_g_6.out.list t_g_6.out.list (by omega)).mono ?_
  rintro e w7 ⟨rfl, b7⟩
  have H7 := Lib.hid (bnext H6.out b7 H6.out.size)
  have W_7 := Lib.hid (W_6.out.below b7 (Nat.le_refl _))
  have x_g_7 := Lib.hid (x_g_6.out.below b7 (Nat.le_refl _))
  have G_7 := Lib.hid (G_6.out.below b7 (Nat.le_refl _))
  have t_g_7 := Lib.hid (t_g_6.out.below b7 (Nat.le_refl _))
  clear b7 H6 W_6 x_g_6 G_6 t_g_6
  clear t_g_7
  go_wp2_with fail
  refine (markIK m_g _ _ g_x_g (1) 1 K0 rfl HK0.out _ x_g_7.out (by omega) (by omega)).mono ?_
  rintro e w8 ⟨rfl, kk8, o8, z8⟩
  have H8 := Lib.hid (H7.out.trans (o8.below.mono g0_x_g))
  have W_8 := Lib.hid (W_7.out.only o8 ne_W_x_g)
  have x_g_8 := Lib.hid kk8
  have G_8 := Lib.hid (G_7.out.only_later o8 z8 ne_x_g_G)
  clear kk8 o8 z8 H7 W_7 x_g_7 G_7
  go_wp2_with fail
  refine (eqI nn ff _ _ _ _ _ G_8.out.list W_8.out.list hnb).mono ?_
  rintro e w9 ⟨rfl, b9⟩
  have H9 := Lib.hid (bnext H8.out b9 H8.out.size)
  have W_9 := Lib.hid (W_8.out.below b9 (Nat.le_refl _))
  have x_g_9 := Lib.hid (x_g_8.out.below b9 (Nat.le_refl _))
  have G_9 := Lib.hid (G_8.out.below b9 (Nat.le_refl _))
  clear b9 H8 W_8 x_g_8 G_8
  go_wp2_with fail
  clear x_g_9
  refine (markIK nn _ _ g_G (1) 1 M rfl HM.out _ G_9.out (by omega) (by omega)).mono ?_
  rintro e w10 ⟨rfl, kk10, o10, z10⟩
  have H10 := Lib.hid (H9.out.trans (o10.below.mono g0_G))
  have W_10 := Lib.hid (W_9.out.only o10 ne_W_G)
  have G_10 := Lib.hid kk10
  clear kk10 o10 z10 H9 W_9 G_9
  go_wp2_with fail
  refine (heldIK nn _ g_G 1 1 M rfl HM.out _ G_10.out (by omega) (by omega)).mono ?_
  rintro e w10_ ⟨rfl, rfl⟩
  go_wp2_with fail
  refine (toInt64S_any _ m_g g _ (A_g.out.below H10.out (Nat.le_refl _)) (by omega)).mono ?_
  rintro e w11 ⟨u_y_g, rfl, l_y_g, b11⟩
  have H11 := Lib.hid (bnext H10.out b11 H10.out.size)
  have W_11 := Lib.hid (W_10.out.below b11 (Nat.le_refl _))
  have G_11 := Lib.hid (G_10.out.below b11 (Nat.le_refl _))
  obtain ⟨g_y_g, hg_y_g, k_y_g⟩ := l_y_g.ls
  have ne_W_y_g := W_10.out.ne hg_y_g
  have ne_G_y_g := G_10.out.ne hg_y_g
  have g0_y_g : W0.heap.size ≤ g_y_g := Nat.le_trans H10.out.size hg_y_g
  have y_g_11 := Lib.hid k_y_g
  clear l_y_g k_y_g hg_y_g
  clear b11 H10 W_10 G_10
  go_wp2_with fail
  refine (CI _ _ _ y_g_11.out.list).mono ?_
  rintro e w12 ⟨u_H, rfl, l_H, b12⟩
  have H12 := Lib.hid (bnext H11.out b12 H11.out.size)
  have W_12 := Lib.hid (W_11.out.below b12 (Nat.le_refl _))
  have G_12 := Lib.hid (G_11.out.below b12 (Nat.le_refl _))
  have y_g_12 := Lib.hid (y_g_11.out.below b12 (Nat.le_refl _))
  obtain ⟨g_H, hg_H, k_H⟩ := l_H.ls
  have ne_W_H := W_11.out.ne hg_H
  have ne_G_H := G_11.out.ne hg_H
  have ne_y_g_H := y_g_11.out.ne hg_H
  have g0_H : W0.heap.size ≤ g_H := Nat.le_trans H11.out.size hg_H
  obtain ⟨a_H, c_H, rfl⟩ := l_H.shape
  have H_12 := Lib.hid k_H
  clear l_H k_H hg_H
  clear b12 H11 W_11 G_11 y_g_11
  go_wp2_with fail
  clear y_g_12
  refine (eqI nn ff _ _ _ _ _ H_12.out.list W_12.out.list hnb).mono ?_
  rintro e w13 ⟨rfl, b13⟩
  have H13 := Lib.hid (bnext H12.out b13 H12.out.size)
  have W_13 := Lib.hid (W_12.out.below b13 (Nat.le_refl _))
  have G_13 := Lib.hid (G_12.out.below b13 (Nat.le_refl _))
  have H_13 := Lib.hid (H_12.out.below b13 (Nat.le_refl _))
  clear b13 H12 W_12 G_12 H_12
  go_wp2_with fail
  refine (heldIK nn _ g_G 1 1 M rfl HM.out _ G_13.out (by omega) (by omega)).mono ?_
  rintro e w13_ ⟨rfl, rfl⟩
  go_wp2_with fail
  go_ret
  exact ⟨rfl, PB0.out.trans (H13.out.mono PB0.out.size)⟩

namespace LFnExactDaysFor
open Go.RowKit Go.ChangeShapes Go.WideShapes Go.ChangeAt
theorem own : ownKnob Try.prog.godebug = none := by kernel_rfl
theorem laidOut : laidOutB Try.prog = true := by kernel_rfl
set_option maxRecDepth 100000 in
theorem lifted (os : Os) (started : os.Started) (H : Type) (enc : TypeId × Value → H) :
    ReturnsInHanded {} Try.checked os 3 .any (Rows.fnExactDaysForSpec.pre6 enc Try.prog Try.f3 Rows.fnExactDaysForRow.domain false) (Rows.fnExactDaysForSpec.post enc Try.prog Try.f3 false true false false) := by
  refine returnsInHanded_of_change (C := Try.checked) own started (by kernel_rfl) Try.func3
    (ChangeSpec.witness6 (enc := enc) (C := Try.checked) false ⟨#[], #[.slice none 0 0, .int .i64 0], []⟩ 8 (by kernel_rfl) (by kernel_rfl) (by kernel_rfl) (by kernel_rfl)) ?_
  intro W base args ds gs before hval0 hW hcnd _
  have hval : ∀ (j : Nat) t v, Try.f3.params[j]? = some t → args[j]? = some v → Value.okWide Try.prog W .any base t v := hval0
  have hW' := hW
  obtain ⟨p, q, hA0, hV, rfl, hfz, hnd⟩ := hW
  have hA : DataW.TrodAll enc Try.prog W 0 (fun _ => true) true Try.f3.params.toList args.toList ds p := hA0
  rw [Try.params3] at hA hval
  obtain ⟨v0, vs0, d0, ds0, p0, q0, hargs, rfl, rfl, h0, r0⟩ := trodAll_cons hA
  obtain ⟨v1, vs1, d1, ds1, p1, q1, rfl, rfl, rfl, h1, r1⟩ := trodAll_cons r0
  obtain ⟨rfl, rfl, rfl⟩ := trodAll_nil r1
  obtain rfl : args = #[v0, v1] := by cases args; simp_all
  obtain ⟨rfl, rfl⟩ := trodVars_none hV
  have k0 := h0
  have lt0 : ∀ x ∈ p0, x.block < W.heap.size := by obtain ⟨m, hm⟩ := k0; exact DataW.trod_lt m _ _ _ hm
  obtain ⟨len0, cells0, hL0, hm0, hb0⟩ := open_nums (hval 0 22 v0 rfl rfl) h0
  obtain ⟨x1, rfl, rfl, rfl, wx1⟩ := open_int Try.underlying2 (hval 1 2 v1 rfl rfl) h1
  clear hA0 hval0
  refine (law_walk_FnExactDaysFor hL0 hm0 hb0 (bounds_i64 wx1)).mono fun e W' ⟨he, bel⟩ => ?_
  subst he
  exact ⟨_, rfl, _, _, _, [], _, [], hW', trodAll_mk1 (shut_bool Try.underlying4 _), (trodAll_cons_mk (Below.trod laidOut (by kernel_rfl) (of_decide_eq_true (by kernel_rfl)) k0 bel lt0) (trodAll_cons_mk (shut_int Try.underlying2 wx1) trodAll_mk0)), rfl, bel.frame _, fun h => by cases h⟩

theorem over : Rows.fnExactDaysForRow.holds Try.pinned (OpenSpec.ofChange Rows.fnExactDaysForSpec) :=
  OpenClaim.holds_of_wide 3 Try.f3 rfl rfl rfl rfl rfl rfl rfl ⟨rfl, rfl, rfl, rfl, rfl⟩ rfl rfl rfl rfl rfl (by kernel_rfl) Try.func3 (by kernel_rfl)
    (of_decide_eq_true (by kernel_rfl)) (by unfold Func.isWrapper; first | (rw [if_pos (by decide +kernel)]; kernel_rfl) | (rw [if_neg (by decide +kernel)]; exact ⟨rfl, rfl⟩))
    (fun os started H enc _ => lifted os started H enc)

theorem proved : Rows.FnExactDaysForSaid := over
end LFnExactDaysFor


end Go.Proofs.Ytcdddngdjhjdbaa
