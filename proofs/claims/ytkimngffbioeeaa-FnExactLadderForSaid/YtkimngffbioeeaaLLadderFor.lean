/- laws.FnExactLadderFor returns true for every roof, list of numbers, number, list of places, and leaves them as they were. No condition. -/
import Derived.Test.YtkimngffbioeeaaHelp
import Derived.Test.YtkimngffbioeeaaOpen
import Derived.Test.YtkimngffbioeeaaNums
import Derived.Test.YtkimngffbioeeaaGive
import Derived.Test.YtkimngffbioeeaaArgN
import Derived.Test.YtkimngffbioeeaaArgL
import Derived.Test.YtkimngffbioeeaaLsP
import Derived.Test.YtkimngffbioeeaaLadJ
namespace Go.Proofs.Ytkimngffbioeeaa
open Go.RowKit

set_option maxRecDepth 100000 in
set_option maxHeartbeats 4000000 in
theorem law_walk_FnExactLadderFor {w : World} {c : Array Value} {r : Rf} (hR : IsRoof c r) {v_g : Value} {m_g : Nat} {g : Nat → Int} (hv_g : NumsAt w v_g m_g g) (hm_g : m_g ≤ maxLen) (hb_g : ∀ i, i < m_g → -9223372036854775808 ≤ g i ∧ g i ≤ 9223372036854775807) {y : Int} (_hy : -9223372036854775808 ≤ y ∧ y ≤ 9223372036854775807) {v_f : Value} {m_f : Nat} {f : Nat → Int} (hv_f : ArgL w v_f m_f f) (hm_f : m_f ≤ maxLen) (hb_f : ∀ i, i < m_f * 2 → -128 ≤ f i ∧ f i ≤ 127) :
    Calls Try.prog 5 #[.agg c, v_g, .int .i64 y, v_f] w fun e w' => e = .returned (.bool true) ∧ Below w.heap.size w w' := by
  have hc := hR.size
  have q0 := rowAt_alloc_at w c 26 w.heap.size rfl
  have PB0 := Lib.hid (show Below w.heap.size w (w.alloc (.cells c 26)) from (Below.refl _ _).alloc (Nat.le_refl _) _)
  have A_g := Lib.hid (hv_g.below PB0.out (Nat.le_refl _))
  have HB_g := Lib.hid hb_g
  have _hmm_g := hm_g
  obtain ⟨av_g, cv_g, rfl⟩ := hv_g.shape
  have A_f := Lib.hid (hv_f.below PB0.out (Nat.le_refl _))
  have HB_f := Lib.hid hb_f
  have _hmm_f := hm_f
  obtain ⟨av_f, cv_f, rfl⟩ := hv_f.shape
  clear hv_g hb_g hv_f hb_f
  by_cases hl_g : m_g ≤ 1048576
  rotate_left
  · have hl1_g : (1048576 : Int) < m_g := by omega
    unfold maxLen at hm_g
    go_enter Try.func5, Try.ntmps5
    go_wp2_with fail
    go_ret
    exact ⟨rfl, PB0.out⟩
  by_cases hl_f : m_f ≤ 1048576
  rotate_left
  · have hl1_f : (1048576 : Int) < m_f := by omega
    go_enter Try.func5, Try.ntmps5
    go_wp2_with fail
    refine gen_callsW fun W0 hW => ?_
    rw [← hW] at q0 PB0 A_g A_f
    clear hW
    refine (szPlaceS_f _ m_f f _ A_f.out (by omega) hm_f).mono ?_
    rintro e w1 ⟨rfl, rfl⟩
    go_wp2_with fail
    go_ret
    exact ⟨rfl, PB0.out⟩
  have hl1_g : (m_g : Int) ≤ 1048576 := by omega
  have hl1_f : (m_f : Int) ≤ 1048576 := by omega
  have CS := fun (W : World) (B_g : Nat) (U_g : Option Addr) (B_f : Nat) (U_f : Option Addr) (H_g : IsList W B_g (.slice U_g m_g m_g) 1 m_g (fun i => .int .i64 (g i))) (H_f : IsList W B_f (.slice U_f m_f m_f) 2 m_f (fun i => .int .i8 (f i))) => specLadderFor_any c r B_g m_g g U_g y B_f m_f f U_f W hR H_g (by omega) HB_g.out H_f (by omega) HB_f.out
  have CI := fun (W : World) (B_g : Nat) (U_g : Option Addr) (B_f : Nat) (U_f : Option Addr) (H_g : IsList W B_g (.slice U_g m_g m_g) 1 m_g (fun i => .int .i64 (g i))) (H_f : IsList W B_f (.slice U_f m_f m_f) 2 m_f (fun i => .int .i8 (f i))) => implLadderFor_any c r B_g m_g g U_g y B_f m_f f U_f W hR H_g (by omega) HB_g.out H_f (by omega) HB_f.out
  have hne0 : ((r.ladC g m_g f m_f y) != (r.ladC g m_g f m_f y)) = false := by simp
  generalize (r.ladC g m_g f m_f y) = x0 at *
  unfold GivesT at CS CI
  have hnb : (r.ladN g m_g f m_f y) ≤ 2000000 := (Nat.le_trans (r.ladN_le g m_g f m_f y) (by omega))
  generalize (r.ladN g m_g f m_f y) = nn at *
  generalize (r.lad y g m_g f) = ff at *
  obtain ⟨M, hM⟩ : ∃ M : Int, M = ((1 + nn : Nat) : Int) := ⟨_, rfl⟩
  have hM0 : 0 ≤ M := by omega
  have hmm : (M != M) = false := by simp
  have HM := Lib.hid hM
  clear hM
  obtain ⟨K0, hK0⟩ : ∃ K : Int, K = ((1 + m_g : Nat) : Int) := ⟨_, rfl⟩
  have HK0 := Lib.hid hK0
  have hK0_0 : 0 ≤ K0 := by omega
  clear hK0
  obtain ⟨K1, hK1⟩ : ∃ K : Int, K = ((1 + m_g + 2 * m_f : Nat) : Int) := ⟨_, rfl⟩
  have HK1 := Lib.hid hK1
  have hK0_1 : 0 ≤ K1 := by omega
  clear hK1
  go_enter Try.func5, Try.ntmps5
  go_wp2_with fail
  refine gen_callsW fun W0 hW => ?_
  rw [← hW] at q0 PB0 A_g A_f
  clear hW
  have H0 := Lib.hid (Below.refl W0.heap.size W0)
  refine (szPlaceS_t _ m_f f _ A_f.out hl_f).mono ?_
  rintro e w1 ⟨rfl, rfl⟩
  go_wp2_with fail
  refine (toRoof_any c r _ hR).mono ?_
  rintro e w1 ⟨rfl, b1⟩
  have H1 := Lib.hid (bnext H0.out b1 H0.out.size)
  clear b1 H0
  have q1 := brow H1.out q0
  go_wp2_with fail
  refine (toInt64S_any _ m_g g _ (A_g.out.below H1.out (Nat.le_refl _)) (by omega)).mono ?_
  rintro e w2 ⟨u_s_g, rfl, l_s_g, b2⟩
  have H2 := Lib.hid (bnext H1.out b2 H1.out.size)
  obtain ⟨g_s_g, hg_s_g, k_s_g⟩ := l_s_g.ls
  have g0_s_g : W0.heap.size ≤ g_s_g := Nat.le_trans H1.out.size hg_s_g
  have s_g_2 := Lib.hid k_s_g
  clear l_s_g k_s_g hg_s_g
  clear b2 H1
  have q2 := brow H2.out q0
  go_wp2_with fail
  refine (toPlaceS_c _ m_f f _ (A_f.out.below H2.out (Nat.le_refl _)) (by omega)).mono ?_
  rintro e w3 ⟨u_s_f, rfl, l_s_f, b3⟩
  have H3 := Lib.hid (bnext H2.out b3 H2.out.size)
  have s_g_3 := Lib.hid (s_g_2.out.below b3 (Nat.le_refl _))
  obtain ⟨g_s_f, hg_s_f, k_s_f⟩ := l_s_f.ls
  have ne_s_g_s_f := s_g_2.out.ne hg_s_f
  have g0_s_f : W0.heap.size ≤ g_s_f := Nat.le_trans H2.out.size hg_s_f
  have s_f_3 := Lib.hid k_s_f
  clear l_s_f k_s_f hg_s_f
  clear b3 H2 s_g_2
  have q3 := brow H3.out q0
  go_wp2_with fail
  refine (CS _ _ _ _ _ s_g_3.out.list s_f_3.out.list).mono ?_
  rintro e w4 ⟨u_W, rfl, l_W, b4⟩
  have H4 := Lib.hid (bnext H3.out b4 H3.out.size)
  have s_g_4 := Lib.hid (s_g_3.out.below b4 (Nat.le_refl _))
  have s_f_4 := Lib.hid (s_f_3.out.below b4 (Nat.le_refl _))
  obtain ⟨g_W, hg_W, k_W⟩ := l_W.ls
  have ne_s_g_W := s_g_3.out.ne hg_W
  have ne_s_f_W := s_f_3.out.ne hg_W
  have g0_W : W0.heap.size ≤ g_W := Nat.le_trans H3.out.size hg_W
  obtain ⟨a_W, c_W, rfl⟩ := l_W.shape
  have W_4 := Lib.hid k_W
  clear l_W k_W hg_W
  clear b4 H3 s_g_3 s_f_3
  have q4 := brow H4.out q0
  go_wp2_with fail
  clear s_g_4 s_f_4
  refine (toInt64S_any _ m_g g _ (A_g.out.below H4.out (Nat.le_refl _)) (by omega)).mono ?_
  rintro e w5 ⟨u_x_g, rfl, l_x_g, b5⟩
  have H5 := Lib.hid (bnext H4.out b5 H4.out.size)
  have W_5 := Lib.hid (W_4.out.below b5 (Nat.le_refl _))
  obtain ⟨g_x_g, hg_x_g, k_x_g⟩ := l_x_g.ls
  have ne_W_x_g := W_4.out.ne hg_x_g
  have g0_x_g : W0.heap.size ≤ g_x_g := Nat.le_trans H4.out.size hg_x_g
  have x_g_5 := Lib.hid k_x_g
  clear l_x_g k_x_g hg_x_g
  clear b5 H4 W_4
  have q5 := brow H5.out q0
  go_wp2_with fail
  refine (toPlaceS_c _ m_f f _ (A_f.out.below H5.out (Nat.le_refl _)) (by omega)).mono ?_
  rintro e w6 ⟨u_x_f, rfl, l_x_f, b6⟩
  have H6 := Lib.hid (bnext H5.out b6 H5.out.size)
  have W_6 := Lib.hid (W_5.out.below b6 (Nat.le_refl _))
  have x_g_6 := Lib.hid (x_g_5.out.below b6 (Nat.le_refl _))
  obtain ⟨g_x_f, hg_x_f, k_x_f⟩ := l_x_f.ls
  have ne_W_x_f := W_5.out.ne hg_x_f
  have ne_x_g_x_f := x_g_5.out.ne hg_x_f
  have g0_x_f : W0.heap.size ≤ g_x_f := Nat.le_trans H5.out.size hg_x_f
  have x_f_6 := Lib.hid k_x_f
  clear l_x_f k_x_f hg_x_f
  clear b6 H5 W_5 x_g_5
  have q6 := brow H6.out q0
  go_wp2_with fail
  refine (toRoof_any c r _ hR).mono ?_
  rintro e w7 ⟨rfl, b7⟩
  have H7 := Lib.hid (bnext H6.out b7 H6.out.size)
  have W_7 := Lib.hid (W_6.out.below b7 (Nat.le_refl _))
  have x_g_7 := Lib.hid (x_g_6.out.below b7 (Nat.le_refl _))
  have x_f_7 := Lib.hid (x_f_6.out.below b7 (Nat.le_refl _))
  clear b7 H6 W_6 x_g_6 x_f_6
  have q7 := brow H7.out q0
  go_wp2_with fail
  refine (CI _ _ _ _ _ x_g_7.out.list x_f_7.out.list).mono ?_
  rintro e w8 ⟨u_G, rfl, l_G, b8⟩
  have H8 := Lib.hid (bnext H7.out b8 H7.out.size)
  have W_8 := Lib.hid (W_7.out.below b8 (Nat.le_refl _))
  have x_g_8 := Lib.hid (x_g_7.out.below b8 (Nat.le_refl _))
  have x_f_8 := Lib.hid (x_f_7.out.below b8 (Nat.le_refl _))
  obtain ⟨g_G, hg_G, k_G⟩ := l_G.ls
  have ne_W_G := W_7.out.ne hg_G
  have ne_x_g_G := x_g_7.out.ne hg_G
  have ne_x_f_G := x_f_7.out.ne hg_G
  have g0_G : W0.heap.size ≤ g_G := Nat.le_trans H7.out.size hg_G
  obtain ⟨a_G, c_G, rfl⟩ := l_G.shape
  have G_8 := Lib.hid k_G
  clear l_G k_G hg_G
  clear b8 H7 W_7 x_g_7 x_f_7
  have q8 := brow H8.out q0
  go_wp2_with fail
  refine (eqI nn ff _ _ _ _ _ G_8.out.list W_8.out.list hnb).mono ?_
  rintro e w9 ⟨rfl, b9⟩
  have H9 := Lib.hid (bnext H8.out b9 H8.out.size)
  have W_9 := Lib.hid (W_8.out.below b9 (Nat.le_refl _))
  have x_g_9 := Lib.hid (x_g_8.out.below b9 (Nat.le_refl _))
  have x_f_9 := Lib.hid (x_f_8.out.below b9 (Nat.le_refl _))
  have G_9 := Lib.hid (G_8.out.below b9 (Nat.le_refl _))
  clear b9 H8 W_8 x_g_8 x_f_8 G_8
  have q9 := brow H9.out q0
  go_wp2_with fail
  refine (toInt64S_any _ m_g g _ (A_g.out.below H9.out (Nat.le_refl _)) (by omega)).mono ?_
  rintro e w10 ⟨u_t_g, rfl, l_t_g, b10⟩
  have H10 := Lib.hid (bnext H9.out b10 H9.out.size)
  have W_10 := Lib.hid (W_9.out.below b10 (Nat.le_refl _))
  have x_g_10 := Lib.hid (x_g_9.out.below b10 (Nat.le_refl _))
  have x_f_10 := Lib.hid (x_f_9.out.below b10 (Nat.le_refl _))
  have G_10 := Lib.hid (G_9.out.below b10 (Nat.le_refl _))
  obtain ⟨g_t_g, hg_t_g, k_t_g⟩ := l_t_g.ls
  have ne_W_t_g := W_9.out.ne hg_t_g
  have ne_x_g_t_g := x_g_9.out.ne hg_t_g
  have ne_x_f_t_g := x_f_9.out.ne hg_t_g
  have ne_G_t_g := G_9.out.ne hg_t_g
  have g0_t_g : W0.heap.size ≤ g_t_g := Nat.le_trans H9.out.size hg_t_g
  have t_g_10 := Lib.hid k_t_g
  clear l_t_g k_t_g hg_t_g
  clear b10 H9 W_9 x_g_9 x_f_9 G_9
  have q10 := brow H10.out q0
  go_wp2_with fail
  refine (eqI m_g g _ _ _ _ _ x_g_10.out.list t_g_10.out.list (by omega)).mono ?_
  rintro e w11 ⟨rfl, b11⟩
  have H11 := Lib.hid (bnext H10.out b11 H10.out.size)
  have W_11 := Lib.hid (W_10.out.below b11 (Nat.le_refl _))
  have x_g_11 := Lib.hid (x_g_10.out.below b11 (Nat.le_refl _))
  have x_f_11 := Lib.hid (x_f_10.out.below b11 (Nat.le_refl _))
  have G_11 := Lib.hid (G_10.out.below b11 (Nat.le_refl _))
  have t_g_11 := Lib.hid (t_g_10.out.below b11 (Nat.le_refl _))
  clear b11 H10 W_10 x_g_10 x_f_10 G_10 t_g_10
  have q11 := brow H11.out q0
  clear t_g_11
  go_wp2_with fail
  refine (toPlaceS_c _ m_f f _ (A_f.out.below H11.out (Nat.le_refl _)) (by omega)).mono ?_
  rintro e w12 ⟨u_t_f, rfl, l_t_f, b12⟩
  have H12 := Lib.hid (bnext H11.out b12 H11.out.size)
  have W_12 := Lib.hid (W_11.out.below b12 (Nat.le_refl _))
  have x_g_12 := Lib.hid (x_g_11.out.below b12 (Nat.le_refl _))
  have x_f_12 := Lib.hid (x_f_11.out.below b12 (Nat.le_refl _))
  have G_12 := Lib.hid (G_11.out.below b12 (Nat.le_refl _))
  obtain ⟨g_t_f, hg_t_f, k_t_f⟩ := l_t_f.ls
  have ne_W_t_f := W_11.out.ne hg_t_f
  have ne_x_g_t_f := x_g_11.out.ne hg_t_f
  have ne_x_f_t_f := x_f_11.out.ne hg_t_f
  have ne_G_t_f := G_11.out.ne hg_t_f
  have g0_t_f : W0.heap.size ≤ g_t_f := Nat.le_trans H11.out.size hg_t_f
  have t_f_12 := Lib.hid k_t_f
  clear l_t_f k_t_f hg_t_f
  clear b12 H11 W_11 x_g_11 x_f_11 G_11
  have q12 := brow H12.out q0
  go_wp2_with fail
  refine (eqPlaceS_same m_f f _ _ _ _ _ x_f_12.out.list t_f_12.out.list (by omega)).mono ?_
  rintro e w13 ⟨rfl, b13⟩
  have H13 := Lib.hid (bnext H12.out b13 H12.out.size)
  have W_13 := Lib.hid (W_12.out.below b13 (Nat.le_refl _))
  have x_g_13 := Lib.hid (x_g_12.out.below b13 (Nat.le_refl _))
  have x_f_13 := Lib.hid (x_f_12.out.below b13 (Nat.le_refl _))
  have G_13 := Lib.hid (G_12.out.below b13 (Nat.le_refl _))
  have t_f_13 := Lib.hid (t_f_12.out.below b13 (Nat.le_refl _))
  clear b13 H12 W_12 x_g_12 x_f_12 G_12 t_f_12
  have q13 := brow H13.out q0
  clear t_f_13
  go_wp2_with fail
  refine (markIK m_g _ _ g_x_g (1) 1 K0 rfl HK0.out _ x_g_13.out (by omega) (by omega)).mono ?_
  rintro e w14 ⟨rfl, kk14, o14, z14⟩
  have H14 := Lib.hid (H13.out.trans (o14.below.mono g0_x_g))
  have W_14 := Lib.hid (W_13.out.only o14 ne_W_x_g)
  have x_g_14 := Lib.hid kk14
  have x_f_14 := Lib.hid (x_f_13.out.only_later o14 z14 ne_x_g_x_f)
  have G_14 := Lib.hid (G_13.out.only_later o14 z14 ne_x_g_G)
  clear kk14 o14 z14 H13 W_13 x_g_13 x_f_13 G_13
  have q14 := brow H14.out q0
  go_wp2_with fail
  refine (markPK m_f _ _ g_x_f (1 + m_g) K0 K1 HK0.out HK1.out _ x_f_14.out (by omega) (by omega)).mono ?_
  rintro e w15 ⟨rfl, kk15, o15, z15⟩
  have H15 := Lib.hid (H14.out.trans (o15.below.mono g0_x_f))
  have W_15 := Lib.hid (W_14.out.only o15 ne_W_x_f)
  have x_g_15 := Lib.hid (x_g_14.out.only o15 ne_x_g_x_f)
  have x_f_15 := Lib.hid kk15
  have G_15 := Lib.hid (G_14.out.only_later o15 z15 ne_x_f_G)
  clear kk15 o15 z15 H14 W_14 x_g_14 x_f_14 G_14
  have q15 := brow H15.out q0
  go_wp2_with fail
  refine (eqI nn ff _ _ _ _ _ G_15.out.list W_15.out.list hnb).mono ?_
  rintro e w16 ⟨rfl, b16⟩
  have H16 := Lib.hid (bnext H15.out b16 H15.out.size)
  have W_16 := Lib.hid (W_15.out.below b16 (Nat.le_refl _))
  have x_g_16 := Lib.hid (x_g_15.out.below b16 (Nat.le_refl _))
  have x_f_16 := Lib.hid (x_f_15.out.below b16 (Nat.le_refl _))
  have G_16 := Lib.hid (G_15.out.below b16 (Nat.le_refl _))
  clear b16 H15 W_15 x_g_15 x_f_15 G_15
  have q16 := brow H16.out q0
  go_wp2_with fail
  clear x_g_16 x_f_16
  refine (markIK nn _ _ g_G (1) 1 M rfl HM.out _ G_16.out (by omega) (by omega)).mono ?_
  rintro e w17 ⟨rfl, kk17, o17, z17⟩
  have H17 := Lib.hid (H16.out.trans (o17.below.mono g0_G))
  have W_17 := Lib.hid (W_16.out.only o17 ne_W_G)
  have G_17 := Lib.hid kk17
  clear kk17 o17 z17 H16 W_16 G_16
  have q17 := brow H17.out q0
  go_wp2_with fail
  refine (heldIK nn _ g_G 1 1 M rfl HM.out _ G_17.out (by omega) (by omega)).mono ?_
  rintro e w17_ ⟨rfl, rfl⟩
  go_wp2_with fail
  refine (toRoof_any c r _ hR).mono ?_
  rintro e w18 ⟨rfl, b18⟩
  have H18 := Lib.hid (bnext H17.out b18 H17.out.size)
  have W_18 := Lib.hid (W_17.out.below b18 (Nat.le_refl _))
  have G_18 := Lib.hid (G_17.out.below b18 (Nat.le_refl _))
  clear b18 H17 W_17 G_17
  have q18 := brow H18.out q0
  go_wp2_with fail
  refine (toInt64S_any _ m_g g _ (A_g.out.below H18.out (Nat.le_refl _)) (by omega)).mono ?_
  rintro e w19 ⟨u_y_g, rfl, l_y_g, b19⟩
  have H19 := Lib.hid (bnext H18.out b19 H18.out.size)
  have W_19 := Lib.hid (W_18.out.below b19 (Nat.le_refl _))
  have G_19 := Lib.hid (G_18.out.below b19 (Nat.le_refl _))
  obtain ⟨g_y_g, hg_y_g, k_y_g⟩ := l_y_g.ls
  have ne_W_y_g := W_18.out.ne hg_y_g
  have ne_G_y_g := G_18.out.ne hg_y_g
  have g0_y_g : W0.heap.size ≤ g_y_g := Nat.le_trans H18.out.size hg_y_g
  have y_g_19 := Lib.hid k_y_g
  clear l_y_g k_y_g hg_y_g
  clear b19 H18 W_18 G_18
  have q19 := brow H19.out q0
  go_wp2_with fail
  refine (toPlaceS_c _ m_f f _ (A_f.out.below H19.out (Nat.le_refl _)) (by omega)).mono ?_
  rintro e w20 ⟨u_y_f, rfl, l_y_f, b20⟩
  have H20 := Lib.hid (bnext H19.out b20 H19.out.size)
  have W_20 := Lib.hid (W_19.out.below b20 (Nat.le_refl _))
  have G_20 := Lib.hid (G_19.out.below b20 (Nat.le_refl _))
  have y_g_20 := Lib.hid (y_g_19.out.below b20 (Nat.le_refl _))
  obtain ⟨g_y_f, hg_y_f, k_y_f⟩ := l_y_f.ls
  have ne_W_y_f := W_19.out.ne hg_y_f
  have ne_G_y_f := G_19.out.ne hg_y_f
  have ne_y_g_y_f := y_g_19.out.ne hg_y_f
  have g0_y_f : W0.heap.size ≤ g_y_f := Nat.le_trans H19.out.size hg_y_f
  have y_f_20 := Lib.hid k_y_f
  clear l_y_f k_y_f hg_y_f
  clear b20 H19 W_19 G_19 y_g_19
  have q20 := brow H20.out q0
  go_wp2_with fail
  refine (CI _ _ _ _ _ y_g_20.out.list y_f_20.out.list).mono ?_
  rintro e w21 ⟨u_H, rfl, l_H, b21⟩
  have H21 := Lib.hid (bnext H20.out b21 H20.out.size)
  have W_21 := Lib.hid (W_20.out.below b21 (Nat.le_refl _))
  have G_21 := Lib.hid (G_20.out.below b21 (Nat.le_refl _))
  have y_g_21 := Lib.hid (y_g_20.out.below b21 (Nat.le_refl _))
  have y_f_21 := Lib.hid (y_f_20.out.below b21 (Nat.le_refl _))
  obtain ⟨g_H, hg_H, k_H⟩ := l_H.ls
  have ne_W_H := W_20.out.ne hg_H
  have ne_G_H := G_20.out.ne hg_H
  have ne_y_g_H := y_g_20.out.ne hg_H
  have ne_y_f_H := y_f_20.out.ne hg_H
  have g0_H : W0.heap.size ≤ g_H := Nat.le_trans H20.out.size hg_H
  obtain ⟨a_H, c_H, rfl⟩ := l_H.shape
  have H_21 := Lib.hid k_H
  clear l_H k_H hg_H
  clear b21 H20 W_20 G_20 y_g_20 y_f_20
  have q21 := brow H21.out q0
  go_wp2_with fail
  clear y_g_21 y_f_21
  refine (eqI nn ff _ _ _ _ _ H_21.out.list W_21.out.list hnb).mono ?_
  rintro e w22 ⟨rfl, b22⟩
  have H22 := Lib.hid (bnext H21.out b22 H21.out.size)
  have W_22 := Lib.hid (W_21.out.below b22 (Nat.le_refl _))
  have G_22 := Lib.hid (G_21.out.below b22 (Nat.le_refl _))
  have H_22 := Lib.hid (H_21.out.below b22 (Nat.le_refl _))
  clear b22 H21 W_21 G_21 H_21
  have q22 := brow H22.out q0
  go_wp2_with fail
  refine (heldIK nn _ g_G 1 1 M rfl HM.out _ G_22.out (by omega) (by omega)).mono ?_
  rintro e w22_ ⟨rfl, rfl⟩
  go_wp2_with fail
  go_ret
  exact ⟨rfl, PB0.out.trans (H22.out.mono PB0.out.size)⟩

namespace LFnExactLadderFor
open Go.RowKit Go.ChangeShapes Go.WideShapes Go.ChangeAt
theorem own : ownKnob Try.prog.godebug = none := by kernel_rfl
theorem laidOut : laidOutB Try.prog = true := by kernel_rfl
set_option maxRecDepth 100000 in
theorem lifted (os : Os) (started : os.Started) (H : Type) (enc : TypeId × Value → H) :
    ReturnsInHanded {} Try.checked os 5 .any (Rows.fnExactLadderForSpec.pre6 enc Try.prog Try.f5 Rows.fnExactLadderForRow.domain false) (Rows.fnExactLadderForSpec.post enc Try.prog Try.f5 false true false false) := by
  refine returnsInHanded_of_change (C := Try.checked) own started (by kernel_rfl) Try.func5
    (ChangeSpec.witness6 (enc := enc) (C := Try.checked) false ⟨#[], #[.agg Try.zeroCells26, .slice none 0 0, .int .i64 0, .slice none 0 0], []⟩ 8 (by kernel_rfl) (by kernel_rfl) (by kernel_rfl) (by kernel_rfl)) ?_
  intro W base args ds gs before hval0 hW hcnd _
  have hval : ∀ (j : Nat) t v, Try.f5.params[j]? = some t → args[j]? = some v → Value.okWide Try.prog W .any base t v := hval0
  have hW' := hW
  obtain ⟨p, q, hA0, hV, rfl, hfz, hnd⟩ := hW
  have hA : DataW.TrodAll enc Try.prog W 0 (fun _ => true) true Try.f5.params.toList args.toList ds p := hA0
  rw [Try.params5] at hA hval
  obtain ⟨v0, vs0, d0, ds0, p0, q0, hargs, rfl, rfl, h0, r0⟩ := trodAll_cons hA
  obtain ⟨v1, vs1, d1, ds1, p1, q1, rfl, rfl, rfl, h1, r1⟩ := trodAll_cons r0
  obtain ⟨v2, vs2, d2, ds2, p2, q2, rfl, rfl, rfl, h2, r2⟩ := trodAll_cons r1
  obtain ⟨v3, vs3, d3, ds3, p3, q3, rfl, rfl, rfl, h3, r3⟩ := trodAll_cons r2
  obtain ⟨rfl, rfl, rfl⟩ := trodAll_nil r3
  obtain rfl : args = #[v0, v1, v2, v3] := by cases args; simp_all
  obtain ⟨rfl, rfl⟩ := trodVars_none hV
  have k0 := h0
  have lt0 : ∀ x ∈ p0, x.block < W.heap.size := by obtain ⟨m, hm⟩ := k0; exact DataW.trod_lt m _ _ _ hm
  have k1 := h1
  have lt1 : ∀ x ∈ p1, x.block < W.heap.size := by obtain ⟨m, hm⟩ := k1; exact DataW.trod_lt m _ _ _ hm
  have k3 := h3
  have lt3 : ∀ x ∈ p3, x.block < W.heap.size := by obtain ⟨m, hm⟩ := k3; exact DataW.trod_lt m _ _ _ hm
  obtain ⟨c0, f0, rfl, wf0⟩ := open_roof (hval 0 26 v0 rfl rfl) h0
  obtain ⟨len1, cells1, hL1, hm1, hb1⟩ := open_nums (hval 1 35 v1 rfl rfl) h1
  obtain ⟨x2, rfl, rfl, rfl, wx2⟩ := open_int Try.underlying2 (hval 2 2 v2 rfl rfl) h2
  obtain ⟨len3, cells3, hL3, hm3, hb3⟩ := open_pls (hval 3 36 v3 rfl rfl) h3
  clear hA0 hval0
  refine (law_walk_FnExactLadderFor wf0 hL1 hm1 hb1 (bounds_i64 wx2) hL3 hm3 hb3).mono fun e W' ⟨he, bel⟩ => ?_
  subst he
  exact ⟨_, rfl, _, _, _, [], _, [], hW', trodAll_mk1 (shut_bool Try.underlying4 _), (trodAll_cons_mk (Below.trod laidOut (by kernel_rfl) (of_decide_eq_true (by kernel_rfl)) k0 bel lt0) (trodAll_cons_mk (Below.trod laidOut (by kernel_rfl) (of_decide_eq_true (by kernel_rfl)) k1 bel lt1) (trodAll_cons_mk (shut_int Try.underlying2 wx2) (trodAll_cons_mk (Below.trod laidOut (by kernel_rfl) (of_decide_eq_true (by kernel_rfl)) k3 bel lt3) trodAll_mk0)))), rfl, bel.frame _, fun h => by cases h⟩

theorem over : Rows.fnExactLadderForRow.holds Try.pinned (OpenSpec.ofChange Rows.fnExactLadderForSpec) :=
  OpenClaim.holds_of_wide 5 Try.f5 rfl rfl rfl rfl rfl rfl rfl ⟨rfl, rfl, rfl, rfl, rfl⟩ rfl rfl rfl rfl rfl (by kernel_rfl) Try.func5 (by kernel_rfl)
    (of_decide_eq_true (by kernel_rfl)) (by unfold Func.isWrapper; first | (rw [if_pos (by decide +kernel)]; kernel_rfl) | (rw [if_neg (by decide +kernel)]; exact ⟨rfl, rfl⟩))
    (fun os started H enc _ => lifted os started H enc)

theorem proved : Rows.FnExactLadderForSaid := over
end LFnExactLadderFor


end Go.Proofs.Ytkimngffbioeeaa
