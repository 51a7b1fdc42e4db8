/- laws.FnExactSlopeTo returns true for every input. No condition. -/
import Derived.Test.YtlkmdoccnbnacaaLsPp
import Derived.Test.YtlkmdoccnbnacaaGutG
import Derived.Test.YtlkmdoccnbnacaaWat
import Derived.Test.YtlkmdoccnbnacaaNums
import Derived.Test.YtlkmdoccnbnacaaLeav
import Derived.Test.YtlkmdoccnbnacaaSloI
import Derived.Deep.RegionHeld3
namespace Go.Proofs.Ytlkmdoccnbnacaa
open Go.RowKit

set_option maxRecDepth 100000 in
set_option maxHeartbeats 4000000 in
theorem law_walk_FnExactSlopeTo {w : World} {y : Int} (_hy : -9223372036854775808 ≤ y ∧ y ≤ 9223372036854775807) {z : Int} (_hz : -9223372036854775808 ≤ z ∧ z ≤ 9223372036854775807) {v_p : Value} {m_p : Nat} {f_p : Nat → Int} (hv_p : ArgPp w v_p m_p f_p) (hm_p : m_p ≤ maxLen) (hb_p : pipeB f_p m_p) :
    Calls Try.prog 14 #[.int .i64 y, .int .i64 z, v_p] w fun e w' => e = .returned (.bool true) ∧ Below w.heap.size w w' := by
  have PB0 := Lib.hid (show Below w.heap.size w w from Below.refl w.heap.size w)
  have A_p := Lib.hid hv_p
  have HBD := Lib.hid hb_p
  obtain ⟨av_p, cv_p, rfl⟩ := hv_p.shape
  clear hv_p hb_p
  obtain ⟨X0, hX0⟩ : ∃ X : Int, X = if (m_p : Int) ≤ 1048576 then (1048576 : Int) - m_p else (-1 : Int) := ⟨_, rfl⟩
  have HX0 := Lib.hid hX0
  by_cases hl_p : (m_p : Int) ≤ (1048576 : Int)
  rotate_left
  · have hx0 : decide (X0 < 0) = true := by rw [HX0.out, if_neg hl_p]; rfl
    clear hX0
    go_enter Try.func14, Try.ntmps14
    go_wp2_with fail
    have H0 := Lib.hid (Below.refl w.heap.size w)
    refine (szPipeS_any _ _ m_p f_p _ (A_p.out.below H0.out (Nat.le_refl _)) ⟨by omega, by omega⟩ hm_p X0 HX0.out).mono ?_
    rintro e w_ ⟨rfl, rfl⟩
    go_wp2_with fail
    go_ret
    exact ⟨rfl, H0.out⟩
  rw [if_pos hl_p] at hX0
  have hXb0 : 0 ≤ X0 ∧ X0 ≤ 1048576 := by omega
  have hx0 : decide (X0 < 0) = false := by simp; omega
  have hm1_p : m_p ≤ 1048576 := by omega
  clear hX0
  have CS := fun (W : World) (B : Nat) (U : Option Addr) (H : IsList W B (.slice U m_p m_p) 2 m_p (pipeV f_p)) => specSlopeTo_any y z B m_p f_p (.slice U m_p m_p) W H HBD.out (by omega)
  have CI := fun (W : World) (B : Nat) (U : Option Addr) (H : IsList W B (.slice U m_p m_p) 2 m_p (pipeV f_p)) => implSlopeTo_any y z B m_p f_p (.slice U m_p m_p) W H HBD.out (by omega)
  unfold GivesGutT at CS CI
  have hnb : (sloR y z m_p f_p).m ≤ 2000000 := sloR_le (by omega)
  generalize (sloR y z m_p f_p) = gg at *
  obtain ⟨M, hM⟩ : ∃ M : Int, M = ((1 + 2 * gg.m : Nat) : Int) := ⟨_, rfl⟩
  have hM0 : 0 ≤ M := by omega
  have hmm : (M != M) = false := by simp
  have hml : decide (M < 0) = false := by simp; omega
  have HM := Lib.hid hM
  clear hM
  obtain ⟨K0, hK0⟩ : ∃ K : Int, K = ((1 + 2 * m_p : Nat) : Int) := ⟨_, rfl⟩
  have HK0 := Lib.hid hK0
  have hK0_0 : 0 ≤ K0 := by omega
  have hKl_0 : decide (K0 < 0) = false := by simp; omega
  clear hK0
  have hne0 : ((sloC y z m_p f_p) != (sloC y z m_p f_p)) = false := by simp
  generalize (sloC y z m_p f_p) = x0 at *
  go_enter Try.func14, Try.ntmps14
  go_wp2_with fail
  have H0 := Lib.hid (Below.refl w.heap.size w)
  refine (szPipeS_any _ _ m_p f_p _ (A_p.out.below H0.out (Nat.le_refl _)) ⟨by omega, by omega⟩ hm_p X0 HX0.out).mono ?_
  rintro e w_ ⟨rfl, rfl⟩
  go_wp2_with fail
  refine (toPipeS_c _ m_p f_p _ (A_p.out.below H0.out (Nat.le_refl _)) (by omega)).mono ?_
  rintro e w1 ⟨u_s_p, rfl, l_s_p, b1⟩
  have H1 := Lib.hid (bnext H0.out b1 H0.out.size)
  obtain ⟨g_s_p, hg_s_p, k_s_p⟩ := l_s_p.ls
  have g0_s_p : w.heap.size ≤ g_s_p := Nat.le_trans H0.out.size hg_s_p
  have s_p_1 := Lib.hid k_s_p
  clear l_s_p k_s_p hg_s_p
  clear b1 H0
  go_wp2_with fail
  refine (CS _ _ _ s_p_1.out.list).mono ?_
  rintro e w2 ⟨X_W, v_W, rfl, is_W, l_W, b2⟩
  have H2 := Lib.hid (bnext H1.out b2 H1.out.size)
  have s_p_2 := Lib.hid (s_p_1.out.below b2 (Nat.le_refl _))
  obtain ⟨a_W, k_W, rfl⟩ := l_W.shape
  obtain ⟨g_W, hg_W, k_W⟩ := l_W.ls
  have ne_s_p_W := s_p_1.out.ne hg_W
  have g0_W : w.heap.size ≤ g_W := Nat.le_trans H1.out.size hg_W
  have W_2 := Lib.hid k_W
  clear l_W k_W hg_W
  clear b2 H1 s_p_1
  have zs_W := is_W.size
  have zo_W := is_W.ones
  have zk_W := is_W.pipes
  replace is_W := Lib.hid is_W
  go_wp2_with fail
  have ne_s_p_RW : m_p = 0 ∨ g_s_p ≠ w2.heap.size := s_p_2.out.lt.imp id Nat.ne_of_lt
  have ne_W_RW : gg.m = 0 ∨ g_W ≠ w2.heap.size := W_2.out.lt.imp id Nat.ne_of_lt
  refine gen_callsW fun w3 hV => ?_
  have b3 : Below w2.heap.size w2 w3 := by rw [hV]; exact (Below.refl _ _).alloc (Nat.le_refl _) _
  have RW_3 : rowAt w3 w2.heap.size = some X_W := by rw [hV]; exact rowAt_alloc_at _ _ _ _ (by simp)
  clear hV
  have H3 := Lib.hid (bnext H2.out b3 H2.out.size)
  have s_p_3 := Lib.hid (s_p_2.out.below b3 (Nat.le_refl _))
  have W_3 := Lib.hid (W_2.out.below b3 (Nat.le_refl _))
  clear b3 H2 s_p_2 W_2
  clear s_p_3
  refine (toPipeS_c _ m_p f_p _ (A_p.out.below H3.out (Nat.le_refl _)) (by omega)).mono ?_
  rintro e w4 ⟨u_x_p, rfl, l_x_p, b4⟩
  have H4 := Lib.hid (bnext H3.out b4 H3.out.size)
  have W_4 := Lib.hid (W_3.out.below b4 (Nat.le_refl _))
  have RW_4 := brow b4 RW_3
  obtain ⟨g_x_p, hg_x_p, k_x_p⟩ := l_x_p.ls
  have ne_W_x_p := W_3.out.ne hg_x_p
  have ne_RW_x_p : w2.heap.size ≠ g_x_p := by have := rowAt_lt RW_3; omega
  have g0_x_p : w.heap.size ≤ g_x_p := Nat.le_trans H3.out.size hg_x_p
  have x_p_4 := Lib.hid k_x_p
  clear l_x_p k_x_p hg_x_p
  clear b4 H3 W_3 RW_3
  have n4_RW := Nat.ne_of_lt (rowAt_lt RW_4)
  have l4_RW := rowAt_lt RW_4
  go_wp2_with fail
  refine (CI _ _ _ x_p_4.out.list).mono ?_
  rintro e w5 ⟨X_G, v_G, rfl, is_G, l_G, b5⟩
  have H5 := Lib.hid (bnext H4.out b5 H4.out.size)
  have W_5 := Lib.hid (W_4.out.below b5 (Nat.le_refl _))
  have x_p_5 := Lib.hid (x_p_4.out.below b5 (Nat.le_refl _))
  have RW_5 := brow b5 RW_4
  obtain ⟨a_G, k_G, rfl⟩ := l_G.shape
  obtain ⟨g_G, hg_G, k_G⟩ := l_G.ls
  have ne_W_G := W_4.out.ne hg_G
  have ne_x_p_G := x_p_4.out.ne hg_G
  have ne_RW_G : w2.heap.size ≠ g_G := by have := rowAt_lt RW_4; omega
  have g0_G : w.heap.size ≤ g_G := Nat.le_trans H4.out.size hg_G
  have G_5 := Lib.hid k_G
  clear l_G k_G hg_G
  clear b5 H4 W_4 x_p_4 RW_4
  clear n4_RW l4_RW
  have n5_RW := Nat.ne_of_lt (rowAt_lt RW_5)
  have l5_RW := rowAt_lt RW_5
  have zs_G := is_G.size
  have zo_G := is_G.ones
  have zk_G := is_G.pipes
  replace is_G := Lib.hid is_G
  go_wp2_with fail
  have nn_RW_G : w2.heap.size ≠ w5.heap.size := Nat.ne_of_lt (rowAt_lt RW_5)
  have ne_W_RG : gg.m = 0 ∨ g_W ≠ w5.heap.size := W_5.out.lt.imp id Nat.ne_of_lt
  have ne_x_p_RG : m_p = 0 ∨ g_x_p ≠ w5.heap.size := x_p_5.out.lt.imp id Nat.ne_of_lt
  have ne_G_RG : gg.m = 0 ∨ g_G ≠ w5.heap.size := G_5.out.lt.imp id Nat.ne_of_lt
  refine gen_callsW fun w6 hV => ?_
  have b6 : Below w5.heap.size w5 w6 := by rw [hV]; exact (Below.refl _ _).alloc (Nat.le_refl _) _
  have RG_6 : rowAt w6 w5.heap.size = some X_G := by rw [hV]; exact rowAt_alloc_at _ _ _ _ (by simp)
  clear hV
  have H6 := Lib.hid (bnext H5.out b6 H5.out.size)
  have W_6 := Lib.hid (W_5.out.below b6 (Nat.le_refl _))
  have x_p_6 := Lib.hid (x_p_5.out.below b6 (Nat.le_refl _))
  have G_6 := Lib.hid (G_5.out.below b6 (Nat.le_refl _))
  have RW_6 := brow b6 RW_5
  clear b6 H5 W_5 x_p_5 G_5 RW_5
  clear n5_RW l5_RW
  have n6_RW := Nat.ne_of_lt (rowAt_lt RW_6)
  have l6_RW := rowAt_lt RW_6
  refine (eqGutter_same _ _ gg _ _ _ _ _ is_G.out is_W.out G_6.out.list W_6.out.list hnb).mono ?_
  rintro e w7 ⟨rfl, b7⟩
  have H7 := Lib.hid (bnext H6.out b7 H6.out.size)
  have W_7 := Lib.hid (W_6.out.below b7 (Nat.le_refl _))
  have x_p_7 := Lib.hid (x_p_6.out.below b7 (Nat.le_refl _))
  have G_7 := Lib.hid (G_6.out.below b7 (Nat.le_refl _))
  have RW_7 := brow b7 RW_6
  have RG_7 := brow b7 RG_6
  clear b7 H6 W_6 x_p_6 G_6 RW_6 RG_6
  clear n6_RW l6_RW
  have n7_RW := Nat.ne_of_lt (rowAt_lt RW_7)
  have l7_RW := rowAt_lt RW_7
  have n7_RG := Nat.ne_of_lt (rowAt_lt RG_7)
  have l7_RG := rowAt_lt RG_7
  go_wp2_with fail
  refine (toPipeS_c _ m_p f_p _ (A_p.out.below H7.out (Nat.le_refl _)) (by omega)).mono ?_
  rintro e w8 ⟨u_t_p, rfl, l_t_p, b8⟩
  have H8 := Lib.hid (bnext H7.out b8 H7.out.size)
  have W_8 := Lib.hid (W_7.out.below b8 (Nat.le_refl _))
  have x_p_8 := Lib.hid (x_p_7.out.below b8 (Nat.le_refl _))
  have G_8 := Lib.hid (G_7.out.below b8 (Nat.le_refl _))
  have RW_8 := brow b8 RW_7
  have RG_8 := brow b8 RG_7
  obtain ⟨g_t_p, hg_t_p, k_t_p⟩ := l_t_p.ls
  have ne_W_t_p := W_7.out.ne hg_t_p
  have ne_x_p_t_p := x_p_7.out.ne hg_t_p
  have ne_G_t_p := G_7.out.ne hg_t_p
  have ne_RW_t_p : w2.heap.size ≠ g_t_p := by have := rowAt_lt RW_7; omega
  have ne_RG_t_p : w5.heap.size ≠ g_t_p := by have := rowAt_lt RG_7; omega
  have g0_t_p : w.heap.size ≤ g_t_p := Nat.le_trans H7.out.size hg_t_p
  have t_p_8 := Lib.hid k_t_p
  clear l_t_p k_t_p hg_t_p
  clear b8 H7 W_7 x_p_7 G_7 RW_7 RG_7
  clear n7_RW l7_RW n7_RG l7_RG
  have n8_RW := Nat.ne_of_lt (rowAt_lt RW_8)
  have l8_RW := rowAt_lt RW_8
  have n8_RG := Nat.ne_of_lt (rowAt_lt RG_8)
  have l8_RG := rowAt_lt RG_8
  go_wp2_with fail
  refine (eqPipeS_same m_p f_p _ _ _ _ _ x_p_8.out.list t_p_8.out.list (by omega)).mono ?_
  rintro e w9 ⟨rfl, b9⟩
  have H9 := Lib.hid (bnext H8.out b9 H8.out.size)
  have W_9 := Lib.hid (W_8.out.below b9 (Nat.le_refl _))
  have x_p_9 := Lib.hid (x_p_8.out.below b9 (Nat.le_refl _))
  have G_9 := Lib.hid (G_8.out.below b9 (Nat.le_refl _))
  have t_p_9 := Lib.hid (t_p_8.out.below b9 (Nat.le_refl _))
  have RW_9 := brow b9 RW_8
  have RG_9 := brow b9 RG_8
  clear b9 H8 W_8 x_p_8 G_8 t_p_8 RW_8 RG_8
  clear n8_RW l8_RW n8_RG l8_RG
  have n9_RW := Nat.ne_of_lt (rowAt_lt RW_9)
  have l9_RW := rowAt_lt RW_9
  have n9_RG := Nat.ne_of_lt (rowAt_lt RG_9)
  have l9_RG := rowAt_lt RG_9
  go_wp2_with fail
  clear t_p_9
  refine (markPpK m_p _ _ g_x_p (1) 1 K0 rfl HK0.out _ x_p_9.out (by omega) (by omega)).mono ?_
  rintro e w10 ⟨rfl, kk10, o10, z10⟩
  have H10 := Lib.hid (H9.out.trans (o10.below.mono g0_x_p))
  have W_10 := Lib.hid (W_9.out.only o10 ne_W_x_p)
  have x_p_10 := Lib.hid kk10
  have G_10 := Lib.hid (G_9.out.only_later o10 z10 ne_x_p_G)
  have RW_10 := (o10.row ne_RW_x_p).trans RW_9
  have RG_10 : rowAt w10 (w5.heap.size) = some X_G := by rcases ne_x_p_RG with h | h; · {rw [z10 h]; exact RG_9}; · exact (o10.row (Ne.symm h)).trans RG_9
  clear kk10 o10 z10 H9 W_9 x_p_9 G_9 RW_9 RG_9
  clear n9_RW l9_RW n9_RG l9_RG
  have n10_RW := Nat.ne_of_lt (rowAt_lt RW_10)
  have l10_RW := rowAt_lt RW_10
  have n10_RG := Nat.ne_of_lt (rowAt_lt RG_10)
  have l10_RG := rowAt_lt RG_10
  go_wp2_with fail
  refine (eqGutter_same _ _ gg _ _ _ _ _ is_G.out is_W.out G_10.out.list W_10.out.list hnb).mono ?_
  rintro e w11 ⟨rfl, b11⟩
  have H11 := Lib.hid (bnext H10.out b11 H10.out.size)
  have W_11 := Lib.hid (W_10.out.below b11 (Nat.le_refl _))
  have x_p_11 := Lib.hid (x_p_10.out.below b11 (Nat.le_refl _))
  have G_11 := Lib.hid (G_10.out.below b11 (Nat.le_refl _))
  have RW_11 := brow b11 RW_10
  have RG_11 := brow b11 RG_10
  clear b11 H10 W_10 x_p_10 G_10 RW_10 RG_10
  clear n10_RW l10_RW n10_RG l10_RG
  have n11_RW := Nat.ne_of_lt (rowAt_lt RW_11)
  have l11_RW := rowAt_lt RW_11
  have n11_RG := Nat.ne_of_lt (rowAt_lt RG_11)
  have l11_RG := rowAt_lt RG_11
  go_wp2_with fail
  clear x_p_11
  refine (markGutter_any gg.m _ _ _ g_G (1) 1 M rfl HM.out _ zs_G zk_G G_11.out (by omega) (by omega)).mono ?_
  rintro e w12 ⟨rfl, kk12, ⟨wM12, bM12, o12, z12⟩⟩
  have W_12m := Lib.hid (W_11.out.below bM12 (Nat.le_refl _))
  have G_12m := Lib.hid (G_11.out.below bM12 (Nat.le_refl _))
  have RW_12m := brow bM12 RW_11
  have RG_12m := brow bM12 RG_11
  have H12m := Lib.hid (bnext H11.out bM12 H11.out.size)
  clear bM12 H11 W_11 G_11 RW_11 RG_11
  have H12 := Lib.hid (H12m.out.trans (o12.below.mono g0_G))
  have W_12 := Lib.hid (W_12m.out.only o12 ne_W_G)
  have G_12 := Lib.hid kk12
  have RW_12 := (o12.row ne_RW_G).trans RW_12m
  have RG_12 : rowAt w12 (w5.heap.size) = some X_G := by rcases ne_G_RG with h | h; · {rw [z12 h]; exact RG_12m}; · exact (o12.row (Ne.symm h)).trans RG_12m
  clear kk12 o12 z12 H12m W_12m G_12m RW_12m RG_12m
  clear n11_RW l11_RW n11_RG l11_RG
  have n12_RW := Nat.ne_of_lt (rowAt_lt RW_12)
  have l12_RW := rowAt_lt RW_12
  have n12_RG := Nat.ne_of_lt (rowAt_lt RG_12)
  have l12_RG := rowAt_lt RG_12
  go_wp2_with fail
  refine (heldGutter_any gg.m _ _ g_G 1 1 M rfl HM.out _ zs_G zk_G G_12.out (by omega) (by omega)).mono ?_
  rintro e w13 ⟨rfl, b13⟩
  have H13 := Lib.hid (bnext H12.out b13 H12.out.size)
  have W_13 := Lib.hid (W_12.out.below b13 (Nat.le_refl _))
  have G_13 := Lib.hid (G_12.out.below b13 (Nat.le_refl _))
  have RW_13 := brow b13 RW_12
  have RG_13 := brow b13 RG_12
  clear b13 H12 W_12 G_12 RW_12 RG_12
  clear n12_RW l12_RW n12_RG l12_RG
  have n13_RW := Nat.ne_of_lt (rowAt_lt RW_13)
  have l13_RW := rowAt_lt RW_13
  have n13_RG := Nat.ne_of_lt (rowAt_lt RG_13)
  have l13_RG := rowAt_lt RG_13
  go_wp2_with fail
  refine (toPipeS_c _ m_p f_p _ (A_p.out.below H13.out (Nat.le_refl _)) (by omega)).mono ?_
  rintro e w14 ⟨u_y_p, rfl, l_y_p, b14⟩
  have H14 := Lib.hid (bnext H13.out b14 H13.out.size)
  have W_14 := Lib.hid (W_13.out.below b14 (Nat.le_refl _))
  have G_14 := Lib.hid (G_13.out.below b14 (Nat.le_refl _))
  have RW_14 := brow b14 RW_13
  have RG_14 := brow b14 RG_13
  obtain ⟨g_y_p, hg_y_p, k_y_p⟩ := l_y_p.ls
  have ne_W_y_p := W_13.out.ne hg_y_p
  have ne_G_y_p := G_13.out.ne hg_y_p
  have ne_RW_y_p : w2.heap.size ≠ g_y_p := by have := rowAt_lt RW_13; omega
  have ne_RG_y_p : w5.heap.size ≠ g_y_p := by have := rowAt_lt RG_13; omega
  have g0_y_p : w.heap.size ≤ g_y_p := Nat.le_trans H13.out.size hg_y_p
  have y_p_14 := Lib.hid k_y_p
  clear l_y_p k_y_p hg_y_p
  clear b14 H13 W_13 G_13 RW_13 RG_13
  clear n13_RW l13_RW n13_RG l13_RG
  have n14_RW := Nat.ne_of_lt (rowAt_lt RW_14)
  have l14_RW := rowAt_lt RW_14
  have n14_RG := Nat.ne_of_lt (rowAt_lt RG_14)
  have l14_RG := rowAt_lt RG_14
  go_wp2_with fail
  refine (CI _ _ _ y_p_14.out.list).mono ?_
  rintro e w15 ⟨X_H, v_H, rfl, is_H, l_H, b15⟩
  have H15 := Lib.hid (bnext H14.out b15 H14.out.size)
  have W_15 := Lib.hid (W_14.out.below b15 (Nat.le_refl _))
  have G_15 := Lib.hid (G_14.out.below b15 (Nat.le_refl _))
  have y_p_15 := Lib.hid (y_p_14.out.below b15 (Nat.le_refl _))
  have RW_15 := brow b15 RW_14
  have RG_15 := brow b15 RG_14
  obtain ⟨a_H, k_H, rfl⟩ := l_H.shape
  obtain ⟨g_H, hg_H, k_H⟩ := l_H.ls
  have ne_W_H := W_14.out.ne hg_H
  have ne_G_H := G_14.out.ne hg_H
  have ne_y_p_H := y_p_14.out.ne hg_H
  have ne_RW_H : w2.heap.size ≠ g_H := by have := rowAt_lt RW_14; omega
  have ne_RG_H : w5.heap.size ≠ g_H := by have := rowAt_lt RG_14; omega
  have g0_H : w.heap.size ≤ g_H := Nat.le_trans H14.out.size hg_H
  have H_15 := Lib.hid k_H
  clear l_H k_H hg_H
  clear b15 H14 W_14 G_14 y_p_14 RW_14 RG_14
  clear n14_RW l14_RW n14_RG l14_RG
  have n15_RW := Nat.ne_of_lt (rowAt_lt RW_15)
  have l15_RW := rowAt_lt RW_15
  have n15_RG := Nat.ne_of_lt (rowAt_lt RG_15)
  have l15_RG := rowAt_lt RG_15
  have zs_H := is_H.size
  have zo_H := is_H.ones
  have zk_H := is_H.pipes
  replace is_H := Lib.hid is_H
  go_wp2_with fail
  have nn_RW_H : w2.heap.size ≠ w15.heap.size := Nat.ne_of_lt (rowAt_lt RW_15)
  have nn_RG_H : w5.heap.size ≠ w15.heap.size := Nat.ne_of_lt (rowAt_lt RG_15)
  have ne_W_RH : gg.m = 0 ∨ g_W ≠ w15.heap.size := W_15.out.lt.imp id Nat.ne_of_lt
  have ne_G_RH : gg.m = 0 ∨ g_G ≠ w15.heap.size := G_15.out.lt.imp id Nat.ne_of_lt
  have ne_y_p_RH : m_p = 0 ∨ g_y_p ≠ w15.heap.size := y_p_15.out.lt.imp id Nat.ne_of_lt
  have ne_H_RH : gg.m = 0 ∨ g_H ≠ w15.heap.size := H_15.out.lt.imp id Nat.ne_of_lt
  refine gen_callsW fun w16 hV => ?_
  have b16 : Below w15.heap.size w15 w16 := by rw [hV]; exact (Below.refl _ _).alloc (Nat.le_refl _) _
  have RH_16 : rowAt w16 w15.heap.size = some X_H := by rw [hV]; exact rowAt_alloc_at _ _ _ _ (by simp)
  clear hV
  have H16 := Lib.hid (bnext H15.out b16 H15.out.size)
  have W_16 := Lib.hid (W_15.out.below b16 (Nat.le_refl _))
  have G_16 := Lib.hid (G_15.out.below b16 (Nat.le_refl _))
  have y_p_16 := Lib.hid (y_p_15.out.below b16 (Nat.le_refl _))
  have H_16 := Lib.hid (H_15.out.below b16 (Nat.le_refl _))
  have RW_16 := brow b16 RW_15
  have RG_16 := brow b16 RG_15
  clear b16 H15 W_15 G_15 y_p_15 H_15 RW_15 RG_15
  clear n15_RW l15_RW n15_RG l15_RG
  have n16_RW := Nat.ne_of_lt (rowAt_lt RW_16)
  have l16_RW := rowAt_lt RW_16
  have n16_RG := Nat.ne_of_lt (rowAt_lt RG_16)
  have l16_RG := rowAt_lt RG_16
  clear y_p_16
  refine (eqGutter_same _ _ gg _ _ _ _ _ is_H.out is_W.out H_16.out.list W_16.out.list hnb).mono ?_
  rintro e w17 ⟨rfl, b17⟩
  have H17 := Lib.hid (bnext H16.out b17 H16.out.size)
  have W_17 := Lib.hid (W_16.out.below b17 (Nat.le_refl _))
  have G_17 := Lib.hid (G_16.out.below b17 (Nat.le_refl _))
  have H_17 := Lib.hid (H_16.out.below b17 (Nat.le_refl _))
  have RW_17 := brow b17 RW_16
  have RG_17 := brow b17 RG_16
  have RH_17 := brow b17 RH_16
  clear b17 H16 W_16 G_16 H_16 RW_16 RG_16 RH_16
  clear n16_RW l16_RW n16_RG l16_RG
  have n17_RW := Nat.ne_of_lt (rowAt_lt RW_17)
  have l17_RW := rowAt_lt RW_17
  have n17_RG := Nat.ne_of_lt (rowAt_lt RG_17)
  have l17_RG := rowAt_lt RG_17
  have n17_RH := Nat.ne_of_lt (rowAt_lt RH_17)
  have l17_RH := rowAt_lt RH_17
  go_wp2_with fail
  refine (heldGutter_any gg.m _ _ g_G 1 1 M rfl HM.out _ zs_G zk_G G_17.out (by omega) (by omega)).mono ?_
  rintro e w18 ⟨rfl, b18⟩
  have H18 := Lib.hid (bnext H17.out b18 H17.out.size)
  have W_18 := Lib.hid (W_17.out.below b18 (Nat.le_refl _))
  have G_18 := Lib.hid (G_17.out.below b18 (Nat.le_refl _))
  have H_18 := Lib.hid (H_17.out.below b18 (Nat.le_refl _))
  have RW_18 := brow b18 RW_17
  have RG_18 := brow b18 RG_17
  have RH_18 := brow b18 RH_17
  clear b18 H17 W_17 G_17 H_17 RW_17 RG_17 RH_17
  clear n17_RW l17_RW n17_RG l17_RG n17_RH l17_RH
  have n18_RW := Nat.ne_of_lt (rowAt_lt RW_18)
  have l18_RW := rowAt_lt RW_18
  have n18_RG := Nat.ne_of_lt (rowAt_lt RG_18)
  have l18_RG := rowAt_lt RG_18
  have n18_RH := Nat.ne_of_lt (rowAt_lt RH_18)
  have l18_RH := rowAt_lt RH_18
  go_wp2_with fail
  go_ret
  exact ⟨rfl, H18.out⟩

namespace LFnExactSlopeTo
open Go.RowKit Go.ChangeShapes Go.WideShapes Go.ChangeAt
theorem own : ownKnob Try.prog.godebug = none := by kernel_rfl
theorem laidOut : laidOutB Try.prog = true := by kernel_rfl
set_option maxRecDepth 100000 in
theorem lifted (os : Os) (started : os.Started) (H : Type) (enc : TypeId × Value → H) :
    ReturnsInHanded {} Try.checked os 14 .any (Rows.fnExactSlopeToSpec.pre6 enc Try.prog Try.f14 Rows.fnExactSlopeToRow.domain false) (Rows.fnExactSlopeToSpec.post enc Try.prog Try.f14 false true false false) := by
  refine returnsInHanded_of_change (C := Try.checked) own started (by kernel_rfl) Try.func14
    (ChangeSpec.witness6 (enc := enc) (C := Try.checked) false ⟨#[], #[.int .i64 0, .int .i64 0, .slice none 0 0], []⟩ 8 (by kernel_rfl) (by kernel_rfl) (by kernel_rfl) (by kernel_rfl)) ?_
  intro W base args ds gs before hval0 hW hcnd _
  have hval : ∀ (j : Nat) t v, Try.f14.params[j]? = some t → args[j]? = some v → Value.okWide Try.prog W .any base t v := hval0
  have hW' := hW
  obtain ⟨p, q, hA0, hV, rfl, hfz, hnd⟩ := hW
  have hA : DataW.TrodAll enc Try.prog W 0 (fun _ => true) true Try.f14.params.toList args.toList ds p := hA0
  rw [Try.params14] at hA hval
  obtain ⟨v0, vs0, d0, ds0, p0, q0, hargs, rfl, rfl, h0, r0⟩ := trodAll_cons hA
  obtain ⟨v1, vs1, d1, ds1, p1, q1, rfl, rfl, rfl, h1, r1⟩ := trodAll_cons r0
  obtain ⟨v2, vs2, d2, ds2, p2, q2, rfl, rfl, rfl, h2, r2⟩ := trodAll_cons r1
  obtain ⟨rfl, rfl, rfl⟩ := trodAll_nil r2
  obtain rfl : args = #[v0, v1, v2] := by cases args; simp_all
  obtain ⟨rfl, rfl⟩ := trodVars_none hV
  have k2 := h2
  have lt2 : ∀ x ∈ p2, x.block < W.heap.size := by obtain ⟨m, hm⟩ := k2; exact DataW.trod_lt m _ _ _ hm
  obtain ⟨x0, rfl, rfl, rfl, wx0⟩ := open_int Try.underlying2 (hval 0 2 v0 rfl rfl) h0
  obtain ⟨x1, rfl, rfl, rfl, wx1⟩ := open_int Try.underlying2 (hval 1 2 v1 rfl rfl) h1
  obtain ⟨len2, cells2, hL2, hm2, hb2⟩ := open_pps (hval 2 26 v2 rfl rfl) h2
  clear hA0 hval0
  refine (law_walk_FnExactSlopeTo (bounds_i64 wx0) (bounds_i64 wx1) hL2 hm2 hb2).mono fun e W' ⟨he, bel⟩ => ?_
  subst he
  exact ⟨_, rfl, _, _, _, [], _, [], hW', trodAll_mk1 (shut_bool Try.underlying4 _), (trodAll_cons_mk (shut_int Try.underlying2 wx0) (trodAll_cons_mk (shut_int Try.underlying2 wx1) (trodAll_cons_mk (Below.trod laidOut (by kernel_rfl) (of_decide_eq_true (by kernel_rfl)) k2 bel lt2) trodAll_mk0))), rfl, bel.frame _, fun h => by cases h⟩

theorem over : Rows.fnExactSlopeToRow.holds Try.pinned (OpenSpec.ofChange Rows.fnExactSlopeToSpec) :=
  OpenClaim.holds_of_wide_leaving 14 Try.f14 rfl rfl rfl rfl rfl rfl rfl ⟨rfl, rfl, rfl, rfl, rfl⟩ rfl rfl rfl rfl rfl (by kernel_rfl) Try.func14 (by kernel_rfl)
    (of_decide_eq_true (by kernel_rfl)) (by unfold Func.isWrapper; first | (rw [if_pos (by decide +kernel)]; kernel_rfl) | (rw [if_neg (by decide +kernel)]; exact ⟨rfl, rfl⟩))
    (fun os started H enc _ => leaving_of_handed (lifted os started H enc))

theorem proved : Rows.FnExactSlopeToSaid := over
end LFnExactSlopeTo


end Go.Proofs.Ytlkmdoccnbnacaa
