/- laws.FnExactFewestPipes returns true for every gutter, and leaves them as they were. No condition. -/
import Derived.Test.YtlkmdoccnbnacaaGutG
import Derived.Test.YtlkmdoccnbnacaaWat
import Derived.Test.YtlkmdoccnbnacaaNums
import Derived.Test.YtlkmdoccnbnacaaLeav
import Derived.Test.YtlkmdoccnbnacaaFew
import Derived.Deep.RegionHeld3
namespace Go.Proofs.Ytlkmdoccnbnacaa
open Go.RowKit

set_option maxRecDepth 100000 in
set_option maxHeartbeats 4000000 in
theorem law_walk_FnExactFewestPipes {w : World} {c_g : Array Value} {g_g : Gt} {v_g : Value} (hG_g : IsGut c_g g_g v_g) (hv_g : ArgPp w v_g g_g.m g_g.p) (hm_g : g_g.m ≤ maxLen) :
    Calls Try.prog 15 #[.agg c_g] w fun e w' => e = .returned (.bool true) ∧ Below w.heap.size w w' := by
  have PB0 := Lib.hid (show Below w.heap.size w (w.alloc (.cells c_g 28)) from (Below.refl w.heap.size w).alloc (Nat.le_refl _) _)
  have q0_g : rowAt (w.alloc (.cells c_g 28)) (w.heap.size) = some c_g := rowAt_alloc_at w c_g 28 (w.heap.size) (by simp)
  have A_g := Lib.hid (hv_g.below PB0.out (Nat.le_refl _))
  have HG_g := Lib.hid hG_g
  have zs_g := hG_g.size
  obtain ⟨av_g, cv_g, rfl⟩ := hv_g.shape
  clear hv_g hG_g 
  obtain ⟨X0, hX0⟩ : ∃ X : Int, X = if (g_g.m : Int) ≤ 1048576 then (1048576 : Int) - g_g.m else (-1 : Int) := ⟨_, rfl⟩
  have HX0 := Lib.hid hX0
  by_cases hl_g : (g_g.m : Int) ≤ (1048576 : Int)
  rotate_left
  · have hx0 : decide (X0 < 0) = true := by rw [HX0.out, if_neg hl_g]; rfl
    clear hX0
    go_enter Try.func15, Try.ntmps15
    go_wp2_with fail
    refine gen_callsW fun W0 hW => ?_
    rw [← hW] at q0_g PB0 A_g
    clear hW
    have H0 := Lib.hid (Below.refl W0.heap.size W0)
    refine (szGutter_any _ c_g g_g _ _ HG_g.out (A_g.out.below H0.out (Nat.le_refl _)) ⟨by omega, by omega⟩ hm_g X0 HX0.out).mono ?_
    rintro e w1 ⟨rfl, b1⟩
    have H1 := Lib.hid (bnext H0.out b1 H0.out.size)
    clear b1 H0
    have q1_g := brow H1.out q0_g
    have n1_g := Nat.ne_of_lt (rowAt_lt (brow H1.out q0_g))
    have l1_g := rowAt_lt (brow H1.out q0_g)
    go_wp2_with fail
    go_ret
    exact ⟨rfl, PB0.out.trans (H1.out.mono PB0.out.size)⟩
  rw [if_pos hl_g] at hX0
  have hXb0 : 0 ≤ X0 ∧ X0 ≤ 1048576 := by omega
  have hx0 : decide (X0 < 0) = false := by simp; omega
  have hm1_g : g_g.m ≤ 1048576 := by omega
  clear hX0
  have CS := fun (W : World) (B_g : Nat) (U_g : Option Addr) (Y_g : Array Value) (I_g : IsGut Y_g g_g (.slice U_g g_g.m g_g.m)) (H_g : IsList W B_g (.slice U_g g_g.m g_g.m) 2 g_g.m (pipeV g_g.p)) => specFewestPipes_any B_g Y_g g_g (.slice U_g g_g.m g_g.m) W I_g H_g (by omega)
  have CI := fun (W : World) (B_g : Nat) (U_g : Option Addr) (Y_g : Array Value) (I_g : IsGut Y_g g_g (.slice U_g g_g.m g_g.m)) (H_g : IsList W B_g (.slice U_g g_g.m g_g.m) 2 g_g.m (pipeV g_g.p)) => implFewestPipes_any B_g Y_g g_g (.slice U_g g_g.m g_g.m) W I_g H_g (by omega)
  unfold GivesT at CS CI
  have hnb : (g_g.fewN) ≤ 2000000 := g_g.fewN_le
  generalize (g_g.fewN) = nn at *
  generalize (pickF g_g.sink g_g.n.toNat) = ff at *
  obtain ⟨M, hM⟩ : ∃ M : Int, M = ((1 + nn : Nat) : Int) := ⟨_, rfl⟩
  have hM0 : 0 ≤ M := by omega
  have hmm : (M != M) = false := by simp
  have hml : decide (M < 0) = false := by simp; omega
  have HM := Lib.hid hM
  clear hM
  obtain ⟨K0, hK0⟩ : ∃ K : Int, K = ((1 + 2 * g_g.m : Nat) : Int) := ⟨_, rfl⟩
  have HK0 := Lib.hid hK0
  have hK0_0 : 0 ≤ K0 := by omega
  have hKl_0 : decide (K0 < 0) = false := by simp; omega
  clear hK0
  have hne0 : ((g_g.cd) != (g_g.cd)) = false := by simp
  generalize (g_g.cd) = x0 at *
  go_enter Try.func15, Try.ntmps15
  go_wp2_with fail
  refine gen_callsW fun W0 hW => ?_
  rw [← hW] at q0_g PB0 A_g
  clear hW
  have H0 := Lib.hid (Below.refl W0.heap.size W0)
  refine (szGutter_any _ c_g g_g _ _ HG_g.out (A_g.out.below H0.out (Nat.le_refl _)) ⟨by omega, by omega⟩ hm_g X0 HX0.out).mono ?_
  rintro e w1 ⟨rfl, b1⟩
  have H1 := Lib.hid (bnext H0.out b1 H0.out.size)
  clear b1 H0
  have q1_g := brow H1.out q0_g
  have n1_g := Nat.ne_of_lt (rowAt_lt (brow H1.out q0_g))
  have l1_g := rowAt_lt (brow H1.out q0_g)
  go_wp2_with fail
  refine (toGutter_any c_g g_g _ _ HG_g.out (A_g.out.below H1.out (Nat.le_refl _)) (by omega)).mono ?_
  rintro e w2 ⟨u_s_g, rfl, l_s_g, b2⟩
  have H2 := Lib.hid (bnext H1.out b2 H1.out.size)
  obtain ⟨g_s_g, hg_s_g, k_s_g⟩ := l_s_g.ls
  have g0_s_g : W0.heap.size ≤ g_s_g := Nat.le_trans H1.out.size hg_s_g
  have s_g_2 := Lib.hid k_s_g
  clear l_s_g k_s_g hg_s_g
  clear b2 H1
  clear q1_g n1_g l1_g
  have q2_g := brow H2.out q0_g
  have n2_g := Nat.ne_of_lt (rowAt_lt (brow H2.out q0_g))
  have l2_g := rowAt_lt (brow H2.out q0_g)
  have is_s_g := Lib.hid (HG_g.out.setP' u_s_g g_g.m)
  obtain ⟨X_s_g, hX_s_g⟩ : ∃ X, setP c_g (.slice u_s_g g_g.m g_g.m) = X := ⟨_, rfl⟩
  rw [hX_s_g] at is_s_g ⊢
  clear hX_s_g
  have zs_s_g := is_s_g.out.size
  have zo_s_g := is_s_g.out.ones
  have zk_s_g := is_s_g.out.pipes
  go_wp2_with fail
  refine (CS _ _ _ _ is_s_g.out s_g_2.out.list).mono ?_
  rintro e w3 ⟨v_W, rfl, l_W, b3⟩
  have H3 := Lib.hid (bnext H2.out b3 H2.out.size)
  have s_g_3 := Lib.hid (s_g_2.out.below b3 (Nat.le_refl _))
  obtain ⟨a_W, k_W, rfl⟩ := l_W.shape
  obtain ⟨g_W, hg_W, k_W⟩ := l_W.ls
  have ne_s_g_W := s_g_2.out.ne hg_W
  have g0_W : W0.heap.size ≤ g_W := Nat.le_trans H2.out.size hg_W
  have W_3 := Lib.hid k_W
  clear l_W k_W hg_W
  clear b3 H2 s_g_2
  clear q2_g n2_g l2_g
  have q3_g := brow H3.out q0_g
  have n3_g := Nat.ne_of_lt (rowAt_lt (brow H3.out q0_g))
  have l3_g := rowAt_lt (brow H3.out q0_g)
  go_wp2_with fail
  clear s_g_3
  refine (toGutter_any c_g g_g _ _ HG_g.out (A_g.out.below H3.out (Nat.le_refl _)) (by omega)).mono ?_
  rintro e w4 ⟨u_x_g, rfl, l_x_g, b4⟩
  have H4 := Lib.hid (bnext H3.out b4 H3.out.size)
  have W_4 := Lib.hid (W_3.out.below b4 (Nat.le_refl _))
  obtain ⟨g_x_g, hg_x_g, k_x_g⟩ := l_x_g.ls
  have ne_W_x_g := W_3.out.ne hg_x_g
  have g0_x_g : W0.heap.size ≤ g_x_g := Nat.le_trans H3.out.size hg_x_g
  have x_g_4 := Lib.hid k_x_g
  clear l_x_g k_x_g hg_x_g
  clear b4 H3 W_3
  clear q3_g n3_g l3_g
  have q4_g := brow H4.out q0_g
  have n4_g := Nat.ne_of_lt (rowAt_lt (brow H4.out q0_g))
  have l4_g := rowAt_lt (brow H4.out q0_g)
  have is_x_g := Lib.hid (HG_g.out.setP' u_x_g g_g.m)
  obtain ⟨X_x_g, hX_x_g⟩ : ∃ X, setP c_g (.slice u_x_g g_g.m g_g.m) = X := ⟨_, rfl⟩
  rw [hX_x_g] at is_x_g ⊢
  clear hX_x_g
  have zs_x_g := is_x_g.out.size
  have zo_x_g := is_x_g.out.ones
  have zk_x_g := is_x_g.out.pipes
  go_wp2_with fail
  have ne_W_Rx_g : nn = 0 ∨ g_W ≠ w4.heap.size := W_4.out.lt.imp id Nat.ne_of_lt
  have ne_x_g_Rx_g : g_g.m = 0 ∨ g_x_g ≠ w4.heap.size := x_g_4.out.lt.imp id Nat.ne_of_lt
  refine gen_callsW fun w5 hV => ?_
  have b5 : Below w4.heap.size w4 w5 := by rw [hV]; exact (Below.refl _ _).alloc (Nat.le_refl _) _
  have Rx_g_5 : rowAt w5 w4.heap.size = some X_x_g := by rw [hV]; exact rowAt_alloc_at _ _ _ _ (by simp)
  clear hV
  have H5 := Lib.hid (bnext H4.out b5 H4.out.size)
  have W_5 := Lib.hid (W_4.out.below b5 (Nat.le_refl _))
  have x_g_5 := Lib.hid (x_g_4.out.below b5 (Nat.le_refl _))
  clear b5 H4 W_4 x_g_4
  clear q4_g n4_g l4_g
  have q5_g := brow H5.out q0_g
  have n5_g := Nat.ne_of_lt (rowAt_lt (brow H5.out q0_g))
  have l5_g := rowAt_lt (brow H5.out q0_g)
  refine (CI _ _ _ _ is_x_g.out x_g_5.out.list).mono ?_
  rintro e w6 ⟨v_G, rfl, l_G, b6⟩
  have H6 := Lib.hid (bnext H5.out b6 H5.out.size)
  have W_6 := Lib.hid (W_5.out.below b6 (Nat.le_refl _))
  have x_g_6 := Lib.hid (x_g_5.out.below b6 (Nat.le_refl _))
  have Rx_g_6 := brow b6 Rx_g_5
  obtain ⟨a_G, k_G, rfl⟩ := l_G.shape
  obtain ⟨g_G, hg_G, k_G⟩ := l_G.ls
  have ne_W_G := W_5.out.ne hg_G
  have ne_x_g_G := x_g_5.out.ne hg_G
  have ne_Rx_g_G : w4.heap.size ≠ g_G := by have := rowAt_lt Rx_g_5; omega
  have g0_G : W0.heap.size ≤ g_G := Nat.le_trans H5.out.size hg_G
  have G_6 := Lib.hid k_G
  clear l_G k_G hg_G
  clear b6 H5 W_5 x_g_5 Rx_g_5
  clear q5_g n5_g l5_g
  have q6_g := brow H6.out q0_g
  have n6_g := Nat.ne_of_lt (rowAt_lt (brow H6.out q0_g))
  have l6_g := rowAt_lt (brow H6.out q0_g)
  have n6_Rx_g := Nat.ne_of_lt (rowAt_lt Rx_g_6)
  have l6_Rx_g := rowAt_lt Rx_g_6
  go_wp2_with fail
  refine (eqI nn ff _ _ _ _ _ G_6.out.list W_6.out.list hnb).mono ?_
  rintro e w7 ⟨rfl, b7⟩
  have H7 := Lib.hid (bnext H6.out b7 H6.out.size)
  have W_7 := Lib.hid (W_6.out.below b7 (Nat.le_refl _))
  have x_g_7 := Lib.hid (x_g_6.out.below b7 (Nat.le_refl _))
  have G_7 := Lib.hid (G_6.out.below b7 (Nat.le_refl _))
  have Rx_g_7 := brow b7 Rx_g_6
  clear b7 H6 W_6 x_g_6 G_6 Rx_g_6
  clear q6_g n6_g l6_g n6_Rx_g l6_Rx_g
  have q7_g := brow H7.out q0_g
  have n7_g := Nat.ne_of_lt (rowAt_lt (brow H7.out q0_g))
  have l7_g := rowAt_lt (brow H7.out q0_g)
  have n7_Rx_g := Nat.ne_of_lt (rowAt_lt Rx_g_7)
  have l7_Rx_g := rowAt_lt Rx_g_7
  go_wp2_with fail
  refine gen_world fun wD hD => ?_
  have bD := below_of_eqG hD
  clear hD
  have Q_x := brow bD Rx_g_7
  have XD := Lib.hid (x_g_7.out.below bD (Nat.le_refl _))
  have HD := bnext H7.out bD H7.out.size
  have Q_g := brow HD q0_g
  refine wp_region_held_drew (S := fun w' => Below wD.heap.size wD w') (by kernel_rfl) ((Below.refl _ _).drew) (fun hH => ?_)
  refine wpAnyH_take (i := 0) (v := .agg X_x_g) rfl (by kernel_rfl) (by kernel_rfl) (by kernel_rfl) (fun _ _ _ h => h) (Or.inl ⟨by rfl, ?_⟩) hH ?_
  · intro w1 hS; (try dsimp only at hS); have s0 := brow hS Q_x; go_simp
  (try simp only [List.getElem_toArray]); (try simp only [List.getElem_cons_succ]); (try simp only [List.getElem_cons_zero]); (try simp only [Act.put]); (try simp only [List.setIfInBounds_toArray]); (try simp only [List.set_cons_succ]); (try simp only [List.set_cons_zero])
  refine wpAnyH_take (i := 1) (v := .agg c_g) rfl (by kernel_rfl) (by kernel_rfl) (by kernel_rfl) (fun _ _ _ h => h) (Or.inl ⟨by rfl, ?_⟩) hH ?_
  · intro w1 hS; (try dsimp only at hS); have s0 := brow hS Q_g; go_simp
  (try simp only [List.getElem_toArray]); (try simp only [List.getElem_cons_succ]); (try simp only [List.getElem_cons_zero]); (try simp only [Act.put]); (try simp only [List.setIfInBounds_toArray]); (try simp only [List.set_cons_succ]); (try simp only [List.set_cons_zero])
  refine wpAnyH_ready (rs := [2]) (by kernel_rfl) (by simp) (AllReadyH.cons rfl (fun K hK => ?_) AllReadyH.nil)
  go_simp
  refine (toGutter_any c_g g_g _ _ HG_g.out (A_g.out.below (bnext HD hH HD.size) (Nat.le_refl _)) (by omega)).mono ?_
  rintro x wx ⟨u_t, rfl, l_t, bx⟩
  go_simp
  refine hK.out _ _ (bnext hH bx hH.size) (fun hG => ?_)
  clear hK K hH bx
  replace hH := hG
  clear hG
  (try simp only [List.getElem_toArray]); (try simp only [List.getElem_cons_succ]); (try simp only [List.getElem_cons_zero]); (try simp only [Act.put]); (try simp only [List.setIfInBounds_toArray]); (try simp only [List.set_cons_succ]); (try simp only [List.set_cons_zero])
  refine wpAnyH_ready (rs := [3]) (by kernel_rfl) (by simp) (AllReadyH.cons rfl (fun K hK => ?_) AllReadyH.nil)
  go_simp
  refine (eqGutter_same _ _ g_g _ _ _ _ _ is_x_g.out (HG_g.out.setP' u_t g_g.m) (XD.out.below hH (Nat.le_refl _)).list l_t (by omega)).mono ?_
  rintro x wx ⟨rfl, bx⟩
  go_simp
  refine hK.out _ _ (bnext hH bx hH.size) (fun hG => ?_)
  clear hK K hH bx
  replace hH := hG
  clear hG
  (try simp only [List.getElem_toArray]); (try simp only [List.getElem_cons_succ]); (try simp only [List.getElem_cons_zero]); (try simp only [Act.put]); (try simp only [List.setIfInBounds_toArray]); (try simp only [List.set_cons_succ]); (try simp only [List.set_cons_zero])
  refine wpAnyH_take (i := 4) (v := .bool false) rfl (by kernel_rfl) (by kernel_rfl) (by kernel_rfl) (fun _ _ _ h => h) (Or.inl ⟨by rfl, ?_⟩) hH ?_
  · intro w1 hS; (try dsimp only at hS); go_simp
  (try simp only [List.getElem_toArray]); (try simp only [List.getElem_cons_succ]); (try simp only [List.getElem_cons_zero]); (try simp only [Act.put]); (try simp only [List.setIfInBounds_toArray]); (try simp only [List.set_cons_succ]); (try simp only [List.set_cons_zero])
  refine wpAnyH_done (by kernel_rfl) ?_ _
  have b8 := bD.trans (hH.mono bD.size)
  clear hH bD HD XD l_t Q_x Q_g
  have H8 := Lib.hid (bnext H7.out b8 H7.out.size)
  have W_8 := Lib.hid (W_7.out.below b8 (Nat.le_refl _))
  have x_g_8 := Lib.hid (x_g_7.out.below b8 (Nat.le_refl _))
  have G_8 := Lib.hid (G_7.out.below b8 (Nat.le_refl _))
  have Rx_g_8 := brow b8 Rx_g_7
  clear b8 H7 W_7 x_g_7 G_7 Rx_g_7
  clear q7_g n7_g l7_g n7_Rx_g l7_Rx_g
  have q8_g := brow H8.out q0_g
  have n8_g := Nat.ne_of_lt (rowAt_lt (brow H8.out q0_g))
  have l8_g := rowAt_lt (brow H8.out q0_g)
  have n8_Rx_g := Nat.ne_of_lt (rowAt_lt Rx_g_8)
  have l8_Rx_g := rowAt_lt Rx_g_8
  go_wp2_with fail
  refine (markGutter_any g_g.m _ _ _ g_x_g (1) 1 K0 rfl HK0.out _ zs_x_g zk_x_g x_g_8.out (by omega) (by omega)).mono ?_
  rintro e w9 ⟨rfl, kk9, ⟨wM9, bM9, o9, z9⟩⟩
  have W_9m := Lib.hid (W_8.out.below bM9 (Nat.le_refl _))
  have x_g_9m := Lib.hid (x_g_8.out.below bM9 (Nat.le_refl _))
  have G_9m := Lib.hid (G_8.out.below bM9 (Nat.le_refl _))
  have Rx_g_9m := brow bM9 Rx_g_8
  have H9m := Lib.hid (bnext H8.out bM9 H8.out.size)
  clear bM9 H8 W_8 x_g_8 G_8 Rx_g_8
  have H9 := Lib.hid (H9m.out.trans (o9.below.mono g0_x_g))
  have W_9 := Lib.hid (W_9m.out.only o9 ne_W_x_g)
  have x_g_9 := Lib.hid kk9
  have G_9 := Lib.hid (G_9m.out.only_later o9 z9 ne_x_g_G)
  have Rx_g_9 : rowAt w9 (w4.heap.size) = some X_x_g := by rcases ne_x_g_Rx_g with h | h; · {rw [z9 h]; exact Rx_g_9m}; · exact (o9.row (Ne.symm h)).trans Rx_g_9m
  clear kk9 o9 z9 H9m W_9m x_g_9m G_9m Rx_g_9m
  clear q8_g n8_g l8_g n8_Rx_g l8_Rx_g
  have q9_g := brow H9.out q0_g
  have n9_g := Nat.ne_of_lt (rowAt_lt (brow H9.out q0_g))
  have l9_g := rowAt_lt (brow H9.out q0_g)
  have n9_Rx_g := Nat.ne_of_lt (rowAt_lt Rx_g_9)
  have l9_Rx_g := rowAt_lt Rx_g_9
  go_wp2_with fail
  refine (eqI nn ff _ _ _ _ _ G_9.out.list W_9.out.list hnb).mono ?_
  rintro e w10 ⟨rfl, b10⟩
  have H10 := Lib.hid (bnext H9.out b10 H9.out.size)
  have W_10 := Lib.hid (W_9.out.below b10 (Nat.le_refl _))
  have x_g_10 := Lib.hid (x_g_9.out.below b10 (Nat.le_refl _))
  have G_10 := Lib.hid (G_9.out.below b10 (Nat.le_refl _))
  have Rx_g_10 := brow b10 Rx_g_9
  clear b10 H9 W_9 x_g_9 G_9 Rx_g_9
  clear q9_g n9_g l9_g n9_Rx_g l9_Rx_g
  have q10_g := brow H10.out q0_g
  have n10_g := Nat.ne_of_lt (rowAt_lt (brow H10.out q0_g))
  have l10_g := rowAt_lt (brow H10.out q0_g)
  have n10_Rx_g := Nat.ne_of_lt (rowAt_lt Rx_g_10)
  have l10_Rx_g := rowAt_lt Rx_g_10
  go_wp2_with fail
  clear x_g_10
  clear Rx_g_10
  refine (markIK nn _ _ g_G (1) 1 M rfl HM.out _ G_10.out (by omega) (by omega)).mono ?_
  rintro e w11 ⟨rfl, kk11, o11, z11⟩
  have H11 := Lib.hid (H10.out.trans (o11.below.mono g0_G))
  have W_11 := Lib.hid (W_10.out.only o11 ne_W_G)
  have G_11 := Lib.hid kk11
  clear kk11 o11 z11 H10 W_10 G_10
  clear q10_g n10_g l10_g n10_Rx_g l10_Rx_g
  have q11_g := brow H11.out q0_g
  have n11_g := Nat.ne_of_lt (rowAt_lt (brow H11.out q0_g))
  have l11_g := rowAt_lt (brow H11.out q0_g)
  go_wp2_with fail
  refine (heldIK nn _ g_G 1 1 M rfl HM.out _ G_11.out (by omega) (by omega)).mono ?_
  rintro e w11_ ⟨rfl, rfl⟩
  go_wp2_with fail
  refine (toGutter_any c_g g_g _ _ HG_g.out (A_g.out.below H11.out (Nat.le_refl _)) (by omega)).mono ?_
  rintro e w12 ⟨u_y_g, rfl, l_y_g, b12⟩
  have H12 := Lib.hid (bnext H11.out b12 H11.out.size)
  have W_12 := Lib.hid (W_11.out.below b12 (Nat.le_refl _))
  have G_12 := Lib.hid (G_11.out.below b12 (Nat.le_refl _))
  obtain ⟨g_y_g, hg_y_g, k_y_g⟩ := l_y_g.ls
  have ne_W_y_g := W_11.out.ne hg_y_g
  have ne_G_y_g := G_11.out.ne hg_y_g
  have g0_y_g : W0.heap.size ≤ g_y_g := Nat.le_trans H11.out.size hg_y_g
  have y_g_12 := Lib.hid k_y_g
  clear l_y_g k_y_g hg_y_g
  clear b12 H11 W_11 G_11
  clear q11_g n11_g l11_g
  have q12_g := brow H12.out q0_g
  have n12_g := Nat.ne_of_lt (rowAt_lt (brow H12.out q0_g))
  have l12_g := rowAt_lt (brow H12.out q0_g)
  have is_y_g := Lib.hid (HG_g.out.setP' u_y_g g_g.m)
  obtain ⟨X_y_g, hX_y_g⟩ : ∃ X, setP c_g (.slice u_y_g g_g.m g_g.m) = X := ⟨_, rfl⟩
  rw [hX_y_g] at is_y_g ⊢
  clear hX_y_g
  have zs_y_g := is_y_g.out.size
  have zo_y_g := is_y_g.out.ones
  have zk_y_g := is_y_g.out.pipes
  go_wp2_with fail
  refine (CI _ _ _ _ is_y_g.out y_g_12.out.list).mono ?_
  rintro e w13 ⟨v_H, rfl, l_H, b13⟩
  have H13 := Lib.hid (bnext H12.out b13 H12.out.size)
  have W_13 := Lib.hid (W_12.out.below b13 (Nat.le_refl _))
  have G_13 := Lib.hid (G_12.out.below b13 (Nat.le_refl _))
  have y_g_13 := Lib.hid (y_g_12.out.below b13 (Nat.le_refl _))
  obtain ⟨a_H, k_H, rfl⟩ := l_H.shape
  obtain ⟨g_H, hg_H, k_H⟩ := l_H.ls
  have ne_W_H := W_12.out.ne hg_H
  have ne_G_H := G_12.out.ne hg_H
  have ne_y_g_H := y_g_12.out.ne hg_H
  have g0_H : W0.heap.size ≤ g_H := Nat.le_trans H12.out.size hg_H
  have H_13 := Lib.hid k_H
  clear l_H k_H hg_H
  clear b13 H12 W_12 G_12 y_g_12
  clear q12_g n12_g l12_g
  have q13_g := brow H13.out q0_g
  have n13_g := Nat.ne_of_lt (rowAt_lt (brow H13.out q0_g))
  have l13_g := rowAt_lt (brow H13.out q0_g)
  go_wp2_with fail
  clear y_g_13
  refine (eqI nn ff _ _ _ _ _ H_13.out.list W_13.out.list hnb).mono ?_
  rintro e w14 ⟨rfl, b14⟩
  have H14 := Lib.hid (bnext H13.out b14 H13.out.size)
  have W_14 := Lib.hid (W_13.out.below b14 (Nat.le_refl _))
  have G_14 := Lib.hid (G_13.out.below b14 (Nat.le_refl _))
  have H_14 := Lib.hid (H_13.out.below b14 (Nat.le_refl _))
  clear b14 H13 W_13 G_13 H_13
  clear q13_g n13_g l13_g
  have q14_g := brow H14.out q0_g
  have n14_g := Nat.ne_of_lt (rowAt_lt (brow H14.out q0_g))
  have l14_g := rowAt_lt (brow H14.out q0_g)
  go_wp2_with fail
  refine (heldIK nn _ g_G 1 1 M rfl HM.out _ G_14.out (by omega) (by omega)).mono ?_
  rintro e w14_ ⟨rfl, rfl⟩
  go_wp2_with fail
  go_ret
  exact ⟨rfl, PB0.out.trans (H14.out.mono PB0.out.size)⟩

namespace LFnExactFewestPipes
open Go.RowKit Go.ChangeShapes Go.WideShapes Go.ChangeAt
theorem own : ownKnob Try.prog.godebug = none := by kernel_rfl
theorem laidOut : laidOutB Try.prog = true := by kernel_rfl
set_option maxRecDepth 100000 in
theorem lifted (os : Os) (started : os.Started) (H : Type) (enc : TypeId × Value → H) :
    ReturnsInHanded {} Try.checked os 15 .any (Rows.fnExactFewestPipesSpec.pre6 enc Try.prog Try.f15 Rows.fnExactFewestPipesRow.domain false) (Rows.fnExactFewestPipesSpec.post enc Try.prog Try.f15 false true false false) := by
  refine returnsInHanded_of_change (C := Try.checked) own started (by kernel_rfl) Try.func15
    (ChangeSpec.witness6 (enc := enc) (C := Try.checked) false ⟨#[], #[.agg (#[.int .i8 0, .int .i16 0] ++ Array.replicate 17 (.int .i8 0) ++ #[.int .u32 0, .slice none 0 0])], []⟩ 8 (by kernel_rfl) (by kernel_rfl) (by kernel_rfl) (by kernel_rfl)) ?_
  intro W base args ds gs before hval0 hW hcnd _
  have hval : ∀ (j : Nat) t v, Try.f15.params[j]? = some t → args[j]? = some v → Value.okWide Try.prog W .any base t v := hval0
  have hW' := hW
  obtain ⟨p, q, hA0, hV, rfl, hfz, hnd⟩ := hW
  have hA : DataW.TrodAll enc Try.prog W 0 (fun _ => true) true Try.f15.params.toList args.toList ds p := hA0
  rw [Try.params15] at hA hval
  obtain ⟨v0, vs0, d0, ds0, p0, q0, hargs, rfl, rfl, h0, r0⟩ := trodAll_cons hA
  obtain ⟨rfl, rfl, rfl⟩ := trodAll_nil r0
  obtain rfl : args = #[v0] := by cases args; simp_all
  obtain ⟨rfl, rfl⟩ := trodVars_none hV
  have k0 := h0
  have lt0 : ∀ x ∈ p0, x.block < W.heap.size := by obtain ⟨m, hm⟩ := k0; exact DataW.trod_lt m _ _ _ hm
  obtain ⟨c0, f0, u0, rfl, wf0, hL0, hm0⟩ := open_gut (hval 0 28 v0 rfl rfl) h0
  clear hA0 hval0
  refine (law_walk_FnExactFewestPipes wf0 hL0 hm0).mono fun e W' ⟨he, bel⟩ => ?_
  subst he
  exact ⟨_, rfl, _, _, _, [], _, [], hW', trodAll_mk1 (shut_bool Try.underlying4 _), (trodAll_cons_mk (Below.trod laidOut (by kernel_rfl) (of_decide_eq_true (by kernel_rfl)) k0 bel lt0) trodAll_mk0), rfl, bel.frame _, fun h => by cases h⟩

theorem over : Rows.fnExactFewestPipesRow.holds Try.pinned (OpenSpec.ofChange Rows.fnExactFewestPipesSpec) :=
  OpenClaim.holds_of_wide_leaving 15 Try.f15 rfl rfl rfl rfl rfl rfl rfl ⟨rfl, rfl, rfl, rfl, rfl⟩ rfl rfl rfl rfl rfl (by kernel_rfl) Try.func15 (by kernel_rfl)
    (of_decide_eq_true (by kernel_rfl)) (by unfold Func.isWrapper; first | (rw [if_pos (by decide +kernel)]; kernel_rfl) | (rw [if_neg (by decide +kernel)]; exact ⟨rfl, rfl⟩))
    (fun os started H enc _ => leaving_of_handed (lifted os started H enc))

theorem proved : Rows.FnExactFewestPipesSaid := over
end LFnExactFewestPipes


end Go.Proofs.Ytlkmdoccnbnacaa
