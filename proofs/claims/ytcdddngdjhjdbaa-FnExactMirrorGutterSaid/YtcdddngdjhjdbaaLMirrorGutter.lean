/- laws.FnExactMirrorGutter returns true for every gutter, and leaves them as they were. No condition. -/
import Derived.Test.YtcdddngdjhjdbaaGutG
import Derived.Test.YtcdddngdjhjdbaaWat
import Derived.Test.YtcdddngdjhjdbaaNums
import Derived.Test.YtcdddngdjhjdbaaMgT
import Derived.Test.YtcdddngdjhjdbaaMgI
import Derived.Deep.RegionHeld3
namespace Go.Proofs.Ytcdddngdjhjdbaa
open Go.RowKit

set_option maxRecDepth 100000 in
set_option maxHeartbeats 4000000 in
theorem law_walk_FnExactMirrorGutter {w : World} {c_g : Array Value} {g_g : Gt} {v_g : Value} (hG_g : IsGut c_g g_g v_g) (hv_g : ArgPp w v_g g_g.m g_g.p) (hm_g : g_g.m ≤ maxLen) :
    Calls Try.prog 5 #[.agg c_g] w fun e w' => e = .returned (.bool true) ∧ Below w.heap.size w w' := by
  have PB0 := Lib.hid (show Below w.heap.size w (w.alloc (.cells c_g 50)) from (Below.refl w.heap.size w).alloc (Nat.le_refl _) _)
  have q0_g : rowAt (w.alloc (.cells c_g 50)) (w.heap.size) = some c_g := rowAt_alloc_at w c_g 50 (w.heap.size) (by simp)
  have A_g := Lib.hid (hv_g.below PB0.out (Nat.le_refl _))
  have HG_g := Lib.hid hG_g
  have zs_g := hG_g.size
  obtain ⟨av_g, cv_g, rfl⟩ := hv_g.shape
  clear hv_g hG_g 
  obtain ⟨X0, hX0⟩ : ∃ X : Int, X = if (g_g.m : Int) ≤ 1048576 then (1048576 : Int) - g_g.m else (-1 : Int) := ⟨_, rfl⟩
  have HX0 := Lib.hid hX0
  by_cases hl_g : (g_g.m : Int) ≤ (1048576 : Int)
  rotate_left
  · have hx0 : decide (X0 < 0) = true := by rw [HX0.out, if_neg hl_g]; rfl
    clear hX0
    go_enter Try.func5, Try.ntmps5
    go_wp2_with fail
    refine gen_callsW fun W0 hW => ?_
    rw [← hW] at q0_g PB0 A_g
    clear hW
    have H0 := Lib.hid (Below.refl W0.heap.size W0)
    refine (szGutter_any _ c_g g_g _ _ HG_g.out (A_g.out.below H0.out (Nat.le_refl _)) ⟨by omega, by omega⟩ hm_g X0 HX0.out).mono ?_
    rintro e w1 ⟨rfl, b1⟩
    have H1 := Lib.hid (bnext H0.out b1 H0.out.size)
    clear b1 H0
    have q1_g := brow H1.out q0_g
    have n1_g := Nat.ne_of_lt (rowAt_lt (brow H1.out q0_g))
    have l1_g := rowAt_lt (brow H1.out q0_g)
    go_wp2_with fail
    go_ret
    exact ⟨rfl, PB0.out.trans (H1.out.mono PB0.out.size)⟩
  rw [if_pos hl_g] at hX0
  have hXb0 : 0 ≤ X0 ∧ X0 ≤ 1048576 := by omega
  have hx0 : decide (X0 < 0) = false := by simp; omega
  have hm1_g : g_g.m ≤ 1048576 := by omega
  clear hX0
  have CS := fun (W : World) (B_g : Nat) (U_g : Option Addr) (Y_g : Array Value) (I_g : IsGut Y_g g_g (.slice U_g g_g.m g_g.m)) (H_g : IsList W B_g (.slice U_g g_g.m g_g.m) 2 g_g.m (pipeV g_g.p)) => specMirrorGutter_any B_g Y_g g_g (.slice U_g g_g.m g_g.m) W I_g H_g (by omega)
  have CI := fun (W : World) (B_g : Nat) (U_g : Option Addr) (Y_g : Array Value) (I_g : IsGut Y_g g_g (.slice U_g g_g.m g_g.m)) (H_g : IsList W B_g (.slice U_g g_g.m g_g.m) 2 g_g.m (pipeV g_g.p)) => implMirrorGutter_any B_g Y_g g_g (.slice U_g g_g.m g_g.m) W I_g H_g (by omega)
  unfold GivesGutT at CS CI
  have hnb : (g_g.mrG).m ≤ 2000000 := g_g.mrG_le (by omega)
  generalize (g_g.mrG) = gg at *
  obtain ⟨M, hM⟩ : ∃ M : Int, M = ((1 + 2 * gg.m : Nat) : Int) := ⟨_, rfl⟩
  have hM0 : 0 ≤ M := by omega
  have hmm : (M != M) = false := by simp
  have hml : decide (M < 0) = false := by simp; omega
  have HM := Lib.hid hM
  clear hM
  obtain ⟨K0, hK0⟩ : ∃ K : Int, K = ((1 + 2 * g_g.m : Nat) : Int) := ⟨_, rfl⟩
  have HK0 := Lib.hid hK0
  have hK0_0 : 0 ≤ K0 := by omega
  have hKl_0 : decide (K0 < 0) = false := by simp; omega
  clear hK0
  have hne0 : ((g_g.mrC) != (g_g.mrC)) = false := by simp
  generalize (g_g.mrC) = x0 at *
  go_enter Try.func5, Try.ntmps5
  go_wp2_with fail
  refine gen_callsW fun W0 hW => ?_
  rw [← hW] at q0_g PB0 A_g
  clear hW
  have H0 := Lib.hid (Below.refl W0.heap.size W0)
  refine (szGutter_any _ c_g g_g _ _ HG_g.out (A_g.out.below H0.out (Nat.le_refl _)) ⟨by omega, by omega⟩ hm_g X0 HX0.out).mono ?_
  rintro e w1 ⟨rfl, b1⟩
  have H1 := Lib.hid (bnext H0.out b1 H0.out.size)
  clear b1 H0
  have q1_g := brow H1.out q0_g
  have n1_g := Nat.ne_of_lt (rowAt_lt (brow H1.out q0_g))
  have l1_g := rowAt_lt (brow H1.out q0_g)
  go_wp2_with fail
  refine (toGutter_any c_g g_g _ _ HG_g.out (A_g.out.below H1.out (Nat.le_refl _)) (by omega)).mono ?_
  rintro e w2 ⟨u_s_g, rfl, l_s_g, b2⟩
  have H2 := Lib.hid (bnext H1.out b2 H1.out.size)
  obtain ⟨g_s_g, hg_s_g, k_s_g⟩ := l_s_g.ls
  have g0_s_g : W0.heap.size ≤ g_s_g := Nat.le_trans H1.out.size hg_s_g
  have s_g_2 := Lib.hid k_s_g
  clear l_s_g k_s_g hg_s_g
  clear b2 H1
  clear q1_g n1_g l1_g
  have q2_g := brow H2.out q0_g
  have n2_g := Nat.ne_of_lt (rowAt_lt (brow H2.out q0_g))
  have l2_g := rowAt_lt (brow H2.out q0_g)
  have is_s_g := Lib.hid (HG_g.out.setP' u_s_g g_g.m)
  obtain ⟨X_s_g, hX_s_g⟩ : ∃ X, setP c_g (.slice u_s_g g_g.m g_g.m) = X := ⟨_, rfl⟩
  rw [hX_s_g] at is_s_g ⊢
  clear hX_s_g
  have zs_s_g := is_s_g.out.size
  have zo_s_g := is_s_g.out.ones
  have zk_s_g := is_s_g.out.pipes
  go_wp2_with fail
  refine (CS _ _ _ _ is_s_g.out s_g_2.out.list).mono ?_
  rintro e w3 ⟨X_W, v_W, rfl, is_W, l_W, b3⟩
  have H3 := Lib.hid (bnext H2.out b3 H2.out.size)
  have s_g_3 := Lib.hid (s_g_2.out.below b3 (Nat.le_refl _))
  obtain ⟨a_W, k_W, rfl⟩ := l_W.shape
  obtain ⟨g_W, hg_W, k_W⟩ := l_W.ls
  have ne_s_g_W := s_g_2.out.ne hg_W
  have g0_W : W0.heap.size ≤ g_W := Nat.le_trans H2.out.size hg_W
  have W_3 := Lib.hid k_W
  clear l_W k_W hg_W
  clear b3 H2 s_g_2
  clear q2_g n2_g l2_g
  have q3_g := brow H3.out q0_g
  have n3_g := Nat.ne_of_lt (rowAt_lt (brow H3.out q0_g))
  have l3_g := rowAt_lt (brow H3.out q0_g)
  have zs_W := is_W.size
  have zo_W := is_W.ones
  have zk_W := is_W.pipes
  replace is_W := Lib.hid is_W
  go_wp2_with fail
  have ne_s_g_RW : g_g.m = 0 ∨ g_s_g ≠ w3.heap.size := s_g_3.out.lt.imp id Nat.ne_of_lt
  have ne_W_RW : gg.m = 0 ∨ g_W ≠ w3.heap.size := W_3.out.lt.imp id Nat.ne_of_lt
  refine gen_callsW fun w4 hV => ?_
  have b4 : Below w3.heap.size w3 w4 := by rw [hV]; exact (Below.refl _ _).alloc (Nat.le_refl _) _
  have RW_4 : rowAt w4 w3.heap.size = some X_W := by rw [hV]; exact rowAt_alloc_at _ _ _ _ (by simp)
  clear hV
  have H4 := Lib.hid (bnext H3.out b4 H3.out.size)
  have s_g_4 := Lib.hid (s_g_3.out.below b4 (Nat.le_refl _))
  have W_4 := Lib.hid (W_3.out.below b4 (Nat.le_refl _))
  clear b4 H3 s_g_3 W_3
  clear q3_g n3_g l3_g
  have q4_g := brow H4.out q0_g
  have n4_g := Nat.ne_of_lt (rowAt_lt (brow H4.out q0_g))
  have l4_g := rowAt_lt (brow H4.out q0_g)
  clear s_g_4
  refine (toGutter_any c_g g_g _ _ HG_g.out (A_g.out.below H4.out (Nat.le_refl _)) (by omega)).mono ?_
  rintro e w5 ⟨u_x_g, rfl, l_x_g, b5⟩
  have H5 := Lib.hid (bnext H4.out b5 H4.out.size)
  have W_5 := Lib.hid (W_4.out.below b5 (Nat.le_refl _))
  have RW_5 := brow b5 RW_4
  obtain ⟨g_x_g, hg_x_g, k_x_g⟩ := l_x_g.ls
  have ne_W_x_g := W_4.out.ne hg_x_g
  have ne_RW_x_g : w3.heap.size ≠ g_x_g := by have := rowAt_lt RW_4; omega
  have g0_x_g : W0.heap.size ≤ g_x_g := Nat.le_trans H4.out.size hg_x_g
  have x_g_5 := Lib.hid k_x_g
  clear l_x_g k_x_g hg_x_g
  clear b5 H4 W_4 RW_4
  clear q4_g n4_g l4_g
  have q5_g := brow H5.out q0_g
  have n5_g := Nat.ne_of_lt (rowAt_lt (brow H5.out q0_g))
  have l5_g := rowAt_lt (brow H5.out q0_g)
  have n5_RW := Nat.ne_of_lt (rowAt_lt RW_5)
  have l5_RW := rowAt_lt RW_5
  have is_x_g := Lib.hid (HG_g.out.setP' u_x_g g_g.m)
  obtain ⟨X_x_g, hX_x_g⟩ : ∃ X, setP c_g (.slice u_x_g g_g.m g_g.m) = X := ⟨_, rfl⟩
  rw [hX_x_g] at is_x_g ⊢
  clear hX_x_g
  have zs_x_g := is_x_g.out.size
  have zo_x_g := is_x_g.out.ones
  have zk_x_g := is_x_g.out.pipes
  go_wp2_with fail
  have nn_RW_x_g : w3.heap.size ≠ w5.heap.size := Nat.ne_of_lt (rowAt_lt RW_5)
  have ne_W_Rx_g : gg.m = 0 ∨ g_W ≠ w5.heap.size := W_5.out.lt.imp id Nat.ne_of_lt
  have ne_x_g_Rx_g : g_g.m = 0 ∨ g_x_g ≠ w5.heap.size := x_g_5.out.lt.imp id Nat.ne_of_lt
  refine gen_callsW fun w6 hV => ?_
  have b6 : Below w5.heap.size w5 w6 := by rw [hV]; exact (Below.refl _ _).alloc (Nat.le_refl _) _
  have Rx_g_6 : rowAt w6 w5.heap.size = some X_x_g := by rw [hV]; exact rowAt_alloc_at _ _ _ _ (by simp)
  clear hV
  have H6 := Lib.hid (bnext H5.out b6 H5.out.size)
  have W_6 := Lib.hid (W_5.out.below b6 (Nat.le_refl _))
  have x_g_6 := Lib.hid (x_g_5.out.below b6 (Nat.le_refl _))
  have RW_6 := brow b6 RW_5
  clear b6 H5 W_5 x_g_5 RW_5
  clear q5_g n5_g l5_g n5_RW l5_RW
  have q6_g := brow H6.out q0_g
  have n6_g := Nat.ne_of_lt (rowAt_lt (brow H6.out q0_g))
  have l6_g := rowAt_lt (brow H6.out q0_g)
  have n6_RW := Nat.ne_of_lt (rowAt_lt RW_6)
  have l6_RW := rowAt_lt RW_6
  refine (CI _ _ _ _ is_x_g.out x_g_6.out.list).mono ?_
  rintro e w7 ⟨X_G, v_G, rfl, is_G, l_G, b7⟩
  have H7 := Lib.hid (bnext H6.out b7 H6.out.size)
  have W_7 := Lib.hid (W_6.out.below b7 (Nat.le_refl _))
  have x_g_7 := Lib.hid (x_g_6.out.below b7 (Nat.le_refl _))
  have RW_7 := brow b7 RW_6
  have Rx_g_7 := brow b7 Rx_g_6
  obtain ⟨a_G, k_G, rfl⟩ := l_G.shape
  obtain ⟨g_G, hg_G, k_G⟩ := l_G.ls
  have ne_W_G := W_6.out.ne hg_G
  have ne_x_g_G := x_g_6.out.ne hg_G
  have ne_RW_G : w3.heap.size ≠ g_G := by have := rowAt_lt RW_6; omega
  have ne_Rx_g_G : w5.heap.size ≠ g_G := by have := rowAt_lt Rx_g_6; omega
  have g0_G : W0.heap.size ≤ g_G := Nat.le_trans H6.out.size hg_G
  have G_7 := Lib.hid k_G
  clear l_G k_G hg_G
  clear b7 H6 W_6 x_g_6 RW_6 Rx_g_6
  clear q6_g n6_g l6_g n6_RW l6_RW
  have q7_g := brow H7.out q0_g
  have n7_g := Nat.ne_of_lt (rowAt_lt (brow H7.out q0_g))
  have l7_g := rowAt_lt (brow H7.out q0_g)
  have n7_RW := Nat.ne_of_lt (rowAt_lt RW_7)
  have l7_RW := rowAt_lt RW_7
  have n7_Rx_g := Nat.ne_of_lt (rowAt_lt Rx_g_7)
  have l7_Rx_g := rowAt_lt Rx_g_7
  have zs_G := is_G.size
  have zo_G := is_G.ones
  have zk_G := is_G.pipes
  replace is_G := Lib.hid is_G
  go_wp2_with fail
  have nn_RW_G : w3.heap.size ≠ w7.heap.size := Nat.ne_of_lt (rowAt_lt RW_7)
  have nn_Rx_g_G : w5.heap.size ≠ w7.heap.size := Nat.ne_of_lt (rowAt_lt Rx_g_7)
  have ne_W_RG : gg.m = 0 ∨ g_W ≠ w7.heap.size := W_7.out.lt.imp id Nat.ne_of_lt
  have ne_x_g_RG : g_g.m = 0 ∨ g_x_g ≠ w7.heap.size := x_g_7.out.lt.imp id Nat.ne_of_lt
  have ne_G_RG : gg.m = 0 ∨ g_G ≠ w7.heap.size := G_7.out.lt.imp id Nat.ne_of_lt
  refine gen_callsW fun w8 hV => ?_
  have b8 : Below w7.heap.size w7 w8 := by rw [hV]; exact (Below.refl _ _).alloc (Nat.le_refl _) _
  have RG_8 : rowAt w8 w7.heap.size = some X_G := by rw [hV]; exact rowAt_alloc_at _ _ _ _ (by simp)
  clear hV
  have H8 := Lib.hid (bnext H7.out b8 H7.out.size)
  have W_8 := Lib.hid (W_7.out.below b8 (Nat.le_refl _))
  have x_g_8 := Lib.hid (x_g_7.out.below b8 (Nat.le_refl _))
  have G_8 := Lib.hid (G_7.out.below b8 (Nat.le_refl _))
  have RW_8 := brow b8 RW_7
  have Rx_g_8 := brow b8 Rx_g_7
  clear b8 H7 W_7 x_g_7 G_7 RW_7 Rx_g_7
  clear q7_g n7_g l7_g n7_RW l7_RW n7_Rx_g l7_Rx_g
  have q8_g := brow H8.out q0_g
  have n8_g := Nat.ne_of_lt (rowAt_lt (brow H8.out q0_g))
  have l8_g := rowAt_lt (brow H8.out q0_g)
  have n8_RW := Nat.ne_of_lt (rowAt_lt RW_8)
  have l8_RW := rowAt_lt RW_8
  have n8_Rx_g := Nat.ne_of_lt (rowAt_lt Rx_g_8)
  have l8_Rx_g := rowAt_lt Rx_g_8
  refine (eqGutter_same _ _ gg _ _ _ _ _ is_G.out is_W.out G_8.out.list W_8.out.list hnb).mono ?_
  rintro e w9 ⟨rfl, b9⟩
  have H9 := Lib.hid (bnext H8.out b9 H8.out.size)
  have W_9 := Lib.hid (W_8.out.below b9 (Nat.le_refl _))
  have x_g_9 := Lib.hid (x_g_8.out.below b9 (Nat.le_refl _))
  have G_9 := Lib.hid (G_8.out.below b9 (Nat.le_refl _))
  have RW_9 := brow b9 RW_8
  have Rx_g_9 := brow b9 Rx_g_8
  have RG_9 := brow b9 RG_8
  clear b9 H8 W_8 x_g_8 G_8 RW_8 Rx_g_8 RG_8
  clear q8_g n8_g l8_g n8_RW l8_RW n8_Rx_g l8_Rx_g
  have q9_g := brow H9.out q0_g
  have n9_g := Nat.ne_of_lt (rowAt_lt (brow H9.out q0_g))
  have l9_g := rowAt_lt (brow H9.out q0_g)
  have n9_RW := Nat.ne_of_lt (rowAt_lt RW_9)
  have l9_RW := rowAt_lt RW_9
  have n9_Rx_g := Nat.ne_of_lt (rowAt_lt Rx_g_9)
  have l9_Rx_g := rowAt_lt Rx_g_9
  have n9_RG := Nat.ne_of_lt (rowAt_lt RG_9)
  have l9_RG := rowAt_lt RG_9
  go_wp2_with fail
  refine gen_world fun wD hD => ?_
  have bD := below_of_eqG hD
  clear hD
  have Q_x := brow bD Rx_g_9
  have XD := Lib.hid (x_g_9.out.below bD (Nat.le_refl _))
  have HD := bnext H9.out bD H9.out.size
  have Q_g := brow HD q0_g
  refine wp_region_held_drew (S := fun w' => Below wD.heap.size wD w') (by kernel_rfl) ((Below.refl _ _).drew) (fun hH => ?_)
  refine wpAnyH_take (i := 0) (v := .agg X_x_g) rfl (by kernel_rfl) (by kernel_rfl) (by kernel_rfl) (fun _ _ _ h => h) (Or.inl ⟨by rfl, ?_⟩) hH ?_
  · intro w1 hS; (try dsimp only at hS); have s0 := brow hS Q_x; go_simp
  (try simp only [List.getElem_toArray]); (try simp only [List.getElem_cons_succ]); (try simp only [List.getElem_cons_zero]); (try simp only [Act.put]); (try simp only [List.setIfInBounds_toArray]); (try simp only [List.set_cons_succ]); (try simp only [List.set_cons_zero])
  refine wpAnyH_take (i := 1) (v := .agg c_g) rfl (by kernel_rfl) (by kernel_rfl) (by kernel_rfl) (fun _ _ _ h => h) (Or.inl ⟨by rfl, ?_⟩) hH ?_
  · intro w1 hS; (try dsimp only at hS); have s0 := brow hS Q_g; go_simp
  (try simp only [List.getElem_toArray]); (try simp only [List.getElem_cons_succ]); (try simp only [List.getElem_cons_zero]); (try simp only [Act.put]); (try simp only [List.setIfInBounds_toArray]); (try simp only [List.set_cons_succ]); (try simp only [List.set_cons_zero])
  refine wpAnyH_ready (rs := [2]) (by kernel_rfl) (by simp) (AllReadyH.cons rfl (fun K hK => ?_) AllReadyH.nil)
  go_simp
  refine (toGutter_any c_g g_g _ _ HG_g.out (A_g.out.below (bnext HD hH HD.size) (Nat.le_refl _)) (by omega)).mono ?_
  rintro x wx ⟨u_t, rfl, l_t, bx⟩
  go_simp
  refine hK.out _ _ (bnext hH bx hH.size) (fun hG => ?_)
  clear hK K hH bx
  replace hH := hG
  clear hG
  (try simp only [List.getElem_toArray]); (try simp only [List.getElem_cons_succ]); (try simp only [List.getElem_cons_zero]); (try simp only [Act.put]); (try simp only [List.setIfInBounds_toArray]); (try simp only [List.set_cons_succ]); (try simp only [List.set_cons_zero])
  refine wpAnyH_ready (rs := [3]) (by kernel_rfl) (by simp) (AllReadyH.cons rfl (fun K hK => ?_) AllReadyH.nil)
  go_simp
  refine (eqGutter_same _ _ g_g _ _ _ _ _ is_x_g.out (HG_g.out.setP' u_t g_g.m) (XD.out.below hH (Nat.le_refl _)).list l_t (by omega)).mono ?_
  rintro x wx ⟨rfl, bx⟩
  go_simp
  refine hK.out _ _ (bnext hH bx hH.size) (fun hG => ?_)
  clear hK K hH bx
  replace hH := hG
  clear hG
  (try simp only [List.getElem_toArray]); (try simp only [List.getElem_cons_succ]); (try simp only [List.getElem_cons_zero]); (try simp only [Act.put]); (try simp only [List.setIfInBounds_toArray]); (try simp only [List.set_cons_succ]); (try simp only [List.set_cons_zero])
  refine wpAnyH_take (i := 4) (v := .bool false) rfl (by kernel_rfl) (by kernel_rfl) (by kernel_rfl) (fun _ _ _ h => h) (Or.inl ⟨by rfl, ?_⟩) hH ?_
  · intro w1 hS; (try dsimp only at hS); go_simp
  (try simp only [List.getElem_toArray]); (try simp only [List.getElem_cons_succ]); (try simp only [List.getElem_cons_zero]); (try simp only [Act.put]); (try simp only [List.setIfInBounds_toArray]); (try simp only [List.set_cons_succ]); (try simp only [List.set_cons_zero])
  refine wpAnyH_done (by kernel_rfl) ?_ _
  have b10 := bD.trans (hH.mono bD.size)
  clear hH bD HD XD l_t Q_x Q_g
  have H10 := Lib.hid (bnext H9.out b10 H9.out.size)
  have W_10 := Lib.hid (W_9.out.below b10 (Nat.le_refl _))
  have x_g_10 := Lib.hid (x_g_9.out.below b10 (Nat.le_refl _))
  have G_10 := Lib.hid (G_9.out.below b10 (Nat.le_refl _))
  have RW_10 := brow b10 RW_9
  have Rx_g_10 := brow b10 Rx_g_9
  have RG_10 := brow b10 RG_9
  clear b10 H9 W_9 x_g_9 G_9 RW_9 Rx_g_9 RG_9
  clear q9_g n9_g l9_g n9_RW l9_RW n9_Rx_g l9_Rx_g n9_RG l9_RG
  have q10_g := brow H10.out q0_g
  have n10_g := Nat.ne_of_lt (rowAt_lt (brow H10.out q0_g))
  have l10_g := rowAt_lt (brow H10.out q0_g)
  have n10_RW := Nat.ne_of_lt (rowAt_lt RW_10)
  have l10_RW := rowAt_lt RW_10
  have n10_Rx_g := Nat.ne_of_lt (rowAt_lt Rx_g_10)
  have l10_Rx_g := rowAt_lt Rx_g_10
  have n10_RG := Nat.ne_of_lt (rowAt_lt RG_10)
  have l10_RG := rowAt_lt RG_10
  go_wp2_with fail
  refine (markGutter_any g_g.m _ _ _ g_x_g (1) 1 K0 rfl HK0.out _ zs_x_g zk_x_g x_g_10.out (by omega) (by omega)).mono ?_
  rintro e w11 ⟨rfl, kk11, ⟨wM11, bM11, o11, z11⟩⟩
  have W_11m := Lib.hid (W_10.out.below bM11 (Nat.le_refl _))
  have x_g_11m := Lib.hid (x_g_10.out.below bM11 (Nat.le_refl _))
  have G_11m := Lib.hid (G_10.out.below bM11 (Nat.le_refl _))
  have RW_11m := brow bM11 RW_10
  have Rx_g_11m := brow bM11 Rx_g_10
  have RG_11m := brow bM11 RG_10
  have H11m := Lib.hid (bnext H10.out bM11 H10.out.size)
  clear bM11 H10 W_10 x_g_10 G_10 RW_10 Rx_g_10 RG_10
  have H11 := Lib.hid (H11m.out.trans (o11.below.mono g0_x_g))
  have W_11 := Lib.hid (W_11m.out.only o11 ne_W_x_g)
  have x_g_11 := Lib.hid kk11
  have G_11 := Lib.hid (G_11m.out.only_later o11 z11 ne_x_g_G)
  have RW_11 := (o11.row ne_RW_x_g).trans RW_11m
  have Rx_g_11 : rowAt w11 (w5.heap.size) = some X_x_g := by rcases ne_x_g_Rx_g with h | h; · {rw [z11 h]; exact Rx_g_11m}; · exact (o11.row (Ne.symm h)).trans Rx_g_11m
  have RG_11 : rowAt w11 (w7.heap.size) = some X_G := by rcases ne_x_g_RG with h | h; · {rw [z11 h]; exact RG_11m}; · exact (o11.row (Ne.symm h)).trans RG_11m
  clear kk11 o11 z11 H11m W_11m x_g_11m G_11m RW_11m Rx_g_11m RG_11m
  clear q10_g n10_g l10_g n10_RW l10_RW n10_Rx_g l10_Rx_g n10_RG l10_RG
  have q11_g := brow H11.out q0_g
  have n11_g := Nat.ne_of_lt (rowAt_lt (brow H11.out q0_g))
  have l11_g := rowAt_lt (brow H11.out q0_g)
  have n11_RW := Nat.ne_of_lt (rowAt_lt RW_11)
  have l11_RW := rowAt_lt RW_11
  have n11_Rx_g := Nat.ne_of_lt (rowAt_lt Rx_g_11)
  have l11_Rx_g := rowAt_lt Rx_g_11
  have n11_RG := Nat.ne_of_lt (rowAt_lt RG_11)
  have l11_RG := rowAt_lt RG_11
  go_wp2_with fail
  refine (eqGutter_same _ _ gg _ _ _ _ _ is_G.out is_W.out G_11.out.list W_11.out.list hnb).mono ?_
  rintro e w12 ⟨rfl, b12⟩
  have H12 := Lib.hid (bnext H11.out b12 H11.out.size)
  have W_12 := Lib.hid (W_11.out.below b12 (Nat.le_refl _))
  have x_g_12 := Lib.hid (x_g_11.out.below b12 (Nat.le_refl _))
  have G_12 := Lib.hid (G_11.out.below b12 (Nat.le_refl _))
  have RW_12 := brow b12 RW_11
  have Rx_g_12 := brow b12 Rx_g_11
  have RG_12 := brow b12 RG_11
  clear b12 H11 W_11 x_g_11 G_11 RW_11 Rx_g_11 RG_11
  clear q11_g n11_g l11_g n11_RW l11_RW n11_Rx_g l11_Rx_g n11_RG l11_RG
  have q12_g := brow H12.out q0_g
  have n12_g := Nat.ne_of_lt (rowAt_lt (brow H12.out q0_g))
  have l12_g := rowAt_lt (brow H12.out q0_g)
  have n12_RW := Nat.ne_of_lt (rowAt_lt RW_12)
  have l12_RW := rowAt_lt RW_12
  have n12_Rx_g := Nat.ne_of_lt (rowAt_lt Rx_g_12)
  have l12_Rx_g := rowAt_lt Rx_g_12
  have n12_RG := Nat.ne_of_lt (rowAt_lt RG_12)
  have l12_RG := rowAt_lt RG_12
  go_wp2_with fail
  clear x_g_12
  clear Rx_g_12
  refine (markGutter_any gg.m _ _ _ g_G (1) 1 M rfl HM.out _ zs_G zk_G G_12.out (by omega) (by omega)).mono ?_
  rintro e w13 ⟨rfl, kk13, ⟨wM13, bM13, o13, z13⟩⟩
  have W_13m := Lib.hid (W_12.out.below bM13 (Nat.le_refl _))
  have G_13m := Lib.hid (G_12.out.below bM13 (Nat.le_refl _))
  have RW_13m := brow bM13 RW_12
  have RG_13m := brow bM13 RG_12
  have H13m := Lib.hid (bnext H12.out bM13 H12.out.size)
  clear bM13 H12 W_12 G_12 RW_12 RG_12
  have H13 := Lib.hid (H13m.out.trans (o13.below.mono g0_G))
  have W_13 := Lib.hid (W_13m.out.only o13 ne_W_G)
  have G_13 := Lib.hid kk13
  have RW_13 := (o13.row ne_RW_G).trans RW_13m
  have RG_13 : rowAt w13 (w7.heap.size) = some X_G := by rcases ne_G_RG with h | h; · {rw [z13 h]; exact RG_13m}; · exact (o13.row (Ne.symm h)).trans RG_13m
  clear kk13 o13 z13 H13m W_13m G_13m RW_13m RG_13m
  clear q12_g n12_g l12_g n12_RW l12_RW n12_Rx_g l12_Rx_g n12_RG l12_RG
  have q13_g := brow H13.out q0_g
  have n13_g := Nat.ne_of_lt (rowAt_lt (brow H13.out q0_g))
  have l13_g := rowAt_lt (brow H13.out q0_g)
  have n13_RW := Nat.ne_of_lt (rowAt_lt RW_13)
  have l13_RW := rowAt_lt RW_13
  have n13_RG := Nat.ne_of_lt (rowAt_lt RG_13)
  have l13_RG := rowAt_lt RG_13
  go_wp2_with fail
  refine (heldGutter_any gg.m _ _ g_G 1 1 M rfl HM.out _ zs_G zk_G G_13.out (by omega) (by omega)).mono ?_
  rintro e w14 ⟨rfl, b14⟩
  have H14 := Lib.hid (bnext H13.out b14 H13.out.size)
  have W_14 := Lib.hid (W_13.out.below b14 (Nat.le_refl _))
  have G_14 := Lib.hid (G_13.out.below b14 (Nat.le_refl _))
  have RW_14 := brow b14 RW_13
  have RG_14 := brow b14 RG_13
  clear b14 H13 W_13 G_13 RW_13 RG_13
  clear q13_g n13_g l13_g n13_RW l13_RW n13_RG l13_RG
  have q14_g := brow H14.out q0_g
  have n14_g := Nat.ne_of_lt (rowAt_lt (brow H14.out q0_g))
  have l14_g := rowAt_lt (brow H14.out q0_g)
  have n14_RW := Nat.ne_of_lt (rowAt_lt RW_14)
  have l14_RW := rowAt_lt RW_14
  have n14_RG := Nat.ne_of_lt (rowAt_lt RG_14)
  have l14_RG := rowAt_lt RG_14
  go_wp2_with fail
  refine (toGutter_any c_g g_g _ _ HG_g.out (A_g.out.below H14.out (Nat.le_refl _)) (by omega)).mono ?_
  rintro e w15 ⟨u_y_g, rfl, l_y_g, b15⟩
  have H15 := Lib.hid (bnext H14.out b15 H14.out.size)
  have W_15 := Lib.hid (W_14.out.below b15 (Nat.le_refl _))
  have G_15 := Lib.hid (G_14.out.below b15 (Nat.le_refl _))
  have RW_15 := brow b15 RW_14
  have RG_15 := brow b15 RG_14
  obtain ⟨g_y_g, hg_y_g, k_y_g⟩ := l_y_g.ls
  have ne_W_y_g := W_14.out.ne hg_y_g
  have ne_G_y_g := G_14.out.ne hg_y_g
  have ne_RW_y_g : w3.heap.size ≠ g_y_g := by have := rowAt_lt RW_14; omega
  have ne_RG_y_g : w7.heap.size ≠ g_y_g := by have := rowAt_lt RG_14; omega
  have g0_y_g : W0.heap.size ≤ g_y_g := Nat.le_trans H14.out.size hg_y_g
  have y_g_15 := Lib.hid k_y_g
  clear l_y_g k_y_g hg_y_g
  clear b15 H14 W_14 G_14 RW_14 RG_14
  clear q14_g n14_g l14_g n14_RW l14_RW n14_RG l14_RG
  have q15_g := brow H15.out q0_g
  have n15_g := Nat.ne_of_lt (rowAt_lt (brow H15.out q0_g))
  have l15_g := rowAt_lt (brow H15.out q0_g)
  have n15_RW := Nat.ne_of_lt (rowAt_lt RW_15)
  have l15_RW := rowAt_lt RW_15
  have n15_RG := Nat.ne_of_lt (rowAt_lt RG_15)
  have l15_RG := rowAt_lt RG_15
  have is_y_g := Lib.hid (HG_g.out.setP' u_y_g g_g.m)
  obtain ⟨X_y_g, hX_y_g⟩ : ∃ X, setP c_g (.slice u_y_g g_g.m g_g.m) = X := ⟨_, rfl⟩
  rw [hX_y_g] at is_y_g ⊢
  clear hX_y_g
  have zs_y_g := is_y_g.out.size
  have zo_y_g := is_y_g.out.ones
  have zk_y_g := is_y_g.out.pipes
  go_wp2_with fail
  refine (CI _ _ _ _ is_y_g.out y_g_15.out.list).mono ?_
  rintro e w16 ⟨X_H, v_H, rfl, is_H, l_H, b16⟩
  have H16 := Lib.hid (bnext H15.out b16 H15.out.size)
  have W_16 := Lib.hid (W_15.out.below b16 (Nat.le_refl _))
  have G_16 := Lib.hid (G_15.out.below b16 (Nat.le_refl _))
  have y_g_16 := Lib.hid (y_g_15.out.below b16 (Nat.le_refl _))
  have RW_16 := brow b16 RW_15
  have RG_16 := brow b16 RG_15
  obtain ⟨a_H, k_H, rfl⟩ := l_H.shape
  obtain ⟨g_H, hg_H, k_H⟩ := l_H.ls
  have ne_W_H := W_15.out.ne hg_H
  have ne_G_H := G_15.out.ne hg_H
  have ne_y_g_H := y_g_15.out.ne hg_H
  have ne_RW_H : w3.heap.size ≠ g_H := by have := rowAt_lt RW_15; omega
  have ne_RG_H : w7.heap.size ≠ g_H := by have := rowAt_lt RG_15; omega
  have g0_H : W0.heap.size ≤ g_H := Nat.le_trans H15.out.size hg_H
  have H_16 := Lib.hid k_H
  clear l_H k_H hg_H
  clear b16 H15 W_15 G_15 y_g_15 RW_15 RG_15
  clear q15_g n15_g l15_g n15_RW l15_RW n15_RG l15_RG
  have q16_g := brow H16.out q0_g
  have n16_g := Nat.ne_of_lt (rowAt_lt (brow H16.out q0_g))
  have l16_g := rowAt_lt (brow H16.out q0_g)
  have n16_RW := Nat.ne_of_lt (rowAt_lt RW_16)
  have l16_RW := rowAt_lt RW_16
  have n16_RG := Nat.ne_of_lt (rowAt_lt RG_16)
  have l16_RG := rowAt_lt RG_16
  have zs_H := is_H.size
  have zo_H := is_H.ones
  have zk_H := is_H.pipes
  replace is_H := Lib.hid is_H
  go_wp2_with fail
  have nn_RW_H : w3.heap.size ≠ w16.heap.size := Nat.ne_of_lt (rowAt_lt RW_16)
  have nn_RG_H : w7.heap.size ≠ w16.heap.size := Nat.ne_of_lt (rowAt_lt RG_16)
  have ne_W_RH : gg.m = 0 ∨ g_W ≠ w16.heap.size := W_16.out.lt.imp id Nat.ne_of_lt
  have ne_G_RH : gg.m = 0 ∨ g_G ≠ w16.heap.size := G_16.out.lt.imp id Nat.ne_of_lt
  have ne_y_g_RH : g_g.m = 0 ∨ g_y_g ≠ w16.heap.size := y_g_16.out.lt.imp id Nat.ne_of_lt
  have ne_H_RH : gg.m = 0 ∨ g_H ≠ w16.heap.size := H_16.out.lt.imp id Nat.ne_of_lt
  refine gen_callsW fun w17 hV => ?_
  have b17 : Below w16.heap.size w16 w17 := by rw [hV]; exact (Below.refl _ _).alloc (Nat.le_refl _) _
  have RH_17 : rowAt w17 w16.heap.size = some X_H := by rw [hV]; exact rowAt_alloc_at _ _ _ _ (by simp)
  clear hV
  have H17 := Lib.hid (bnext H16.out b17 H16.out.size)
  have W_17 := Lib.hid (W_16.out.below b17 (Nat.le_refl _))
  have G_17 := Lib.hid (G_16.out.below b17 (Nat.le_refl _))
  have y_g_17 := Lib.hid (y_g_16.out.below b17 (Nat.le_refl _))
  have H_17 := Lib.hid (H_16.out.below b17 (Nat.le_refl _))
  have RW_17 := brow b17 RW_16
  have RG_17 := brow b17 RG_16
  clear b17 H16 W_16 G_16 y_g_16 H_16 RW_16 RG_16
  clear q16_g n16_g l16_g n16_RW l16_RW n16_RG l16_RG
  have q17_g := brow H17.out q0_g
  have n17_g := Nat.ne_of_lt (rowAt_lt (brow H17.out q0_g))
  have l17_g := rowAt_lt (brow H17.out q0_g)
  have n17_RW := Nat.ne_of_lt (rowAt_lt RW_17)
  have l17_RW := rowAt_lt RW_17
  have n17_RG := Nat.ne_of_lt (rowAt_lt RG_17)
  have l17_RG := rowAt_lt RG_17
  clear y_g_17
  refine (eqGutter_same _ _ gg _ _ _ _ _ is_H.out is_W.out H_17.out.list W_17.out.list hnb).mono ?_
  rintro e w18 ⟨rfl, b18⟩
  have H18 := Lib.hid (bnext H17.out b18 H17.out.size)
  have W_18 := Lib.hid (W_17.out.below b18 (Nat.le_refl _))
  have G_18 := Lib.hid (G_17.out.below b18 (Nat.le_refl _))
  have H_18 := Lib.hid (H_17.out.below b18 (Nat.le_refl _))
  have RW_18 := brow b18 RW_17
  have RG_18 := brow b18 RG_17
  have RH_18 := brow b18 RH_17
  clear b18 H17 W_17 G_17 H_17 RW_17 RG_17 RH_17
  clear q17_g n17_g l17_g n17_RW l17_RW n17_RG l17_RG
  have q18_g := brow H18.out q0_g
  have n18_g := Nat.ne_of_lt (rowAt_lt (brow H18.out q0_g))
  have l18_g := rowAt_lt (brow H18.out q0_g)
  have n18_RW := Nat.ne_of_lt (rowAt_lt RW_18)
  have l18_RW := rowAt_lt RW_18
  have n18_RG := Nat.ne_of_lt (rowAt_lt RG_18)
  have l18_RG := rowAt_lt RG_18
  have n18_RH := Nat.ne_of_lt (rowAt_lt RH_18)
  have l18_RH := rowAt_lt RH_18
  go_wp2_with fail
  refine (heldGutter_any gg.m _ _ g_G 1 1 M rfl HM.out _ zs_G zk_G G_18.out (by omega) (by omega)).mono ?_
  rintro e w19 ⟨rfl, b19⟩
  have H19 := Lib.hid (bnext H18.out b19 H18.out.size)
  have W_19 := Lib.hid (W_18.out.below b19 (Nat.le_refl _))
  have G_19 := Lib.hid (G_18.out.below b19 (Nat.le_refl _))
  have H_19 := Lib.hid (H_18.out.below b19 (Nat.le_refl _))
  have RW_19 := brow b19 RW_18
  have RG_19 := brow b19 RG_18
  have RH_19 := brow b19 RH_18
  clear b19 H18 W_18 G_18 H_18 RW_18 RG_18 RH_18
  clear q18_g n18_g l18_g n18_RW l18_RW n18_RG l18_RG n18_RH l18_RH
  have q19_g := brow H19.out q0_g
  have n19_g := Nat.ne_of_lt (rowAt_lt (brow H19.out q0_g))
  have l19_g := rowAt_lt (brow H19.out q0_g)
  have n19_RW := Nat.ne_of_lt (rowAt_lt RW_19)
  have l19_RW := rowAt_lt RW_19
  have n19_RG := Nat.ne_of_lt (rowAt_lt RG_19)
  have l19_RG := rowAt_lt RG_19
  have n19_RH := Nat.ne_of_lt (rowAt_lt RH_19)
  have l19_RH := rowAt_lt RH_19
  go_wp2_with fail
  go_ret
  exact ⟨rfl, PB0.out.trans (H19.out.mono PB0.out.size)⟩

namespace LFnExactMirrorGutter
open Go.RowKit Go.ChangeShapes Go.WideShapes Go.ChangeAt
theorem own : ownKnob Try.prog.godebug = none := by kernel_rfl
theorem laidOut : laidOutB Try.prog = true := by kernel_rfl
set_option maxRecDepth 100000 in
theorem lifted (os : Os) (started : os.Started) (H : Type) (enc : TypeId × Value → H) :
    ReturnsInHanded {} Try.checked os 5 .any (Rows.fnExactMirrorGutterSpec.pre6 enc Try.prog Try.f5 Rows.fnExactMirrorGutterRow.domain false) (Rows.fnExactMirrorGutterSpec.post enc Try.prog Try.f5 false true false false) := by
  refine returnsInHanded_of_change (C := Try.checked) own started (by kernel_rfl) Try.func5
    (ChangeSpec.witness6 (enc := enc) (C := Try.checked) false ⟨#[], #[.agg (#[.int .i8 0, .int .i16 0] ++ Array.replicate 17 (.int .i8 0) ++ #[.int .u32 0, .slice none 0 0])], []⟩ 8 (by kernel_rfl) (by kernel_rfl) (by kernel_rfl) (by kernel_rfl)) ?_
  intro W base args ds gs before hval0 hW hcnd _
  have hval : ∀ (j : Nat) t v, Try.f5.params[j]? = some t → args[j]? = some v → Value.okWide Try.prog W .any base t v := hval0
  have hW' := hW
  obtain ⟨p, q, hA0, hV, rfl, hfz, hnd⟩ := hW
  have hA : DataW.TrodAll enc Try.prog W 0 (fun _ => true) true Try.f5.params.toList args.toList ds p := hA0
  rw [Try.params5] at hA hval
  obtain ⟨v0, vs0, d0, ds0, p0, q0, hargs, rfl, rfl, h0, r0⟩ := trodAll_cons hA
  obtain ⟨rfl, rfl, rfl⟩ := trodAll_nil r0
  obtain rfl : args = #[v0] := by cases args; simp_all
  obtain ⟨rfl, rfl⟩ := trodVars_none hV
  have k0 := h0
  have lt0 : ∀ x ∈ p0, x.block < W.heap.size := by obtain ⟨m, hm⟩ := k0; exact DataW.trod_lt m _ _ _ hm
  obtain ⟨c0, f0, u0, rfl, wf0, hL0, hm0⟩ := open_gut (hval 0 50 v0 rfl rfl) h0
  clear hA0 hval0
  refine (law_walk_FnExactMirrorGutter wf0 hL0 hm0).mono fun e W' ⟨he, bel⟩ => ?_
  subst he
  exact ⟨_, rfl, _, _, _, [], _, [], hW', trodAll_mk1 (shut_bool Try.underlying4 _), (trodAll_cons_mk (Below.trod laidOut (by kernel_rfl) (of_decide_eq_true (by kernel_rfl)) k0 bel lt0) trodAll_mk0), rfl, bel.frame _, fun h => by cases h⟩

theorem over : Rows.fnExactMirrorGutterRow.holds Try.pinned (OpenSpec.ofChange Rows.fnExactMirrorGutterSpec) :=
  OpenClaim.holds_of_wide 5 Try.f5 rfl rfl rfl rfl rfl rfl rfl ⟨rfl, rfl, rfl, rfl, rfl⟩ rfl rfl rfl rfl rfl (by kernel_rfl) Try.func5 (by kernel_rfl)
    (of_decide_eq_true (by kernel_rfl)) (by unfold Func.isWrapper; first | (rw [if_pos (by decide +kernel)]; kernel_rfl) | (rw [if_neg (by decide +kernel)]; exact ⟨rfl, rfl⟩))
    (fun os started H enc _ => lifted os started H enc)

theorem proved : Rows.FnExactMirrorGutterSaid := over
end LFnExactMirrorGutter


end Go.Proofs.Ytcdddngdjhjdbaa
