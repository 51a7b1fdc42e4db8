/- laws.FnExactSameGutter returns true for every gutter, gutter, and leaves them as they were. No condition. -/
import Derived.Test.YtlkmdoccnbnacaaGutG
import Derived.Test.YtlkmdoccnbnacaaWat
import Derived.Test.YtlkmdoccnbnacaaNums
import Derived.Test.YtlkmdoccnbnacaaSameG
import Derived.Deep.RegionHeld3
namespace Go.Proofs.Ytlkmdoccnbnacaa
open Go.RowKit

set_option maxRecDepth 100000 in
set_option maxHeartbeats 4000000 in
theorem law_walk_FnExactSameGutter {w : World} {c_a : Array Value} {g_a : Gt} {v_a : Value} (hG_a : IsGut c_a g_a v_a) (hv_a : ArgPp w v_a g_a.m g_a.p) (hm_a : g_a.m ≤ maxLen) {c_b : Array Value} {g_b : Gt} {v_b : Value} (hG_b : IsGut c_b g_b v_b) (hv_b : ArgPp w v_b g_b.m g_b.p) (hm_b : g_b.m ≤ maxLen) :
    Calls Try.prog 4 #[.agg c_a, .agg c_b] w fun e w' => e = .returned (.bool true) ∧ Below w.heap.size w w' := by
  have PB0 := Lib.hid (show Below w.heap.size w ((w.alloc (.cells c_a 28)).alloc (.cells c_b 28)) from ((Below.refl w.heap.size w).alloc (Nat.le_refl _) _).alloc (by simp) _)
  have q0_a : rowAt ((w.alloc (.cells c_a 28)).alloc (.cells c_b 28)) (w.heap.size) = some c_a := (rowAt_alloc_past _ _ _ (by simp)).trans (rowAt_alloc_at w c_a 28 (w.heap.size) (by simp))
  have q0_b : rowAt ((w.alloc (.cells c_a 28)).alloc (.cells c_b 28)) (w.heap.size + 1) = some c_b := rowAt_alloc_at (w.alloc (.cells c_a 28)) c_b 28 (w.heap.size + 1) (by simp)
  have A_a := Lib.hid (hv_a.below PB0.out (Nat.le_refl _))
  have HG_a := Lib.hid hG_a
  have zs_a := hG_a.size
  obtain ⟨av_a, cv_a, rfl⟩ := hv_a.shape
  have A_b := Lib.hid (hv_b.below PB0.out (Nat.le_refl _))
  have HG_b := Lib.hid hG_b
  have zs_b := hG_b.size
  obtain ⟨av_b, cv_b, rfl⟩ := hv_b.shape
  clear hv_a hG_a hv_b hG_b 
  obtain ⟨X0, hX0⟩ : ∃ X : Int, X = if (g_a.m : Int) ≤ 1048576 then (1048576 : Int) - g_a.m else (-1 : Int) := ⟨_, rfl⟩
  have HX0 := Lib.hid hX0
  obtain ⟨X1, hX1⟩ : ∃ X : Int, X = if (g_b.m : Int) ≤ X0 then (X0 : Int) - g_b.m else (-1 : Int) := ⟨_, rfl⟩
  have HX1 := Lib.hid hX1
  by_cases hl_a : (g_a.m : Int) ≤ (1048576 : Int)
  rotate_left
  · have hx0 : decide (X0 < 0) = true := by rw [HX0.out, if_neg hl_a]; rfl
    clear hX0 hX1
    go_enter Try.func4, Try.ntmps4
    go_wp2_with fail
    refine gen_callsW fun W0 hW => ?_
    rw [← hW] at q0_a q0_b PB0 A_a A_b
    clear hW
    have H0 := Lib.hid (Below.refl W0.heap.size W0)
    refine (szGutter_any _ c_a g_a _ _ HG_a.out (A_a.out.below H0.out (Nat.le_refl _)) ⟨by omega, by omega⟩ hm_a X0 HX0.out).mono ?_
    rintro e w1 ⟨rfl, b1⟩
    have H1 := Lib.hid (bnext H0.out b1 H0.out.size)
    clear b1 H0
    have q1_a := brow H1.out q0_a
    have n1_a := Nat.ne_of_lt (rowAt_lt (brow H1.out q0_a))
    have l1_a := rowAt_lt (brow H1.out q0_a)
    have q1_b := brow H1.out q0_b
    have n1_b := Nat.ne_of_lt (rowAt_lt (brow H1.out q0_b))
    have l1_b := rowAt_lt (brow H1.out q0_b)
    go_wp2_with fail
    go_ret
    exact ⟨rfl, PB0.out.trans (H1.out.mono PB0.out.size)⟩
  rw [if_pos hl_a] at hX0
  have hXb0 : 0 ≤ X0 ∧ X0 ≤ 1048576 := by omega
  have hx0 : decide (X0 < 0) = false := by simp; omega
  have hm1_a : g_a.m ≤ 1048576 := by omega
  clear hX0
  by_cases hl_b : (g_b.m : Int) ≤ X0
  rotate_left
  · have hx1 : decide (X1 < 0) = true := by rw [HX1.out, if_neg hl_b]; rfl
    clear hX1
    go_enter Try.func4, Try.ntmps4
    go_wp2_with fail
    refine gen_callsW fun W0 hW => ?_
    rw [← hW] at q0_a q0_b PB0 A_a A_b
    clear hW
    have H0 := Lib.hid (Below.refl W0.heap.size W0)
    refine (szGutter_any _ c_a g_a _ _ HG_a.out (A_a.out.below H0.out (Nat.le_refl _)) ⟨by omega, by omega⟩ hm_a X0 HX0.out).mono ?_
    rintro e w1 ⟨rfl, b1⟩
    have H1 := Lib.hid (bnext H0.out b1 H0.out.size)
    clear b1 H0
    have q1_a := brow H1.out q0_a
    have n1_a := Nat.ne_of_lt (rowAt_lt (brow H1.out q0_a))
    have l1_a := rowAt_lt (brow H1.out q0_a)
    have q1_b := brow H1.out q0_b
    have n1_b := Nat.ne_of_lt (rowAt_lt (brow H1.out q0_b))
    have l1_b := rowAt_lt (brow H1.out q0_b)
    go_wp2_with fail
    refine (szGutter_any X0 c_b g_b _ _ HG_b.out (A_b.out.below H1.out (Nat.le_refl _)) hXb0 hm_b X1 HX1.out).mono ?_
    rintro e w2 ⟨rfl, b2⟩
    have H2 := Lib.hid (bnext H1.out b2 H1.out.size)
    clear b2 H1
    clear q1_a n1_a l1_a q1_b n1_b l1_b
    have q2_a := brow H2.out q0_a
    have n2_a := Nat.ne_of_lt (rowAt_lt (brow H2.out q0_a))
    have l2_a := rowAt_lt (brow H2.out q0_a)
    have q2_b := brow H2.out q0_b
    have n2_b := Nat.ne_of_lt (rowAt_lt (brow H2.out q0_b))
    have l2_b := rowAt_lt (brow H2.out q0_b)
    go_wp2_with fail
    go_ret
    exact ⟨rfl, PB0.out.trans (H2.out.mono PB0.out.size)⟩
  rw [if_pos hl_b] at hX1
  have hXb1 : 0 ≤ X1 ∧ X1 ≤ 1048576 := by omega
  have hx1 : decide (X1 < 0) = false := by simp; omega
  have hm1_b : g_b.m ≤ 1048576 := by omega
  clear hX1
  have CS := fun (W : World) (B_a : Nat) (U_a : Option Addr) (Y_a : Array Value) (B_b : Nat) (U_b : Option Addr) (Y_b : Array Value) (I_a : IsGut Y_a g_a (.slice U_a g_a.m g_a.m)) (H_a : IsList W B_a (.slice U_a g_a.m g_a.m) 2 g_a.m (pipeV g_a.p)) (I_b : IsGut Y_b g_b (.slice U_b g_b.m g_b.m)) (H_b : IsList W B_b (.slice U_b g_b.m g_b.m) 2 g_b.m (pipeV g_b.p)) => specSameGutter_any B_a Y_a g_a (.slice U_a g_a.m g_a.m) B_b Y_b g_b (.slice U_b g_b.m g_b.m) W I_a H_a (by omega) I_b H_b (by omega)
  have CI := fun (W : World) (B_a : Nat) (U_a : Option Addr) (Y_a : Array Value) (B_b : Nat) (U_b : Option Addr) (Y_b : Array Value) (I_a : IsGut Y_a g_a (.slice U_a g_a.m g_a.m)) (H_a : IsList W B_a (.slice U_a g_a.m g_a.m) 2 g_a.m (pipeV g_a.p)) (I_b : IsGut Y_b g_b (.slice U_b g_b.m g_b.m)) (H_b : IsList W B_b (.slice U_b g_b.m g_b.m) 2 g_b.m (pipeV g_b.p)) => implSameGutter_any B_a Y_a g_a (.slice U_a g_a.m g_a.m) B_b Y_b g_b (.slice U_b g_b.m g_b.m) W I_a H_a (by omega) I_b H_b (by omega)
  have hne0 : ((g_a.sameB g_b) != (g_a.sameB g_b)) = false := by simp
  generalize (g_a.sameB g_b) = x0 at *
  go_enter Try.func4, Try.ntmps4
  go_wp2_with fail
  refine gen_callsW fun W0 hW => ?_
  rw [← hW] at q0_a q0_b PB0 A_a A_b
  clear hW
  have H0 := Lib.hid (Below.refl W0.heap.size W0)
  refine (szGutter_any _ c_a g_a _ _ HG_a.out (A_a.out.below H0.out (Nat.le_refl _)) ⟨by omega, by omega⟩ hm_a X0 HX0.out).mono ?_
  rintro e w1 ⟨rfl, b1⟩
  have H1 := Lib.hid (bnext H0.out b1 H0.out.size)
  clear b1 H0
  have q1_a := brow H1.out q0_a
  have n1_a := Nat.ne_of_lt (rowAt_lt (brow H1.out q0_a))
  have l1_a := rowAt_lt (brow H1.out q0_a)
  have q1_b := brow H1.out q0_b
  have n1_b := Nat.ne_of_lt (rowAt_lt (brow H1.out q0_b))
  have l1_b := rowAt_lt (brow H1.out q0_b)
  go_wp2_with fail
  refine (szGutter_any X0 c_b g_b _ _ HG_b.out (A_b.out.below H1.out (Nat.le_refl _)) hXb0 hm_b X1 HX1.out).mono ?_
  rintro e w2 ⟨rfl, b2⟩
  have H2 := Lib.hid (bnext H1.out b2 H1.out.size)
  clear b2 H1
  clear q1_a n1_a l1_a q1_b n1_b l1_b
  have q2_a := brow H2.out q0_a
  have n2_a := Nat.ne_of_lt (rowAt_lt (brow H2.out q0_a))
  have l2_a := rowAt_lt (brow H2.out q0_a)
  have q2_b := brow H2.out q0_b
  have n2_b := Nat.ne_of_lt (rowAt_lt (brow H2.out q0_b))
  have l2_b := rowAt_lt (brow H2.out q0_b)
  go_wp2_with fail
  refine gen_world fun wD hD => ?_
  have bD := below_of_eqG hD
  clear hD
  have HD := bnext H2.out bD H2.out.size
  have Q_a := brow HD q0_a
  have Q_b := brow HD q0_b
  refine wp_region_held_drew (S := fun w' => Below wD.heap.size wD w') (by kernel_rfl) ((Below.refl _ _).drew) (fun hH => ?_)
  refine wpAnyH_take (i := 0) (v := .agg c_a) rfl (by kernel_rfl) (by kernel_rfl) (by kernel_rfl) (fun _ _ _ h => h) (Or.inl ⟨by rfl, ?_⟩) hH ?_
  · intro w1 hS; (try dsimp only at hS); have s0 := brow hS Q_a; go_simp
  (try simp only [List.getElem_toArray]); (try simp only [List.getElem_cons_succ]); (try simp only [List.getElem_cons_zero]); (try simp only [Act.put]); (try simp only [List.setIfInBounds_toArray]); (try simp only [List.set_cons_succ]); (try simp only [List.set_cons_zero])
  refine wpAnyH_take (i := 2) (v := .agg c_b) rfl (by kernel_rfl) (by kernel_rfl) (by kernel_rfl) (fun _ _ _ h => h) (Or.inl ⟨by rfl, ?_⟩) hH ?_
  · intro w1 hS; (try dsimp only at hS); have s0 := brow hS Q_b; go_simp
  (try simp only [List.getElem_toArray]); (try simp only [List.getElem_cons_succ]); (try simp only [List.getElem_cons_zero]); (try simp only [Act.put]); (try simp only [List.setIfInBounds_toArray]); (try simp only [List.set_cons_succ]); (try simp only [List.set_cons_zero])
  refine wpAnyH_ready (rs := [1]) (by kernel_rfl) (by simp) (AllReadyH.cons rfl (fun K hK => ?_) AllReadyH.nil)
  go_simp
  refine (toGutter_any c_a g_a _ _ HG_a.out (A_a.out.below (bnext HD hH HD.size) (Nat.le_refl _)) (by omega)).mono ?_
  rintro x wx ⟨u0, rfl, l0, bx⟩
  go_simp
  refine hK.out _ _ (bnext hH bx hH.size) (fun hG => ?_)
  clear hK K hH bx
  replace hH := hG
  clear hG
  (try simp only [List.getElem_toArray]); (try simp only [List.getElem_cons_succ]); (try simp only [List.getElem_cons_zero]); (try simp only [Act.put]); (try simp only [List.setIfInBounds_toArray]); (try simp only [List.set_cons_succ]); (try simp only [List.set_cons_zero])
  refine wpAnyH_ready (rs := [3]) (by kernel_rfl) (by simp) (AllReadyH.cons rfl (fun K hK => ?_) AllReadyH.nil)
  go_simp
  refine (toGutter_any c_b g_b _ _ HG_b.out (A_b.out.below (bnext HD hH HD.size) (Nat.le_refl _)) (by omega)).mono ?_
  rintro x wx ⟨u1, rfl, l1, bx⟩
  have l0 := l0.below bx (Nat.le_refl _)
  go_simp
  refine hK.out _ _ (bnext hH bx hH.size) (fun hG => ?_)
  clear hK K hH bx
  replace hH := hG
  clear hG
  (try simp only [List.getElem_toArray]); (try simp only [List.getElem_cons_succ]); (try simp only [List.getElem_cons_zero]); (try simp only [Act.put]); (try simp only [List.setIfInBounds_toArray]); (try simp only [List.set_cons_succ]); (try simp only [List.set_cons_zero])
  refine wpAnyH_ready (rs := [4]) (by kernel_rfl) (by simp) (AllReadyH.cons rfl (fun K hK => ?_) AllReadyH.nil)
  go_simp
  refine (CS _ _ _ _ _ _ _ (HG_a.out.setP' u0 g_a.m) l0 (HG_b.out.setP' u1 g_b.m) l1).mono ?_
  rintro x wx ⟨rfl, bx⟩
  go_simp
  refine hK.out _ _ (bnext hH bx hH.size) (fun hG => ?_)
  clear hK K hH bx
  replace hH := hG
  clear hG
  (try simp only [List.getElem_toArray]); (try simp only [List.getElem_cons_succ]); (try simp only [List.getElem_cons_zero]); (try simp only [Act.put]); (try simp only [List.setIfInBounds_toArray]); (try simp only [List.set_cons_succ]); (try simp only [List.set_cons_zero])
  refine wpAnyH_take (i := 5) (v := .bool x0) rfl (by kernel_rfl) (by kernel_rfl) (by kernel_rfl) (fun _ _ _ h => h) (Or.inl ⟨by rfl, ?_⟩) hH ?_
  · intro w1 hS; (try dsimp only at hS); go_simp
  (try simp only [List.getElem_toArray]); (try simp only [List.getElem_cons_succ]); (try simp only [List.getElem_cons_zero]); (try simp only [Act.put]); (try simp only [List.setIfInBounds_toArray]); (try simp only [List.set_cons_succ]); (try simp only [List.set_cons_zero])
  refine wpAnyH_done (by kernel_rfl) ?_ _
  have b3 := bD.trans (hH.mono bD.size)
  clear hH bD HD Q_a Q_b l0 l1
  have H3 := Lib.hid (bnext H2.out b3 H2.out.size)
  clear b3 H2
  clear q2_a n2_a l2_a q2_b n2_b l2_b
  have q3_a := brow H3.out q0_a
  have n3_a := Nat.ne_of_lt (rowAt_lt (brow H3.out q0_a))
  have l3_a := rowAt_lt (brow H3.out q0_a)
  have q3_b := brow H3.out q0_b
  have n3_b := Nat.ne_of_lt (rowAt_lt (brow H3.out q0_b))
  have l3_b := rowAt_lt (brow H3.out q0_b)
  go_wp2_with fail
  refine (toGutter_any c_a g_a _ _ HG_a.out (A_a.out.below H3.out (Nat.le_refl _)) (by omega)).mono ?_
  rintro e w4 ⟨u_x_a, rfl, l_x_a, b4⟩
  have H4 := Lib.hid (bnext H3.out b4 H3.out.size)
  obtain ⟨g_x_a, hg_x_a, k_x_a⟩ := l_x_a.ls
  have g0_x_a : W0.heap.size ≤ g_x_a := Nat.le_trans H3.out.size hg_x_a
  have x_a_4 := Lib.hid k_x_a
  clear l_x_a k_x_a hg_x_a
  clear b4 H3
  clear q3_a n3_a l3_a q3_b n3_b l3_b
  have q4_a := brow H4.out q0_a
  have n4_a := Nat.ne_of_lt (rowAt_lt (brow H4.out q0_a))
  have l4_a := rowAt_lt (brow H4.out q0_a)
  have q4_b := brow H4.out q0_b
  have n4_b := Nat.ne_of_lt (rowAt_lt (brow H4.out q0_b))
  have l4_b := rowAt_lt (brow H4.out q0_b)
  have is_x_a := Lib.hid (HG_a.out.setP' u_x_a g_a.m)
  obtain ⟨X_x_a, hX_x_a⟩ : ∃ X, setP c_a (.slice u_x_a g_a.m g_a.m) = X := ⟨_, rfl⟩
  rw [hX_x_a] at is_x_a ⊢
  clear hX_x_a
  have zs_x_a := is_x_a.out.size
  have zo_x_a := is_x_a.out.ones
  have zk_x_a := is_x_a.out.pipes
  go_wp2_with fail
  have ne_x_a_Rx_a : g_a.m = 0 ∨ g_x_a ≠ w4.heap.size := x_a_4.out.lt.imp id Nat.ne_of_lt
  refine gen_callsW fun w5 hV => ?_
  have b5 : Below w4.heap.size w4 w5 := by rw [hV]; exact (Below.refl _ _).alloc (Nat.le_refl _) _
  have Rx_a_5 : rowAt w5 w4.heap.size = some X_x_a := by rw [hV]; exact rowAt_alloc_at _ _ _ _ (by simp)
  clear hV
  have H5 := Lib.hid (bnext H4.out b5 H4.out.size)
  have x_a_5 := Lib.hid (x_a_4.out.below b5 (Nat.le_refl _))
  clear b5 H4 x_a_4
  clear q4_a n4_a l4_a q4_b n4_b l4_b
  have q5_a := brow H5.out q0_a
  have n5_a := Nat.ne_of_lt (rowAt_lt (brow H5.out q0_a))
  have l5_a := rowAt_lt (brow H5.out q0_a)
  have q5_b := brow H5.out q0_b
  have n5_b := Nat.ne_of_lt (rowAt_lt (brow H5.out q0_b))
  have l5_b := rowAt_lt (brow H5.out q0_b)
  refine (toGutter_any c_b g_b _ _ HG_b.out (A_b.out.below H5.out (Nat.le_refl _)) (by omega)).mono ?_
  rintro e w6 ⟨u_x_b, rfl, l_x_b, b6⟩
  have H6 := Lib.hid (bnext H5.out b6 H5.out.size)
  have x_a_6 := Lib.hid (x_a_5.out.below b6 (Nat.le_refl _))
  have Rx_a_6 := brow b6 Rx_a_5
  obtain ⟨g_x_b, hg_x_b, k_x_b⟩ := l_x_b.ls
  have ne_x_a_x_b := x_a_5.out.ne hg_x_b
  have ne_Rx_a_x_b : w4.heap.size ≠ g_x_b := by have := rowAt_lt Rx_a_5; omega
  have g0_x_b : W0.heap.size ≤ g_x_b := Nat.le_trans H5.out.size hg_x_b
  have x_b_6 := Lib.hid k_x_b
  clear l_x_b k_x_b hg_x_b
  clear b6 H5 x_a_5 Rx_a_5
  clear q5_a n5_a l5_a q5_b n5_b l5_b
  have q6_a := brow H6.out q0_a
  have n6_a := Nat.ne_of_lt (rowAt_lt (brow H6.out q0_a))
  have l6_a := rowAt_lt (brow H6.out q0_a)
  have q6_b := brow H6.out q0_b
  have n6_b := Nat.ne_of_lt (rowAt_lt (brow H6.out q0_b))
  have l6_b := rowAt_lt (brow H6.out q0_b)
  have n6_Rx_a := Nat.ne_of_lt (rowAt_lt Rx_a_6)
  have l6_Rx_a := rowAt_lt Rx_a_6
  have is_x_b := Lib.hid (HG_b.out.setP' u_x_b g_b.m)
  obtain ⟨X_x_b, hX_x_b⟩ : ∃ X, setP c_b (.slice u_x_b g_b.m g_b.m) = X := ⟨_, rfl⟩
  rw [hX_x_b] at is_x_b ⊢
  clear hX_x_b
  have zs_x_b := is_x_b.out.size
  have zo_x_b := is_x_b.out.ones
  have zk_x_b := is_x_b.out.pipes
  go_wp2_with fail
  have nn_Rx_a_x_b : w4.heap.size ≠ w6.heap.size := Nat.ne_of_lt (rowAt_lt Rx_a_6)
  have ne_x_a_Rx_b : g_a.m = 0 ∨ g_x_a ≠ w6.heap.size := x_a_6.out.lt.imp id Nat.ne_of_lt
  have ne_x_b_Rx_b : g_b.m = 0 ∨ g_x_b ≠ w6.heap.size := x_b_6.out.lt.imp id Nat.ne_of_lt
  refine gen_callsW fun w7 hV => ?_
  have b7 : Below w6.heap.size w6 w7 := by rw [hV]; exact (Below.refl _ _).alloc (Nat.le_refl _) _
  have Rx_b_7 : rowAt w7 w6.heap.size = some X_x_b := by rw [hV]; exact rowAt_alloc_at _ _ _ _ (by simp)
  clear hV
  have H7 := Lib.hid (bnext H6.out b7 H6.out.size)
  have x_a_7 := Lib.hid (x_a_6.out.below b7 (Nat.le_refl _))
  have x_b_7 := Lib.hid (x_b_6.out.below b7 (Nat.le_refl _))
  have Rx_a_7 := brow b7 Rx_a_6
  clear b7 H6 x_a_6 x_b_6 Rx_a_6
  clear q6_a n6_a l6_a q6_b n6_b l6_b n6_Rx_a l6_Rx_a
  have q7_a := brow H7.out q0_a
  have n7_a := Nat.ne_of_lt (rowAt_lt (brow H7.out q0_a))
  have l7_a := rowAt_lt (brow H7.out q0_a)
  have q7_b := brow H7.out q0_b
  have n7_b := Nat.ne_of_lt (rowAt_lt (brow H7.out q0_b))
  have l7_b := rowAt_lt (brow H7.out q0_b)
  have n7_Rx_a := Nat.ne_of_lt (rowAt_lt Rx_a_7)
  have l7_Rx_a := rowAt_lt Rx_a_7
  refine (CI _ _ _ _ _ _ _ is_x_a.out x_a_7.out.list is_x_b.out x_b_7.out.list).mono ?_
  rintro e w8 ⟨rfl, b8⟩
  have H8 := Lib.hid (bnext H7.out b8 H7.out.size)
  have x_a_8 := Lib.hid (x_a_7.out.below b8 (Nat.le_refl _))
  have x_b_8 := Lib.hid (x_b_7.out.below b8 (Nat.le_refl _))
  have Rx_a_8 := brow b8 Rx_a_7
  have Rx_b_8 := brow b8 Rx_b_7
  clear b8 H7 x_a_7 x_b_7 Rx_a_7 Rx_b_7
  clear q7_a n7_a l7_a q7_b n7_b l7_b n7_Rx_a l7_Rx_a
  have q8_a := brow H8.out q0_a
  have n8_a := Nat.ne_of_lt (rowAt_lt (brow H8.out q0_a))
  have l8_a := rowAt_lt (brow H8.out q0_a)
  have q8_b := brow H8.out q0_b
  have n8_b := Nat.ne_of_lt (rowAt_lt (brow H8.out q0_b))
  have l8_b := rowAt_lt (brow H8.out q0_b)
  have n8_Rx_a := Nat.ne_of_lt (rowAt_lt Rx_a_8)
  have l8_Rx_a := rowAt_lt Rx_a_8
  have n8_Rx_b := Nat.ne_of_lt (rowAt_lt Rx_b_8)
  have l8_Rx_b := rowAt_lt Rx_b_8
  go_wp2_with fail
  refine gen_world fun wD hD => ?_
  have bD := below_of_eqG hD
  clear hD
  have Q_x := brow bD Rx_a_8
  have XD := Lib.hid (x_a_8.out.below bD (Nat.le_refl _))
  have HD := bnext H8.out bD H8.out.size
  have Q_a := brow HD q0_a
  refine wp_region_held_drew (S := fun w' => Below wD.heap.size wD w') (by kernel_rfl) ((Below.refl _ _).drew) (fun hH => ?_)
  refine wpAnyH_take (i := 0) (v := .agg X_x_a) rfl (by kernel_rfl) (by kernel_rfl) (by kernel_rfl) (fun _ _ _ h => h) (Or.inl ⟨by rfl, ?_⟩) hH ?_
  · intro w1 hS; (try dsimp only at hS); have s0 := brow hS Q_x; go_simp
  (try simp only [List.getElem_toArray]); (try simp only [List.getElem_cons_succ]); (try simp only [List.getElem_cons_zero]); (try simp only [Act.put]); (try simp only [List.setIfInBounds_toArray]); (try simp only [List.set_cons_succ]); (try simp only [List.set_cons_zero])
  refine wpAnyH_take (i := 1) (v := .agg c_a) rfl (by kernel_rfl) (by kernel_rfl) (by kernel_rfl) (fun _ _ _ h => h) (Or.inl ⟨by rfl, ?_⟩) hH ?_
  · intro w1 hS; (try dsimp only at hS); have s0 := brow hS Q_a; go_simp
  (try simp only [List.getElem_toArray]); (try simp only [List.getElem_cons_succ]); (try simp only [List.getElem_cons_zero]); (try simp only [Act.put]); (try simp only [List.setIfInBounds_toArray]); (try simp only [List.set_cons_succ]); (try simp only [List.set_cons_zero])
  refine wpAnyH_ready (rs := [2]) (by kernel_rfl) (by simp) (AllReadyH.cons rfl (fun K hK => ?_) AllReadyH.nil)
  go_simp
  refine (toGutter_any c_a g_a _ _ HG_a.out (A_a.out.below (bnext HD hH HD.size) (Nat.le_refl _)) (by omega)).mono ?_
  rintro x wx ⟨u_t, rfl, l_t, bx⟩
  go_simp
  refine hK.out _ _ (bnext hH bx hH.size) (fun hG => ?_)
  clear hK K hH bx
  replace hH := hG
  clear hG
  (try simp only [List.getElem_toArray]); (try simp only [List.getElem_cons_succ]); (try simp only [List.getElem_cons_zero]); (try simp only [Act.put]); (try simp only [List.setIfInBounds_toArray]); (try simp only [List.set_cons_succ]); (try simp only [List.set_cons_zero])
  refine wpAnyH_ready (rs := [3]) (by kernel_rfl) (by simp) (AllReadyH.cons rfl (fun K hK => ?_) AllReadyH.nil)
  go_simp
  refine (eqGutter_same _ _ g_a _ _ _ _ _ is_x_a.out (HG_a.out.setP' u_t g_a.m) (XD.out.below hH (Nat.le_refl _)).list l_t (by omega)).mono ?_
  rintro x wx ⟨rfl, bx⟩
  go_simp
  refine hK.out _ _ (bnext hH bx hH.size) (fun hG => ?_)
  clear hK K hH bx
  replace hH := hG
  clear hG
  (try simp only [List.getElem_toArray]); (try simp only [List.getElem_cons_succ]); (try simp only [List.getElem_cons_zero]); (try simp only [Act.put]); (try simp only [List.setIfInBounds_toArray]); (try simp only [List.set_cons_succ]); (try simp only [List.set_cons_zero])
  refine wpAnyH_take (i := 4) (v := .bool false) rfl (by kernel_rfl) (by kernel_rfl) (by kernel_rfl) (fun _ _ _ h => h) (Or.inl ⟨by rfl, ?_⟩) hH ?_
  · intro w1 hS; (try dsimp only at hS); go_simp
  (try simp only [List.getElem_toArray]); (try simp only [List.getElem_cons_succ]); (try simp only [List.getElem_cons_zero]); (try simp only [Act.put]); (try simp only [List.setIfInBounds_toArray]); (try simp only [List.set_cons_succ]); (try simp only [List.set_cons_zero])
  refine wpAnyH_done (by kernel_rfl) ?_ _
  have b9 := bD.trans (hH.mono bD.size)
  clear hH bD HD XD l_t Q_x Q_a
  have H9 := Lib.hid (bnext H8.out b9 H8.out.size)
  have x_a_9 := Lib.hid (x_a_8.out.below b9 (Nat.le_refl _))
  have x_b_9 := Lib.hid (x_b_8.out.below b9 (Nat.le_refl _))
  have Rx_a_9 := brow b9 Rx_a_8
  have Rx_b_9 := brow b9 Rx_b_8
  clear b9 H8 x_a_8 x_b_8 Rx_a_8 Rx_b_8
  clear q8_a n8_a l8_a q8_b n8_b l8_b n8_Rx_a l8_Rx_a n8_Rx_b l8_Rx_b
  have q9_a := brow H9.out q0_a
  have n9_a := Nat.ne_of_lt (rowAt_lt (brow H9.out q0_a))
  have l9_a := rowAt_lt (brow H9.out q0_a)
  have q9_b := brow H9.out q0_b
  have n9_b := Nat.ne_of_lt (rowAt_lt (brow H9.out q0_b))
  have l9_b := rowAt_lt (brow H9.out q0_b)
  have n9_Rx_a := Nat.ne_of_lt (rowAt_lt Rx_a_9)
  have l9_Rx_a := rowAt_lt Rx_a_9
  have n9_Rx_b := Nat.ne_of_lt (rowAt_lt Rx_b_9)
  have l9_Rx_b := rowAt_lt Rx_b_9
  go_wp2_with fail
  refine gen_world fun wD hD => ?_
  have bD := below_of_eqG hD
  clear hD
  have Q_x := brow bD Rx_b_9
  have XD := Lib.hid (x_b_9.out.below bD (Nat.le_refl _))
  have HD := bnext H9.out bD H9.out.size
  have Q_b := brow HD q0_b
  refine wp_region_held_drew (S := fun w' => Below wD.heap.size wD w') (by kernel_rfl) ((Below.refl _ _).drew) (fun hH => ?_)
  refine wpAnyH_take (i := 0) (v := .agg X_x_b) rfl (by kernel_rfl) (by kernel_rfl) (by kernel_rfl) (fun _ _ _ h => h) (Or.inl ⟨by rfl, ?_⟩) hH ?_
  · intro w1 hS; (try dsimp only at hS); have s0 := brow hS Q_x; go_simp
  (try simp only [List.getElem_toArray]); (try simp only [List.getElem_cons_succ]); (try simp only [List.getElem_cons_zero]); (try simp only [Act.put]); (try simp only [List.setIfInBounds_toArray]); (try simp only [List.set_cons_succ]); (try simp only [List.set_cons_zero])
  refine wpAnyH_take (i := 1) (v := .agg c_b) rfl (by kernel_rfl) (by kernel_rfl) (by kernel_rfl) (fun _ _ _ h => h) (Or.inl ⟨by rfl, ?_⟩) hH ?_
  · intro w1 hS; (try dsimp only at hS); have s0 := brow hS Q_b; go_simp
  (try simp only [List.getElem_toArray]); (try simp only [List.getElem_cons_succ]); (try simp only [List.getElem_cons_zero]); (try simp only [Act.put]); (try simp only [List.setIfInBounds_toArray]); (try simp only [List.set_cons_succ]); (try simp only [List.set_cons_zero])
  refine wpAnyH_ready (rs := [2]) (by kernel_rfl) (by simp) (AllReadyH.cons rfl (fun K hK => ?_) AllReadyH.nil)
  go_simp
  refine (toGutter_any c_b g_b _ _ HG_b.out (A_b.out.below (bnext HD hH HD.size) (Nat.le_refl _)) (by omega)).mono ?_
  rintro x wx ⟨u_t, rfl, l_t, bx⟩
  go_simp
  refine hK.out _ _ (bnext hH bx hH.size) (fun hG => ?_)
  clear hK K hH bx
  replace hH := hG
  clear hG
  (try simp only [List.getElem_toArray]); (try simp only [List.getElem_cons_succ]); (try simp only [List.getElem_cons_zero]); (try simp only [Act.put]); (try simp only [List.setIfInBounds_toArray]); (try simp only [List.set_cons_succ]); (try simp only [List.set_cons_zero])
  refine wpAnyH_ready (rs := [3]) (by kernel_rfl) (by simp) (AllReadyH.cons rfl (fun K hK => ?_) AllReadyH.nil)
  go_simp
  refine (eqGutter_same _ _ g_b _ _ _ _ _ is_x_b.out (HG_b.out.setP' u_t g_b.m) (XD.out.below hH (Nat.le_refl _)).list l_t (by omega)).mono ?_
  rintro x wx ⟨rfl, bx⟩
  go_simp
  refine hK.out _ _ (bnext hH bx hH.size) (fun hG => ?_)
  clear hK K hH bx
  replace hH := hG
  clear hG
  (try simp only [List.getElem_toArray]); (try simp only [List.getElem_cons_succ]); (try simp only [List.getElem_cons_zero]); (try simp only [Act.put]); (try simp only [List.setIfInBounds_toArray]); (try simp only [List.set_cons_succ]); (try simp only [List.set_cons_zero])
  refine wpAnyH_take (i := 4) (v := .bool false) rfl (by kernel_rfl) (by kernel_rfl) (by kernel_rfl) (fun _ _ _ h => h) (Or.inl ⟨by rfl, ?_⟩) hH ?_
  · intro w1 hS; (try dsimp only at hS); go_simp
  (try simp only [List.getElem_toArray]); (try simp only [List.getElem_cons_succ]); (try simp only [List.getElem_cons_zero]); (try simp only [Act.put]); (try simp only [List.setIfInBounds_toArray]); (try simp only [List.set_cons_succ]); (try simp only [List.set_cons_zero])
  refine wpAnyH_done (by kernel_rfl) ?_ _
  have b10 := bD.trans (hH.mono bD.size)
  clear hH bD HD XD l_t Q_x Q_b
  have H10 := Lib.hid (bnext H9.out b10 H9.out.size)
  have x_a_10 := Lib.hid (x_a_9.out.below b10 (Nat.le_refl _))
  have x_b_10 := Lib.hid (x_b_9.out.below b10 (Nat.le_refl _))
  have Rx_a_10 := brow b10 Rx_a_9
  have Rx_b_10 := brow b10 Rx_b_9
  clear b10 H9 x_a_9 x_b_9 Rx_a_9 Rx_b_9
  clear q9_a n9_a l9_a q9_b n9_b l9_b n9_Rx_a l9_Rx_a n9_Rx_b l9_Rx_b
  have q10_a := brow H10.out q0_a
  have n10_a := Nat.ne_of_lt (rowAt_lt (brow H10.out q0_a))
  have l10_a := rowAt_lt (brow H10.out q0_a)
  have q10_b := brow H10.out q0_b
  have n10_b := Nat.ne_of_lt (rowAt_lt (brow H10.out q0_b))
  have l10_b := rowAt_lt (brow H10.out q0_b)
  have n10_Rx_a := Nat.ne_of_lt (rowAt_lt Rx_a_10)
  have l10_Rx_a := rowAt_lt Rx_a_10
  have n10_Rx_b := Nat.ne_of_lt (rowAt_lt Rx_b_10)
  have l10_Rx_b := rowAt_lt Rx_b_10
  go_wp2_with fail
  go_ret
  exact ⟨rfl, PB0.out.trans (H10.out.mono PB0.out.size)⟩

namespace LFnExactSameGutter
open Go.RowKit Go.ChangeShapes Go.WideShapes Go.ChangeAt
theorem own : ownKnob Try.prog.godebug = none := by kernel_rfl
theorem laidOut : laidOutB Try.prog = true := by kernel_rfl
set_option maxRecDepth 100000 in
theorem lifted (os : Os) (started : os.Started) (H : Type) (enc : TypeId × Value → H) :
    ReturnsInHanded {} Try.checked os 4 .any (Rows.fnExactSameGutterSpec.pre6 enc Try.prog Try.f4 Rows.fnExactSameGutterRow.domain false) (Rows.fnExactSameGutterSpec.post enc Try.prog Try.f4 false true false false) := by
  refine returnsInHanded_of_change (C := Try.checked) own started (by kernel_rfl) Try.func4
    (ChangeSpec.witness6 (enc := enc) (C := Try.checked) false ⟨#[], #[.agg (#[.int .i8 0, .int .i16 0] ++ Array.replicate 17 (.int .i8 0) ++ #[.int .u32 0, .slice none 0 0]), .agg (#[.int .i8 0, .int .i16 0] ++ Array.replicate 17 (.int .i8 0) ++ #[.int .u32 0, .slice none 0 0])], []⟩ 8 (by kernel_rfl) (by kernel_rfl) (by kernel_rfl) (by kernel_rfl)) ?_
  intro W base args ds gs before hval0 hW hcnd _
  have hval : ∀ (j : Nat) t v, Try.f4.params[j]? = some t → args[j]? = some v → Value.okWide Try.prog W .any base t v := hval0
  have hW' := hW
  obtain ⟨p, q, hA0, hV, rfl, hfz, hnd⟩ := hW
  have hA : DataW.TrodAll enc Try.prog W 0 (fun _ => true) true Try.f4.params.toList args.toList ds p := hA0
  rw [Try.params4] at hA hval
  obtain ⟨v0, vs0, d0, ds0, p0, q0, hargs, rfl, rfl, h0, r0⟩ := trodAll_cons hA
  obtain ⟨v1, vs1, d1, ds1, p1, q1, rfl, rfl, rfl, h1, r1⟩ := trodAll_cons r0
  obtain ⟨rfl, rfl, rfl⟩ := trodAll_nil r1
  obtain rfl : args = #[v0, v1] := by cases args; simp_all
  obtain ⟨rfl, rfl⟩ := trodVars_none hV
  have k0 := h0
  have lt0 : ∀ x ∈ p0, x.block < W.heap.size := by obtain ⟨m, hm⟩ := k0; exact DataW.trod_lt m _ _ _ hm
  have k1 := h1
  have lt1 : ∀ x ∈ p1, x.block < W.heap.size := by obtain ⟨m, hm⟩ := k1; exact DataW.trod_lt m _ _ _ hm
  obtain ⟨c0, f0, u0, rfl, wf0, hL0, hm0⟩ := open_gut (hval 0 28 v0 rfl rfl) h0
  obtain ⟨c1, f1, u1, rfl, wf1, hL1, hm1⟩ := open_gut (hval 1 28 v1 rfl rfl) h1
  clear hA0 hval0
  refine (law_walk_FnExactSameGutter wf0 hL0 hm0 wf1 hL1 hm1).mono fun e W' ⟨he, bel⟩ => ?_
  subst he
  exact ⟨_, rfl, _, _, _, [], _, [], hW', trodAll_mk1 (shut_bool Try.underlying4 _), (trodAll_cons_mk (Below.trod laidOut (by kernel_rfl) (of_decide_eq_true (by kernel_rfl)) k0 bel lt0) (trodAll_cons_mk (Below.trod laidOut (by kernel_rfl) (of_decide_eq_true (by kernel_rfl)) k1 bel lt1) trodAll_mk0)), rfl, bel.frame _, fun h => by cases h⟩

theorem over : Rows.fnExactSameGutterRow.holds Try.pinned (OpenSpec.ofChange Rows.fnExactSameGutterSpec) :=
  OpenClaim.holds_of_wide 4 Try.f4 rfl rfl rfl rfl rfl rfl rfl ⟨rfl, rfl, rfl, rfl, rfl⟩ rfl rfl rfl rfl rfl (by kernel_rfl) Try.func4 (by kernel_rfl)
    (of_decide_eq_true (by kernel_rfl)) (by unfold Func.isWrapper; first | (rw [if_pos (by decide +kernel)]; kernel_rfl) | (rw [if_neg (by decide +kernel)]; exact ⟨rfl, rfl⟩))
    (fun os started H enc _ => lifted os started H enc)

theorem proved : Rows.FnExactSameGutterSaid := over
end LFnExactSameGutter


end Go.Proofs.Ytlkmdoccnbnacaa
