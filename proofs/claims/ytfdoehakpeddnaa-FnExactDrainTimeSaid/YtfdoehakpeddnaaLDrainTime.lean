/- laws.FnExactDrainTime returns true for every gutter, water, and leaves them as they were. No condition. -/
import Derived.Test.YtfdoehakpeddnaaGutG
import Derived.Test.YtfdoehakpeddnaaWat
import Derived.Test.YtfdoehakpeddnaaNums
import Derived.Test.YtfdoehakpeddnaaLeav
import Derived.Test.YtfdoehakpeddnaaDra
import Derived.Deep.RegionHeld3
namespace Go.Proofs.Ytfdoehakpeddnaa
open Go.RowKit

set_option maxRecDepth 100000 in
set_option maxHeartbeats 4000000 in
theorem law_walk_FnExactDrainTime {w : World} {c_g : Array Value} {g_g : Gt} {v_g : Value} (hG_g : IsGut c_g g_g v_g) (hv_g : ArgPp w v_g g_g.m g_g.p) (hm_g : g_g.m ≤ maxLen) {d_w : Array Value} {t_w : Nat → Int} (hW_w : IsWat d_w t_w) :
    Calls Try.prog 6 #[.agg c_g, .agg d_w] w fun e w' => e = .returned (.bool true) ∧ Below w.heap.size w w' := by
  have PB0 := Lib.hid (show Below w.heap.size w ((w.alloc (.cells c_g 28)).alloc (.cells d_w 29)) from ((Below.refl w.heap.size w).alloc (Nat.le_refl _) _).alloc (by simp) _)
  have q0_g : rowAt ((w.alloc (.cells c_g 28)).alloc (.cells d_w 29)) (w.heap.size) = some c_g := (rowAt_alloc_past _ _ _ (by simp)).trans (rowAt_alloc_at w c_g 28 (w.heap.size) (by simp))
  have q0_w : rowAt ((w.alloc (.cells c_g 28)).alloc (.cells d_w 29)) (w.heap.size + 1) = some d_w := rowAt_alloc_at (w.alloc (.cells c_g 28)) d_w 29 (w.heap.size + 1) (by simp)
  have A_g := Lib.hid (hv_g.below PB0.out (Nat.le_refl _))
  have HG_g := Lib.hid hG_g
  have zs_g := hG_g.size
  obtain ⟨av_g, cv_g, rfl⟩ := hv_g.shape
  have HW_w := Lib.hid hW_w
  have zs_w := hW_w.size
  have zo_w := hW_w.ones
  clear hv_g hG_g hW_w
  obtain ⟨X0, hX0⟩ : ∃ X : Int, X = if (g_g.m : Int) ≤ 1048576 then (1048576 : Int) - g_g.m else (-1 : Int) := ⟨_, rfl⟩
  have HX0 := Lib.hid hX0
  by_cases hl_g : (g_g.m : Int) ≤ (1048576 : Int)
  rotate_left
  · have hx0 : decide (X0 < 0) = true := by rw [HX0.out, if_neg hl_g]; rfl
    clear hX0
    go_enter Try.func6, Try.ntmps6
    go_wp2_with fail
    refine gen_callsW fun W0 hW => ?_
    rw [← hW] at q0_g q0_w PB0 A_g
    clear hW
    have H0 := Lib.hid (Below.refl W0.heap.size W0)
    refine (szGutter_any _ c_g g_g _ _ HG_g.out (A_g.out.below H0.out (Nat.le_refl _)) ⟨by omega, by omega⟩ hm_g X0 HX0.out).mono ?_
    rintro e w1 ⟨rfl, b1⟩
    have H1 := Lib.hid (bnext H0.out b1 H0.out.size)
    clear b1 H0
    have q1_g := brow H1.out q0_g
    have n1_g := Nat.ne_of_lt (rowAt_lt (brow H1.out q0_g))
    have l1_g := rowAt_lt (brow H1.out q0_g)
    have q1_w := brow H1.out q0_w
    have n1_w := Nat.ne_of_lt (rowAt_lt (brow H1.out q0_w))
    have l1_w := rowAt_lt (brow H1.out q0_w)
    go_wp2_with fail
    go_ret
    exact ⟨rfl, PB0.out.trans (H1.out.mono PB0.out.size)⟩
  rw [if_pos hl_g] at hX0
  have hXb0 : 0 ≤ X0 ∧ X0 ≤ 1048576 := by omega
  have hx0 : decide (X0 < 0) = false := by simp; omega
  have hm1_g : g_g.m ≤ 1048576 := by omega
  clear hX0
  have CS := fun (W : World) (B_g : Nat) (U_g : Option Addr) (Y_g : Array Value) (I_g : IsGut Y_g g_g (.slice U_g g_g.m g_g.m)) (H_g : IsList W B_g (.slice U_g g_g.m g_g.m) 2 g_g.m (pipeV g_g.p)) => specDrainTime_any B_g Y_g g_g (.slice U_g g_g.m g_g.m) d_w t_w W I_g H_g (by omega) HW_w.out
  have CI := fun (W : World) (B_g : Nat) (U_g : Option Addr) (Y_g : Array Value) (I_g : IsGut Y_g g_g (.slice U_g g_g.m g_g.m)) (H_g : IsList W B_g (.slice U_g g_g.m g_g.m) 2 g_g.m (pipeV g_g.p)) => implDrainTime_any B_g Y_g g_g (.slice U_g g_g.m g_g.m) d_w t_w W I_g H_g (by omega) HW_w.out
  have hne0 : ((g_g.draV t_w) != (g_g.draV t_w)) = false := by simp
  generalize (g_g.draV t_w) = x0 at *
  have hne1 : ((g_g.draC t_w) != (g_g.draC t_w)) = false := by simp
  generalize (g_g.draC t_w) = x1 at *
  go_enter Try.func6, Try.ntmps6
  go_wp2_with fail
  refine gen_callsW fun W0 hW => ?_
  rw [← hW] at q0_g q0_w PB0 A_g
  clear hW
  have H0 := Lib.hid (Below.refl W0.heap.size W0)
  refine (szGutter_any _ c_g g_g _ _ HG_g.out (A_g.out.below H0.out (Nat.le_refl _)) ⟨by omega, by omega⟩ hm_g X0 HX0.out).mono ?_
  rintro e w1 ⟨rfl, b1⟩
  have H1 := Lib.hid (bnext H0.out b1 H0.out.size)
  clear b1 H0
  have q1_g := brow H1.out q0_g
  have n1_g := Nat.ne_of_lt (rowAt_lt (brow H1.out q0_g))
  have l1_g := rowAt_lt (brow H1.out q0_g)
  have q1_w := brow H1.out q0_w
  have n1_w := Nat.ne_of_lt (rowAt_lt (brow H1.out q0_w))
  have l1_w := rowAt_lt (brow H1.out q0_w)
  go_wp2_with fail
  refine gen_world fun wD hD => ?_
  have bD := below_of_eqG hD
  clear hD
  have HD := bnext H1.out bD H1.out.size
  have Q_g := brow HD q0_g
  have Q_w := brow HD q0_w
  refine wp_region_held_drew (S := fun w' => Below wD.heap.size wD w') (by kernel_rfl) ((Below.refl _ _).drew) (fun hH => ?_)
  refine wpAnyH_take (i := 0) (v := .agg c_g) rfl (by kernel_rfl) (by kernel_rfl) (by kernel_rfl) (fun _ _ _ h => h) (Or.inl ⟨by rfl, ?_⟩) hH ?_
  · intro w1 hS; (try dsimp only at hS); have s0 := brow hS Q_g; go_simp
  (try simp only [List.getElem_toArray]); (try simp only [List.getElem_cons_succ]); (try simp only [List.getElem_cons_zero]); (try simp only [Act.put]); (try simp only [List.setIfInBounds_toArray]); (try simp only [List.set_cons_succ]); (try simp only [List.set_cons_zero])
  refine wpAnyH_take (i := 2) (v := .agg d_w) rfl (by kernel_rfl) (by kernel_rfl) (by kernel_rfl) (fun _ _ _ h => h) (Or.inl ⟨by rfl, ?_⟩) hH ?_
  · intro w1 hS; (try dsimp only at hS); have s0 := brow hS Q_w; go_simp
  (try simp only [List.getElem_toArray]); (try simp only [List.getElem_cons_succ]); (try simp only [List.getElem_cons_zero]); (try simp only [Act.put]); (try simp only [List.setIfInBounds_toArray]); (try simp only [List.set_cons_succ]); (try simp only [List.set_cons_zero])
  refine wpAnyH_ready (rs := [1]) (by kernel_rfl) (by simp) (AllReadyH.cons rfl (fun K hK => ?_) AllReadyH.nil)
  go_simp
  refine (toGutter_any c_g g_g _ _ HG_g.out (A_g.out.below (bnext HD hH HD.size) (Nat.le_refl _)) (by omega)).mono ?_
  rintro x wx ⟨u0, rfl, l0, bx⟩
  go_simp
  refine hK.out _ _ (bnext hH bx hH.size) (fun hG => ?_)
  clear hK K hH bx
  replace hH := hG
  clear hG
  (try simp only [List.getElem_toArray]); (try simp only [List.getElem_cons_succ]); (try simp only [List.getElem_cons_zero]); (try simp only [Act.put]); (try simp only [List.setIfInBounds_toArray]); (try simp only [List.set_cons_succ]); (try simp only [List.set_cons_zero])
  refine wpAnyH_ready (rs := [3]) (by kernel_rfl) (by simp) (AllReadyH.cons rfl (fun K hK => ?_) AllReadyH.nil)
  go_simp
  refine (toWater_any d_w t_w _ HW_w.out).mono ?_
  rintro x wx ⟨rfl, bx⟩
  have l0 := l0.below bx (Nat.le_refl _)
  go_simp
  refine hK.out _ _ (bnext hH bx hH.size) (fun hG => ?_)
  clear hK K hH bx
  replace hH := hG
  clear hG
  (try simp only [List.getElem_toArray]); (try simp only [List.getElem_cons_succ]); (try simp only [List.getElem_cons_zero]); (try simp only [Act.put]); (try simp only [List.setIfInBounds_toArray]); (try simp only [List.set_cons_succ]); (try simp only [List.set_cons_zero])
  refine wpAnyH_ready (rs := [4]) (by kernel_rfl) (by simp) (AllReadyH.cons rfl (fun K hK => ?_) AllReadyH.nil)
  go_simp
  refine (CS _ _ _ _ (HG_g.out.setP' u0 g_g.m) l0).mono ?_
  rintro x wx ⟨rfl, bx⟩
  go_simp
  refine hK.out _ _ (bnext hH bx hH.size) (fun hG => ?_)
  clear hK K hH bx
  replace hH := hG
  clear hG
  (try simp only [List.getElem_toArray]); (try simp only [List.getElem_cons_succ]); (try simp only [List.getElem_cons_zero]); (try simp only [Act.put]); (try simp only [List.setIfInBounds_toArray]); (try simp only [List.set_cons_succ]); (try simp only [List.set_cons_zero])
  refine wpAnyH_take (i := 5) (v := (.tuple #[.int .i64 x0, .int .i64 x1])) rfl (by kernel_rfl) (by kernel_rfl) (by kernel_rfl) (fun _ _ _ h => h) (Or.inl ⟨by rfl, ?_⟩) hH ?_
  · intro w1 hS; (try dsimp only at hS); go_simp
  (try simp only [List.getElem_toArray]); (try simp only [List.getElem_cons_succ]); (try simp only [List.getElem_cons_zero]); (try simp only [Act.put]); (try simp only [List.setIfInBounds_toArray]); (try simp only [List.set_cons_succ]); (try simp only [List.set_cons_zero])
  refine wpAnyH_take (i := 6) (v := .int .i64 x0) rfl (by kernel_rfl) (by kernel_rfl) (by kernel_rfl) (fun _ _ _ h => h) (Or.inl ⟨by rfl, ?_⟩) hH ?_
  · intro w1 hS; (try dsimp only at hS); go_simp
  (try simp only [List.getElem_toArray]); (try simp only [List.getElem_cons_succ]); (try simp only [List.getElem_cons_zero]); (try simp only [Act.put]); (try simp only [List.setIfInBounds_toArray]); (try simp only [List.set_cons_succ]); (try simp only [List.set_cons_zero])
  refine wpAnyH_take (i := 7) (v := .int .i64 x1) rfl (by kernel_rfl) (by kernel_rfl) (by kernel_rfl) (fun _ _ _ h => h) (Or.inl ⟨by rfl, ?_⟩) hH ?_
  · intro w1 hS; (try dsimp only at hS); go_simp
  (try simp only [List.getElem_toArray]); (try simp only [List.getElem_cons_succ]); (try simp only [List.getElem_cons_zero]); (try simp only [Act.put]); (try simp only [List.setIfInBounds_toArray]); (try simp only [List.set_cons_succ]); (try simp only [List.set_cons_zero])
  refine wpAnyH_take (i := 8) (v := .int .i64 x0) rfl (by kernel_rfl) (by kernel_rfl) (by kernel_rfl) (fun _ _ _ h => h) (Or.inl ⟨by rfl, ?_⟩) hH ?_
  · intro w1 hS; (try dsimp only at hS); go_simp
  (try simp only [List.getElem_toArray]); (try simp only [List.getElem_cons_succ]); (try simp only [List.getElem_cons_zero]); (try simp only [Act.put]); (try simp only [List.setIfInBounds_toArray]); (try simp only [List.set_cons_succ]); (try simp only [List.set_cons_zero])
  refine wpAnyH_take (i := 9) (v := .int .i64 x1) rfl (by kernel_rfl) (by kernel_rfl) (by kernel_rfl) (fun _ _ _ h => h) (Or.inl ⟨by rfl, ?_⟩) hH ?_
  · intro w1 hS; (try dsimp only at hS); go_simp
  (try simp only [List.getElem_toArray]); (try simp only [List.getElem_cons_succ]); (try simp only [List.getElem_cons_zero]); (try simp only [Act.put]); (try simp only [List.setIfInBounds_toArray]); (try simp only [List.set_cons_succ]); (try simp only [List.set_cons_zero])
  refine wpAnyH_done (by kernel_rfl) ?_ _
  have b2 := bD.trans (hH.mono bD.size)
  clear hH bD HD Q_g Q_w l0
  have H2 := Lib.hid (bnext H1.out b2 H1.out.size)
  clear b2 H1
  clear q1_g n1_g l1_g q1_w n1_w l1_w
  have q2_g := brow H2.out q0_g
  have n2_g := Nat.ne_of_lt (rowAt_lt (brow H2.out q0_g))
  have l2_g := rowAt_lt (brow H2.out q0_g)
  have q2_w := brow H2.out q0_w
  have n2_w := Nat.ne_of_lt (rowAt_lt (brow H2.out q0_w))
  have l2_w := rowAt_lt (brow H2.out q0_w)
  go_wp2_with fail
  refine (toGutter_any c_g g_g _ _ HG_g.out (A_g.out.below H2.out (Nat.le_refl _)) (by omega)).mono ?_
  rintro e w3 ⟨u_x_g, rfl, l_x_g, b3⟩
  have H3 := Lib.hid (bnext H2.out b3 H2.out.size)
  obtain ⟨g_x_g, hg_x_g, k_x_g⟩ := l_x_g.ls
  have g0_x_g : W0.heap.size ≤ g_x_g := Nat.le_trans H2.out.size hg_x_g
  have x_g_3 := Lib.hid k_x_g
  clear l_x_g k_x_g hg_x_g
  clear b3 H2
  clear q2_g n2_g l2_g q2_w n2_w l2_w
  have q3_g := brow H3.out q0_g
  have n3_g := Nat.ne_of_lt (rowAt_lt (brow H3.out q0_g))
  have l3_g := rowAt_lt (brow H3.out q0_g)
  have q3_w := brow H3.out q0_w
  have n3_w := Nat.ne_of_lt (rowAt_lt (brow H3.out q0_w))
  have l3_w := rowAt_lt (brow H3.out q0_w)
  have is_x_g := Lib.hid (HG_g.out.setP' u_x_g g_g.m)
  obtain ⟨X_x_g, hX_x_g⟩ : ∃ X, setP c_g (.slice u_x_g g_g.m g_g.m) = X := ⟨_, rfl⟩
  rw [hX_x_g] at is_x_g ⊢
  clear hX_x_g
  have zs_x_g := is_x_g.out.size
  have zo_x_g := is_x_g.out.ones
  have zk_x_g := is_x_g.out.pipes
  go_wp2_with fail
  have ne_x_g_Rx_g : g_g.m = 0 ∨ g_x_g ≠ w3.heap.size := x_g_3.out.lt.imp id Nat.ne_of_lt
  refine gen_world fun w4 hV => ?_
  have b4 : Below w3.heap.size w3 w4 := by rw [hV]; exact (Below.refl _ _).alloc (Nat.le_refl _) _
  have Rx_g_4 : rowAt w4 w3.heap.size = some X_x_g := by rw [hV]; exact rowAt_alloc_at _ _ _ _ (by simp)
  clear hV
  have H4 := Lib.hid (bnext H3.out b4 H3.out.size)
  have x_g_4 := Lib.hid (x_g_3.out.below b4 (Nat.le_refl _))
  clear b4 H3 x_g_3
  clear q3_g n3_g l3_g q3_w n3_w l3_w
  have q4_g := brow H4.out q0_g
  have n4_g := Nat.ne_of_lt (rowAt_lt (brow H4.out q0_g))
  have l4_g := rowAt_lt (brow H4.out q0_g)
  have q4_w := brow H4.out q0_w
  have n4_w := Nat.ne_of_lt (rowAt_lt (brow H4.out q0_w))
  have l4_w := rowAt_lt (brow H4.out q0_w)
  refine gen_world fun wD hD => ?_
  have bD := below_of_eqG hD
  clear hD
  have HD := bnext H4.out bD H4.out.size
  have Q_g := brow HD q0_g
  have Q_w := brow HD q0_w
  have Qx_g := brow bD Rx_g_4
  have XD_g := Lib.hid (x_g_4.out.below bD (Nat.le_refl _))
  refine wp_region_held_drew (S := fun w' => Below wD.heap.size wD w') (by kernel_rfl) ((Below.refl _ _).drew) (fun hH => ?_)
  refine wpAnyH_take (i := 0) (v := .agg X_x_g) rfl (by kernel_rfl) (by kernel_rfl) (by kernel_rfl) (fun _ _ _ h => h) (Or.inl ⟨by rfl, ?_⟩) hH ?_
  · intro w1 hS; (try dsimp only at hS); have s0 := brow hS Qx_g; go_simp
  (try simp only [List.getElem_toArray]); (try simp only [List.getElem_cons_succ]); (try simp only [List.getElem_cons_zero]); (try simp only [Act.put]); (try simp only [List.setIfInBounds_toArray]); (try simp only [List.set_cons_succ]); (try simp only [List.set_cons_zero])
  refine wpAnyH_take (i := 1) (v := .agg d_w) rfl (by kernel_rfl) (by kernel_rfl) (by kernel_rfl) (fun _ _ _ h => h) (Or.inl ⟨by rfl, ?_⟩) hH ?_
  · intro w1 hS; (try dsimp only at hS); have s0 := brow hS Q_w; go_simp
  (try simp only [List.getElem_toArray]); (try simp only [List.getElem_cons_succ]); (try simp only [List.getElem_cons_zero]); (try simp only [Act.put]); (try simp only [List.setIfInBounds_toArray]); (try simp only [List.set_cons_succ]); (try simp only [List.set_cons_zero])
  refine wpAnyH_ready (rs := [2]) (by kernel_rfl) (by simp) (AllReadyH.cons rfl (fun K hK => ?_) AllReadyH.nil)
  go_simp
  refine (toWater_any d_w t_w _ HW_w.out).mono ?_
  rintro x wx ⟨rfl, bx⟩
  go_simp
  refine hK.out _ _ (bnext hH bx hH.size) (fun hG => ?_)
  clear hK K hH bx
  replace hH := hG
  clear hG
  (try simp only [List.getElem_toArray]); (try simp only [List.getElem_cons_succ]); (try simp only [List.getElem_cons_zero]); (try simp only [Act.put]); (try simp only [List.setIfInBounds_toArray]); (try simp only [List.set_cons_succ]); (try simp only [List.set_cons_zero])
  refine wpAnyH_ready (rs := [3]) (by kernel_rfl) (by simp) (AllReadyH.cons rfl (fun K hK => ?_) AllReadyH.nil)
  go_simp
  refine (CI _ _ _ _ is_x_g.out (XD_g.out.below hH (Nat.le_refl _)).list).mono ?_
  rintro x wx ⟨rfl, bx⟩
  go_simp
  refine hK.out _ _ (bnext hH bx hH.size) (fun hG => ?_)
  clear hK K hH bx
  replace hH := hG
  clear hG
  (try simp only [List.getElem_toArray]); (try simp only [List.getElem_cons_succ]); (try simp only [List.getElem_cons_zero]); (try simp only [Act.put]); (try simp only [List.setIfInBounds_toArray]); (try simp only [List.set_cons_succ]); (try simp only [List.set_cons_zero])
  refine wpAnyH_take (i := 4) (v := (.tuple #[.int .i64 x0, .int .i64 x1])) rfl (by kernel_rfl) (by kernel_rfl) (by kernel_rfl) (fun _ _ _ h => h) (Or.inl ⟨by rfl, ?_⟩) hH ?_
  · intro w1 hS; (try dsimp only at hS); go_simp
  (try simp only [List.getElem_toArray]); (try simp only [List.getElem_cons_succ]); (try simp only [List.getElem_cons_zero]); (try simp only [Act.put]); (try simp only [List.setIfInBounds_toArray]); (try simp only [List.set_cons_succ]); (try simp only [List.set_cons_zero])
  refine wpAnyH_take (i := 5) (v := .int .i64 x0) rfl (by kernel_rfl) (by kernel_rfl) (by kernel_rfl) (fun _ _ _ h => h) (Or.inl ⟨by rfl, ?_⟩) hH ?_
  · intro w1 hS; (try dsimp only at hS); go_simp
  (try simp only [List.getElem_toArray]); (try simp only [List.getElem_cons_succ]); (try simp only [List.getElem_cons_zero]); (try simp only [Act.put]); (try simp only [List.setIfInBounds_toArray]); (try simp only [List.set_cons_succ]); (try simp only [List.set_cons_zero])
  refine wpAnyH_take (i := 6) (v := .int .i64 x1) rfl (by kernel_rfl) (by kernel_rfl) (by kernel_rfl) (fun _ _ _ h => h) (Or.inl ⟨by rfl, ?_⟩) hH ?_
  · intro w1 hS; (try dsimp only at hS); go_simp
  (try simp only [List.getElem_toArray]); (try simp only [List.getElem_cons_succ]); (try simp only [List.getElem_cons_zero]); (try simp only [Act.put]); (try simp only [List.setIfInBounds_toArray]); (try simp only [List.set_cons_succ]); (try simp only [List.set_cons_zero])
  refine wpAnyH_take (i := 7) (v := .int .i64 x0) rfl (by kernel_rfl) (by kernel_rfl) (by kernel_rfl) (fun _ _ _ h => h) (Or.inl ⟨by rfl, ?_⟩) hH ?_
  · intro w1 hS; (try dsimp only at hS); go_simp
  (try simp only [List.getElem_toArray]); (try simp only [List.getElem_cons_succ]); (try simp only [List.getElem_cons_zero]); (try simp only [Act.put]); (try simp only [List.setIfInBounds_toArray]); (try simp only [List.set_cons_succ]); (try simp only [List.set_cons_zero])
  refine wpAnyH_take (i := 8) (v := .int .i64 x1) rfl (by kernel_rfl) (by kernel_rfl) (by kernel_rfl) (fun _ _ _ h => h) (Or.inl ⟨by rfl, ?_⟩) hH ?_
  · intro w1 hS; (try dsimp only at hS); go_simp
  (try simp only [List.getElem_toArray]); (try simp only [List.getElem_cons_succ]); (try simp only [List.getElem_cons_zero]); (try simp only [Act.put]); (try simp only [List.setIfInBounds_toArray]); (try simp only [List.set_cons_succ]); (try simp only [List.set_cons_zero])
  refine wpAnyH_done (by kernel_rfl) ?_ _
  have b5 := bD.trans (hH.mono bD.size)
  clear hH bD HD Q_g Q_w Qx_g XD_g
  have H5 := Lib.hid (bnext H4.out b5 H4.out.size)
  have x_g_5 := Lib.hid (x_g_4.out.below b5 (Nat.le_refl _))
  have Rx_g_5 := brow b5 Rx_g_4
  clear b5 H4 x_g_4 Rx_g_4
  clear q4_g n4_g l4_g q4_w n4_w l4_w
  have q5_g := brow H5.out q0_g
  have n5_g := Nat.ne_of_lt (rowAt_lt (brow H5.out q0_g))
  have l5_g := rowAt_lt (brow H5.out q0_g)
  have q5_w := brow H5.out q0_w
  have n5_w := Nat.ne_of_lt (rowAt_lt (brow H5.out q0_w))
  have l5_w := rowAt_lt (brow H5.out q0_w)
  have n5_Rx_g := Nat.ne_of_lt (rowAt_lt Rx_g_5)
  have l5_Rx_g := rowAt_lt Rx_g_5
  go_wp2_with fail
  refine gen_world fun wD hD => ?_
  have bD := below_of_eqG hD
  clear hD
  have Q_x := brow bD Rx_g_5
  have XD := Lib.hid (x_g_5.out.below bD (Nat.le_refl _))
  have HD := bnext H5.out bD H5.out.size
  have Q_g := brow HD q0_g
  refine wp_region_held_drew (S := fun w' => Below wD.heap.size wD w') (by kernel_rfl) ((Below.refl _ _).drew) (fun hH => ?_)
  refine wpAnyH_take (i := 0) (v := .agg X_x_g) rfl (by kernel_rfl) (by kernel_rfl) (by kernel_rfl) (fun _ _ _ h => h) (Or.inl ⟨by rfl, ?_⟩) hH ?_
  · intro w1 hS; (try dsimp only at hS); have s0 := brow hS Q_x; go_simp
  (try simp only [List.getElem_toArray]); (try simp only [List.getElem_cons_succ]); (try simp only [List.getElem_cons_zero]); (try simp only [Act.put]); (try simp only [List.setIfInBounds_toArray]); (try simp only [List.set_cons_succ]); (try simp only [List.set_cons_zero])
  refine wpAnyH_take (i := 1) (v := .agg c_g) rfl (by kernel_rfl) (by kernel_rfl) (by kernel_rfl) (fun _ _ _ h => h) (Or.inl ⟨by rfl, ?_⟩) hH ?_
  · intro w1 hS; (try dsimp only at hS); have s0 := brow hS Q_g; go_simp
  (try simp only [List.getElem_toArray]); (try simp only [List.getElem_cons_succ]); (try simp only [List.getElem_cons_zero]); (try simp only [Act.put]); (try simp only [List.setIfInBounds_toArray]); (try simp only [List.set_cons_succ]); (try simp only [List.set_cons_zero])
  refine wpAnyH_ready (rs := [2]) (by kernel_rfl) (by simp) (AllReadyH.cons rfl (fun K hK => ?_) AllReadyH.nil)
  go_simp
  refine (toGutter_any c_g g_g _ _ HG_g.out (A_g.out.below (bnext HD hH HD.size) (Nat.le_refl _)) (by omega)).mono ?_
  rintro x wx ⟨u_t, rfl, l_t, bx⟩
  go_simp
  refine hK.out _ _ (bnext hH bx hH.size) (fun hG => ?_)
  clear hK K hH bx
  replace hH := hG
  clear hG
  (try simp only [List.getElem_toArray]); (try simp only [List.getElem_cons_succ]); (try simp only [List.getElem_cons_zero]); (try simp only [Act.put]); (try simp only [List.setIfInBounds_toArray]); (try simp only [List.set_cons_succ]); (try simp only [List.set_cons_zero])
  refine wpAnyH_ready (rs := [3]) (by kernel_rfl) (by simp) (AllReadyH.cons rfl (fun K hK => ?_) AllReadyH.nil)
  go_simp
  refine (eqGutter_same _ _ g_g _ _ _ _ _ is_x_g.out (HG_g.out.setP' u_t g_g.m) (XD.out.below hH (Nat.le_refl _)).list l_t (by omega)).mono ?_
  rintro x wx ⟨rfl, bx⟩
  go_simp
  refine hK.out _ _ (bnext hH bx hH.size) (fun hG => ?_)
  clear hK K hH bx
  replace hH := hG
  clear hG
  (try simp only [List.getElem_toArray]); (try simp only [List.getElem_cons_succ]); (try simp only [List.getElem_cons_zero]); (try simp only [Act.put]); (try simp only [List.setIfInBounds_toArray]); (try simp only [List.set_cons_succ]); (try simp only [List.set_cons_zero])
  refine wpAnyH_take (i := 4) (v := .bool false) rfl (by kernel_rfl) (by kernel_rfl) (by kernel_rfl) (fun _ _ _ h => h) (Or.inl ⟨by rfl, ?_⟩) hH ?_
  · intro w1 hS; (try dsimp only at hS); go_simp
  (try simp only [List.getElem_toArray]); (try simp only [List.getElem_cons_succ]); (try simp only [List.getElem_cons_zero]); (try simp only [Act.put]); (try simp only [List.setIfInBounds_toArray]); (try simp only [List.set_cons_succ]); (try simp only [List.set_cons_zero])
  refine wpAnyH_done (by kernel_rfl) ?_ _
  have b6 := bD.trans (hH.mono bD.size)
  clear hH bD HD XD l_t Q_x Q_g
  have H6 := Lib.hid (bnext H5.out b6 H5.out.size)
  have x_g_6 := Lib.hid (x_g_5.out.below b6 (Nat.le_refl _))
  have Rx_g_6 := brow b6 Rx_g_5
  clear b6 H5 x_g_5 Rx_g_5
  clear q5_g n5_g l5_g q5_w n5_w l5_w n5_Rx_g l5_Rx_g
  have q6_g := brow H6.out q0_g
  have n6_g := Nat.ne_of_lt (rowAt_lt (brow H6.out q0_g))
  have l6_g := rowAt_lt (brow H6.out q0_g)
  have q6_w := brow H6.out q0_w
  have n6_w := Nat.ne_of_lt (rowAt_lt (brow H6.out q0_w))
  have l6_w := rowAt_lt (brow H6.out q0_w)
  have n6_Rx_g := Nat.ne_of_lt (rowAt_lt Rx_g_6)
  have l6_Rx_g := rowAt_lt Rx_g_6
  go_wp2_with fail
  go_ret
  exact ⟨rfl, PB0.out.trans (H6.out.mono PB0.out.size)⟩

namespace LFnExactDrainTime
open Go.RowKit Go.ChangeShapes Go.WideShapes Go.ChangeAt
theorem own : ownKnob Try.prog.godebug = none := by kernel_rfl
theorem laidOut : laidOutB Try.prog = true := by kernel_rfl
set_option maxRecDepth 100000 in
theorem lifted (os : Os) (started : os.Started) (H : Type) (enc : TypeId × Value → H) :
    ReturnsInHanded {} Try.checked os 6 .any (Rows.fnExactDrainTimeSpec.pre6 enc Try.prog Try.f6 Rows.fnExactDrainTimeRow.domain false) (Rows.fnExactDrainTimeSpec.post enc Try.prog Try.f6 false true false false) := by
  refine returnsInHanded_of_change (C := Try.checked) own started (by kernel_rfl) Try.func6
    (ChangeSpec.witness6 (enc := enc) (C := Try.checked) false ⟨#[], #[.agg (#[.int .i8 0, .int .i16 0] ++ Array.replicate 17 (.int .i8 0) ++ #[.int .u32 0, .slice none 0 0]), .agg (Array.replicate 17 (.int .i32 0))], []⟩ 8 (by kernel_rfl) (by kernel_rfl) (by kernel_rfl) (by kernel_rfl)) ?_
  intro W base args ds gs before hval0 hW hcnd _
  have hval : ∀ (j : Nat) t v, Try.f6.params[j]? = some t → args[j]? = some v → Value.okWide Try.prog W .any base t v := hval0
  have hW' := hW
  obtain ⟨p, q, hA0, hV, rfl, hfz, hnd⟩ := hW
  have hA : DataW.TrodAll enc Try.prog W 0 (fun _ => true) true Try.f6.params.toList args.toList ds p := hA0
  rw [Try.params6] at hA hval
  obtain ⟨v0, vs0, d0, ds0, p0, q0, hargs, rfl, rfl, h0, r0⟩ := trodAll_cons hA
  obtain ⟨v1, vs1, d1, ds1, p1, q1, rfl, rfl, rfl, h1, r1⟩ := trodAll_cons r0
  obtain ⟨rfl, rfl, rfl⟩ := trodAll_nil r1
  obtain rfl : args = #[v0, v1] := by cases args; simp_all
  obtain ⟨rfl, rfl⟩ := trodVars_none hV
  have k0 := h0
  have lt0 : ∀ x ∈ p0, x.block < W.heap.size := by obtain ⟨m, hm⟩ := k0; exact DataW.trod_lt m _ _ _ hm
  have k1 := h1
  have lt1 : ∀ x ∈ p1, x.block < W.heap.size := by obtain ⟨m, hm⟩ := k1; exact DataW.trod_lt m _ _ _ hm
  obtain ⟨c0, f0, u0, rfl, wf0, hL0, hm0⟩ := open_gut (hval 0 28 v0 rfl rfl) h0
  obtain ⟨c1, f1, rfl, wf1⟩ := open_wat (hval 1 29 v1 rfl rfl) h1
  clear hA0 hval0
  refine (law_walk_FnExactDrainTime wf0 hL0 hm0 wf1).mono fun e W' ⟨he, bel⟩ => ?_
  subst he
  exact ⟨_, rfl, _, _, _, [], _, [], hW', trodAll_mk1 (shut_bool Try.underlying4 _), (trodAll_cons_mk (Below.trod laidOut (by kernel_rfl) (of_decide_eq_true (by kernel_rfl)) k0 bel lt0) (trodAll_cons_mk (Below.trod laidOut (by kernel_rfl) (of_decide_eq_true (by kernel_rfl)) k1 bel lt1) trodAll_mk0)), rfl, bel.frame _, fun h => by cases h⟩

theorem over : Rows.fnExactDrainTimeRow.holds Try.pinned (OpenSpec.ofChange Rows.fnExactDrainTimeSpec) :=
  OpenClaim.holds_of_wide_leaving 6 Try.f6 rfl rfl rfl rfl rfl rfl rfl ⟨rfl, rfl, rfl, rfl, rfl⟩ rfl rfl rfl rfl rfl (by kernel_rfl) Try.func6 (by kernel_rfl)
    (of_decide_eq_true (by kernel_rfl)) (by unfold Func.isWrapper; first | (rw [if_pos (by decide +kernel)]; kernel_rfl) | (rw [if_neg (by decide +kernel)]; exact ⟨rfl, rfl⟩))
    (fun os started H enc _ => leaving_of_handed (lifted os started H enc))

theorem proved : Rows.FnExactDrainTimeSaid := over
end LFnExactDrainTime


end Go.Proofs.Ytfdoehakpeddnaa
