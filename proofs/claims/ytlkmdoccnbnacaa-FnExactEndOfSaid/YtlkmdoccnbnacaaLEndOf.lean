/- laws.FnExactEndOf returns true for every gutter, number, and leaves them as they were. No condition. -/
import Derived.Test.YtlkmdoccnbnacaaGutG
import Derived.Test.YtlkmdoccnbnacaaWat
import Derived.Test.YtlkmdoccnbnacaaNums
import Derived.Test.YtlkmdoccnbnacaaLeav
import Derived.Test.YtlkmdoccnbnacaaEnd6
import Derived.Deep.RegionHeld3
namespace Go.Proofs.Ytlkmdoccnbnacaa
open Go.RowKit

set_option maxRecDepth 100000 in
set_option maxHeartbeats 4000000 in
theorem law_walk_FnExactEndOf {w : World} {c_g : Array Value} {g_g : Gt} {v_g : Value} (hG_g : IsGut c_g g_g v_g) (hv_g : ArgPp w v_g g_g.m g_g.p) (hm_g : g_g.m ≤ maxLen) {y : Int} (_hy : -9223372036854775808 ≤ y ∧ y ≤ 9223372036854775807) :
    Calls Try.prog 7 #[.agg c_g, .int .i64 y] w fun e w' => e = .returned (.bool true) ∧ Below w.heap.size w w' := by
  have PB0 := Lib.hid (show Below w.heap.size w (w.alloc (.cells c_g 28)) from (Below.refl w.heap.size w).alloc (Nat.le_refl _) _)
  have q0_g : rowAt (w.alloc (.cells c_g 28)) (w.heap.size) = some c_g := rowAt_alloc_at w c_g 28 (w.heap.size) (by simp)
  have A_g := Lib.hid (hv_g.below PB0.out (Nat.le_refl _))
  have HG_g := Lib.hid hG_g
  have zs_g := hG_g.size
  obtain ⟨av_g, cv_g, rfl⟩ := hv_g.shape
  clear hv_g hG_g 
  obtain ⟨X0, hX0⟩ : ∃ X : Int, X = if (g_g.m : Int) ≤ 1048576 then (1048576 : Int) - g_g.m else (-1 : Int) := ⟨_, rfl⟩
  have HX0 := Lib.hid hX0
  by_cases hl_g : (g_g.m : Int) ≤ (1048576 : Int)
  rotate_left
  · have hx0 : decide (X0 < 0) = true := by rw [HX0.out, if_neg hl_g]; rfl
    clear hX0
    go_enter Try.func7, Try.ntmps7
    go_wp2_with fail
    refine gen_callsW fun W0 hW => ?_
    rw [← hW] at q0_g PB0 A_g
    clear hW
    have H0 := Lib.hid (Below.refl W0.heap.size W0)
    refine (szGutter_any _ c_g g_g _ _ HG_g.out (A_g.out.below H0.out (Nat.le_refl _)) ⟨by omega, by omega⟩ hm_g X0 HX0.out).mono ?_
    rintro e w1 ⟨rfl, b1⟩
    have H1 := Lib.hid (bnext H0.out b1 H0.out.size)
    clear b1 H0
    have q1_g := brow H1.out q0_g
    have n1_g := Nat.ne_of_lt (rowAt_lt (brow H1.out q0_g))
    have l1_g := rowAt_lt (brow H1.out q0_g)
    go_wp2_with fail
    go_ret
    exact ⟨rfl, PB0.out.trans (H1.out.mono PB0.out.size)⟩
  rw [if_pos hl_g] at hX0
  have hXb0 : 0 ≤ X0 ∧ X0 ≤ 1048576 := by omega
  have hx0 : decide (X0 < 0) = false := by simp; omega
  have hm1_g : g_g.m ≤ 1048576 := by omega
  clear hX0
  have CS := fun (W : World) (B_g : Nat) (U_g : Option Addr) (Y_g : Array Value) (I_g : IsGut Y_g g_g (.slice U_g g_g.m g_g.m)) (H_g : IsList W B_g (.slice U_g g_g.m g_g.m) 2 g_g.m (pipeV g_g.p)) => specEndOf_any B_g Y_g g_g (.slice U_g g_g.m g_g.m) y W I_g H_g (by omega)
  have CI := fun (W : World) (B_g : Nat) (U_g : Option Addr) (Y_g : Array Value) (I_g : IsGut Y_g g_g (.slice U_g g_g.m g_g.m)) (H_g : IsList W B_g (.slice U_g g_g.m g_g.m) 2 g_g.m (pipeV g_g.p)) => implEndOf_any B_g Y_g g_g (.slice U_g g_g.m g_g.m) y W I_g H_g (by omega)
  have hne0 : ((g_g.endV y) != (g_g.endV y)) = false := by simp
  generalize (g_g.endV y) = x0 at *
  have hne1 : ((g_g.ask (inB y 0 (g_g.n - 1))) != (g_g.ask (inB y 0 (g_g.n - 1)))) = false := by simp
  generalize (g_g.ask (inB y 0 (g_g.n - 1))) = x1 at *
  go_enter Try.func7, Try.ntmps7
  go_wp2_with fail
  refine gen_callsW fun W0 hW => ?_
  rw [← hW] at q0_g PB0 A_g
  clear hW
  have H0 := Lib.hid (Below.refl W0.heap.size W0)
  refine (szGutter_any _ c_g g_g _ _ HG_g.out (A_g.out.below H0.out (Nat.le_refl _)) ⟨by omega, by omega⟩ hm_g X0 HX0.out).mono ?_
  rintro e w1 ⟨rfl, b1⟩
  have H1 := Lib.hid (bnext H0.out b1 H0.out.size)
  clear b1 H0
  have q1_g := brow H1.out q0_g
  have n1_g := Nat.ne_of_lt (rowAt_lt (brow H1.out q0_g))
  have l1_g := rowAt_lt (brow H1.out q0_g)
  go_wp2_with fail
  refine (toGutter_any c_g g_g _ _ HG_g.out (A_g.out.below H1.out (Nat.le_refl _)) (by omega)).mono ?_
  rintro e w2 ⟨u_s_g, rfl, l_s_g, b2⟩
  have H2 := Lib.hid (bnext H1.out b2 H1.out.size)
  obtain ⟨g_s_g, hg_s_g, k_s_g⟩ := l_s_g.ls
  have g0_s_g : W0.heap.size ≤ g_s_g := Nat.le_trans H1.out.size hg_s_g
  have s_g_2 := Lib.hid k_s_g
  clear l_s_g k_s_g hg_s_g
  clear b2 H1
  clear q1_g n1_g l1_g
  have q2_g := brow H2.out q0_g
  have n2_g := Nat.ne_of_lt (rowAt_lt (brow H2.out q0_g))
  have l2_g := rowAt_lt (brow H2.out q0_g)
  have is_s_g := Lib.hid (HG_g.out.setP' u_s_g g_g.m)
  obtain ⟨X_s_g, hX_s_g⟩ : ∃ X, setP c_g (.slice u_s_g g_g.m g_g.m) = X := ⟨_, rfl⟩
  rw [hX_s_g] at is_s_g ⊢
  clear hX_s_g
  have zs_s_g := is_s_g.out.size
  have zo_s_g := is_s_g.out.ones
  have zk_s_g := is_s_g.out.pipes
  go_wp2_with fail
  refine (CS _ _ _ _ is_s_g.out s_g_2.out.list).mono ?_
  rintro e w3 ⟨rfl, b3⟩
  have H3 := Lib.hid (bnext H2.out b3 H2.out.size)
  have s_g_3 := Lib.hid (s_g_2.out.below b3 (Nat.le_refl _))
  clear b3 H2 s_g_2
  clear q2_g n2_g l2_g
  have q3_g := brow H3.out q0_g
  have n3_g := Nat.ne_of_lt (rowAt_lt (brow H3.out q0_g))
  have l3_g := rowAt_lt (brow H3.out q0_g)
  go_wp2_with fail
  clear s_g_3
  refine (toGutter_any c_g g_g _ _ HG_g.out (A_g.out.below H3.out (Nat.le_refl _)) (by omega)).mono ?_
  rintro e w4 ⟨u_x_g, rfl, l_x_g, b4⟩
  have H4 := Lib.hid (bnext H3.out b4 H3.out.size)
  obtain ⟨g_x_g, hg_x_g, k_x_g⟩ := l_x_g.ls
  have g0_x_g : W0.heap.size ≤ g_x_g := Nat.le_trans H3.out.size hg_x_g
  have x_g_4 := Lib.hid k_x_g
  clear l_x_g k_x_g hg_x_g
  clear b4 H3
  clear q3_g n3_g l3_g
  have q4_g := brow H4.out q0_g
  have n4_g := Nat.ne_of_lt (rowAt_lt (brow H4.out q0_g))
  have l4_g := rowAt_lt (brow H4.out q0_g)
  have is_x_g := Lib.hid (HG_g.out.setP' u_x_g g_g.m)
  obtain ⟨X_x_g, hX_x_g⟩ : ∃ X, setP c_g (.slice u_x_g g_g.m g_g.m) = X := ⟨_, rfl⟩
  rw [hX_x_g] at is_x_g ⊢
  clear hX_x_g
  have zs_x_g := is_x_g.out.size
  have zo_x_g := is_x_g.out.ones
  have zk_x_g := is_x_g.out.pipes
  go_wp2_with fail
  have ne_x_g_Rx_g : g_g.m = 0 ∨ g_x_g ≠ w4.heap.size := x_g_4.out.lt.imp id Nat.ne_of_lt
  refine gen_callsW fun w5 hV => ?_
  have b5 : Below w4.heap.size w4 w5 := by rw [hV]; exact (Below.refl _ _).alloc (Nat.le_refl _) _
  have Rx_g_5 : rowAt w5 w4.heap.size = some X_x_g := by rw [hV]; exact rowAt_alloc_at _ _ _ _ (by simp)
  clear hV
  have H5 := Lib.hid (bnext H4.out b5 H4.out.size)
  have x_g_5 := Lib.hid (x_g_4.out.below b5 (Nat.le_refl _))
  clear b5 H4 x_g_4
  clear q4_g n4_g l4_g
  have q5_g := brow H5.out q0_g
  have n5_g := Nat.ne_of_lt (rowAt_lt (brow H5.out q0_g))
  have l5_g := rowAt_lt (brow H5.out q0_g)
  refine (CI _ _ _ _ is_x_g.out x_g_5.out.list).mono ?_
  rintro e w6 ⟨rfl, b6⟩
  have H6 := Lib.hid (bnext H5.out b6 H5.out.size)
  have x_g_6 := Lib.hid (x_g_5.out.below b6 (Nat.le_refl _))
  have Rx_g_6 := brow b6 Rx_g_5
  clear b6 H5 x_g_5 Rx_g_5
  clear q5_g n5_g l5_g
  have q6_g := brow H6.out q0_g
  have n6_g := Nat.ne_of_lt (rowAt_lt (brow H6.out q0_g))
  have l6_g := rowAt_lt (brow H6.out q0_g)
  have n6_Rx_g := Nat.ne_of_lt (rowAt_lt Rx_g_6)
  have l6_Rx_g := rowAt_lt Rx_g_6
  go_wp2_with fail
  refine gen_world fun wD hD => ?_
  have bD := below_of_eqG hD
  clear hD
  have Q_x := brow bD Rx_g_6
  have XD := Lib.hid (x_g_6.out.below bD (Nat.le_refl _))
  have HD := bnext H6.out bD H6.out.size
  have Q_g := brow HD q0_g
  refine wp_region_held_drew (S := fun w' => Below wD.heap.size wD w') (by kernel_rfl) ((Below.refl _ _).drew) (fun hH => ?_)
  refine wpAnyH_take (i := 0) (v := .agg X_x_g) rfl (by kernel_rfl) (by kernel_rfl) (by kernel_rfl) (fun _ _ _ h => h) (Or.inl ⟨by rfl, ?_⟩) hH ?_
  · intro w1 hS; (try dsimp only at hS); have s0 := brow hS Q_x; go_simp
  (try simp only [List.getElem_toArray]); (try simp only [List.getElem_cons_succ]); (try simp only [List.getElem_cons_zero]); (try simp only [Act.put]); (try simp only [List.setIfInBounds_toArray]); (try simp only [List.set_cons_succ]); (try simp only [List.set_cons_zero])
  refine wpAnyH_take (i := 1) (v := .agg c_g) rfl (by kernel_rfl) (by kernel_rfl) (by kernel_rfl) (fun _ _ _ h => h) (Or.inl ⟨by rfl, ?_⟩) hH ?_
  · intro w1 hS; (try dsimp only at hS); have s0 := brow hS Q_g; go_simp
  (try simp only [List.getElem_toArray]); (try simp only [List.getElem_cons_succ]); (try simp only [List.getElem_cons_zero]); (try simp only [Act.put]); (try simp only [List.setIfInBounds_toArray]); (try simp only [List.set_cons_succ]); (try simp only [List.set_cons_zero])
  refine wpAnyH_ready (rs := [2]) (by kernel_rfl) (by simp) (AllReadyH.cons rfl (fun K hK => ?_) AllReadyH.nil)
  go_simp
  refine (toGutter_any c_g g_g _ _ HG_g.out (A_g.out.below (bnext HD hH HD.size) (Nat.le_refl _)) (by omega)).mono ?_
  rintro x wx ⟨u_t, rfl, l_t, bx⟩
  go_simp
  refine hK.out _ _ (bnext hH bx hH.size) (fun hG => ?_)
  clear hK K hH bx
  replace hH := hG
  clear hG
  (try simp only [List.getElem_toArray]); (try simp only [List.getElem_cons_succ]); (try simp only [List.getElem_cons_zero]); (try simp only [Act.put]); (try simp only [List.setIfInBounds_toArray]); (try simp only [List.set_cons_succ]); (try simp only [List.set_cons_zero])
  refine wpAnyH_ready (rs := [3]) (by kernel_rfl) (by simp) (AllReadyH.cons rfl (fun K hK => ?_) AllReadyH.nil)
  go_simp
  refine (eqGutter_same _ _ g_g _ _ _ _ _ is_x_g.out (HG_g.out.setP' u_t g_g.m) (XD.out.below hH (Nat.le_refl _)).list l_t (by omega)).mono ?_
  rintro x wx ⟨rfl, bx⟩
  go_simp
  refine hK.out _ _ (bnext hH bx hH.size) (fun hG => ?_)
  clear hK K hH bx
  replace hH := hG
  clear hG
  (try simp only [List.getElem_toArray]); (try simp only [List.getElem_cons_succ]); (try simp only [List.getElem_cons_zero]); (try simp only [Act.put]); (try simp only [List.setIfInBounds_toArray]); (try simp only [List.set_cons_succ]); (try simp only [List.set_cons_zero])
  refine wpAnyH_take (i := 4) (v := .bool false) rfl (by kernel_rfl) (by kernel_rfl) (by kernel_rfl) (fun _ _ _ h => h) (Or.inl ⟨by rfl, ?_⟩) hH ?_
  · intro w1 hS; (try dsimp only at hS); go_simp
  (try simp only [List.getElem_toArray]); (try simp only [List.getElem_cons_succ]); (try simp only [List.getElem_cons_zero]); (try simp only [Act.put]); (try simp only [List.setIfInBounds_toArray]); (try simp only [List.set_cons_succ]); (try simp only [List.set_cons_zero])
  refine wpAnyH_done (by kernel_rfl) ?_ _
  have b7 := bD.trans (hH.mono bD.size)
  clear hH bD HD XD l_t Q_x Q_g
  have H7 := Lib.hid (bnext H6.out b7 H6.out.size)
  have x_g_7 := Lib.hid (x_g_6.out.below b7 (Nat.le_refl _))
  have Rx_g_7 := brow b7 Rx_g_6
  clear b7 H6 x_g_6 Rx_g_6
  clear q6_g n6_g l6_g n6_Rx_g l6_Rx_g
  have q7_g := brow H7.out q0_g
  have n7_g := Nat.ne_of_lt (rowAt_lt (brow H7.out q0_g))
  have l7_g := rowAt_lt (brow H7.out q0_g)
  have n7_Rx_g := Nat.ne_of_lt (rowAt_lt Rx_g_7)
  have l7_Rx_g := rowAt_lt Rx_g_7
  go_wp2_with fail
  go_ret
  exact ⟨rfl, PB0.out.trans (H7.out.mono PB0.out.size)⟩

namespace LFnExactEndOf
open Go.RowKit Go.ChangeShapes Go.WideShapes Go.ChangeAt
theorem own : ownKnob Try.prog.godebug = none := by kernel_rfl
theorem laidOut : laidOutB Try.prog = true := by kernel_rfl
set_option maxRecDepth 100000 in
theorem lifted (os : Os) (started : os.Started) (H : Type) (enc : TypeId × Value → H) :
    ReturnsInHanded {} Try.checked os 7 .any (Rows.fnExactEndOfSpec.pre6 enc Try.prog Try.f7 Rows.fnExactEndOfRow.domain false) (Rows.fnExactEndOfSpec.post enc Try.prog Try.f7 false true false false) := by
  refine returnsInHanded_of_change (C := Try.checked) own started (by kernel_rfl) Try.func7
    (ChangeSpec.witness6 (enc := enc) (C := Try.checked) false ⟨#[], #[.agg (#[.int .i8 0, .int .i16 0] ++ Array.replicate 17 (.int .i8 0) ++ #[.int .u32 0, .slice none 0 0]), .int .i64 0], []⟩ 8 (by kernel_rfl) (by kernel_rfl) (by kernel_rfl) (by kernel_rfl)) ?_
  intro W base args ds gs before hval0 hW hcnd _
  have hval : ∀ (j : Nat) t v, Try.f7.params[j]? = some t → args[j]? = some v → Value.okWide Try.prog W .any base t v := hval0
  have hW' := hW
  obtain ⟨p, q, hA0, hV, rfl, hfz, hnd⟩ := hW
  have hA : DataW.TrodAll enc Try.prog W 0 (fun _ => true) true Try.f7.params.toList args.toList ds p := hA0
  rw [Try.params7] at hA hval
  obtain ⟨v0, vs0, d0, ds0, p0, q0, hargs, rfl, rfl, h0, r0⟩ := trodAll_cons hA
  obtain ⟨v1, vs1, d1, ds1, p1, q1, rfl, rfl, rfl, h1, r1⟩ := trodAll_cons r0
  obtain ⟨rfl, rfl, rfl⟩ := trodAll_nil r1
  obtain rfl : args = #[v0, v1] := by cases args; simp_all
  obtain ⟨rfl, rfl⟩ := trodVars_none hV
  have k0 := h0
  have lt0 : ∀ x ∈ p0, x.block < W.heap.size := by obtain ⟨m, hm⟩ := k0; exact DataW.trod_lt m _ _ _ hm
  obtain ⟨c0, f0, u0, rfl, wf0, hL0, hm0⟩ := open_gut (hval 0 28 v0 rfl rfl) h0
  obtain ⟨x1, rfl, rfl, rfl, wx1⟩ := open_int Try.underlying2 (hval 1 2 v1 rfl rfl) h1
  clear hA0 hval0
  refine (law_walk_FnExactEndOf wf0 hL0 hm0 (bounds_i64 wx1)).mono fun e W' ⟨he, bel⟩ => ?_
  subst he
  exact ⟨_, rfl, _, _, _, [], _, [], hW', trodAll_mk1 (shut_bool Try.underlying4 _), (trodAll_cons_mk (Below.trod laidOut (by kernel_rfl) (of_decide_eq_true (by kernel_rfl)) k0 bel lt0) (trodAll_cons_mk (shut_int Try.underlying2 wx1) trodAll_mk0)), rfl, bel.frame _, fun h => by cases h⟩

theorem over : Rows.fnExactEndOfRow.holds Try.pinned (OpenSpec.ofChange Rows.fnExactEndOfSpec) :=
  OpenClaim.holds_of_wide_leaving 7 Try.f7 rfl rfl rfl rfl rfl rfl rfl ⟨rfl, rfl, rfl, rfl, rfl⟩ rfl rfl rfl rfl rfl (by kernel_rfl) Try.func7 (by kernel_rfl)
    (of_decide_eq_true (by kernel_rfl)) (by unfold Func.isWrapper; first | (rw [if_pos (by decide +kernel)]; kernel_rfl) | (rw [if_neg (by decide +kernel)]; exact ⟨rfl, rfl⟩))
    (fun os started H enc _ => leaving_of_handed (lifted os started H enc))

theorem proved : Rows.FnExactEndOfSaid := over
end LFnExactEndOf


end Go.Proofs.Ytlkmdoccnbnacaa
