/- laws.FnExactCanReach returns true for every roof, list of numbers, number, list of places, and leaves them as they were. No condition. -/
import Derived.Test.YtkimngffbioeeaaHelp
import Derived.Test.YtkimngffbioeeaaOpen
import Derived.Test.YtkimngffbioeeaaNums
import Derived.Test.YtkimngffbioeeaaGive
import Derived.Test.YtkimngffbioeeaaArgN
import Derived.Test.YtkimngffbioeeaaArgL
import Derived.Test.YtkimngffbioeeaaLsP
import Derived.Test.YtkimngffbioeeaaLadJ
namespace Go.Proofs.Ytkimngffbioeeaa
open Go.RowKit

set_option maxRecDepth 100000 in
set_option maxHeartbeats 4000000 in
theorem law_walk_FnExactCanReach {w : World} {c : Array Value} {r : Rf} (hR : IsRoof c r) {v_g : Value} {m_g : Nat} {g : Nat → Int} (hv_g : NumsAt w v_g m_g g) (hm_g : m_g ≤ maxLen) (hb_g : ∀ i, i < m_g → -9223372036854775808 ≤ g i ∧ g i ≤ 9223372036854775807) {y : Int} (_hy : -9223372036854775808 ≤ y ∧ y ≤ 9223372036854775807) {v_f : Value} {m_f : Nat} {f : Nat → Int} (hv_f : ArgL w v_f m_f f) (hm_f : m_f ≤ maxLen) (hb_f : ∀ i, i < m_f * 2 → -128 ≤ f i ∧ f i ≤ 127) :
    Calls Try.prog 4 #[.agg c, v_g, .int .i64 y, v_f] w fun e w' => e = .returned (.bool true) ∧ Below w.heap.size w w' := by
  have hc := hR.size
  have q0 := rowAt_alloc_at w c 26 w.heap.size rfl
  have PB0 := Lib.hid (show Below w.heap.size w (w.alloc (.cells c 26)) from (Below.refl _ _).alloc (Nat.le_refl _) _)
  have A_g := Lib.hid (hv_g.below PB0.out (Nat.le_refl _))
  have HB_g := Lib.hid hb_g
  have _hmm_g := hm_g
  obtain ⟨av_g, cv_g, rfl⟩ := hv_g.shape
  have A_f := Lib.hid (hv_f.below PB0.out (Nat.le_refl _))
  have HB_f := Lib.hid hb_f
  have _hmm_f := hm_f
  obtain ⟨av_f, cv_f, rfl⟩ := hv_f.shape
  clear hv_g hb_g hv_f hb_f
  by_cases hl_g : m_g ≤ 1048576
  rotate_left
  · have hl1_g : (1048576 : Int) < m_g := by omega
    unfold maxLen at hm_g
    go_enter Try.func4, Try.ntmps4
    go_wp2_with fail
    go_ret
    exact ⟨rfl, PB0.out⟩
  by_cases hl_f : m_f ≤ 1048576
  rotate_left
  · have hl1_f : (1048576 : Int) < m_f := by omega
    go_enter Try.func4, Try.ntmps4
    go_wp2_with fail
    refine gen_callsW fun W0 hW => ?_
    rw [← hW] at q0 PB0 A_g A_f
    clear hW
    refine (szPlaceS_f _ m_f f _ A_f.out (by omega) hm_f).mono ?_
    rintro e w1 ⟨rfl, rfl⟩
    go_wp2_with fail
    go_ret
    exact ⟨rfl, PB0.out⟩
  have hl1_g : (m_g : Int) ≤ 1048576 := by omega
  have hl1_f : (m_f : Int) ≤ 1048576 := by omega
  have CS := fun (W : World) (B_g : Nat) (U_g : Option Addr) (B_f : Nat) (U_f : Option Addr) (H_g : IsList W B_g (.slice U_g m_g m_g) 1 m_g (fun i => .int .i64 (g i))) (H_f : IsList W B_f (.slice U_f m_f m_f) 2 m_f (fun i => .int .i8 (f i))) => specCanReach_any c r B_g m_g g U_g y B_f m_f f U_f W hR H_g (by omega) HB_g.out H_f (by omega) HB_f.out
  have CI := fun (W : World) (B_g : Nat) (U_g : Option Addr) (B_f : Nat) (U_f : Option Addr) (H_g : IsList W B_g (.slice U_g m_g m_g) 1 m_g (fun i => .int .i64 (g i))) (H_f : IsList W B_f (.slice U_f m_f m_f) 2 m_f (fun i => .int .i8 (f i))) => implCanReach_any c r B_g m_g g U_g y B_f m_f f U_f W hR H_g (by omega) HB_g.out H_f (by omega) HB_f.out
  have hne0 : ((r.canV g m_g f m_f y) != (r.canV g m_g f m_f y)) = false := by simp
  generalize (r.canV g m_g f m_f y) = x0 at *
  have hne1 : ((r.lcode g m_g f m_f y) != (r.lcode g m_g f m_f y)) = false := by simp
  generalize (r.lcode g m_g f m_f y) = x1 at *
  go_enter Try.func4, Try.ntmps4
  go_wp2_with fail
  refine gen_callsW fun W0 hW => ?_
  rw [← hW] at q0 PB0 A_g A_f
  clear hW
  have H0 := Lib.hid (Below.refl W0.heap.size W0)
  refine (szPlaceS_t _ m_f f _ A_f.out hl_f).mono ?_
  rintro e w1 ⟨rfl, rfl⟩
  go_wp2_with fail
  refine (toRoof_any c r _ hR).mono ?_
  rintro e w1 ⟨rfl, b1⟩
  have H1 := Lib.hid (bnext H0.out b1 H0.out.size)
  clear b1 H0
  have q1 := brow H1.out q0
  go_wp2_with fail
  refine (toInt64S_any _ m_g g _ (A_g.out.below H1.out (Nat.le_refl _)) (by omega)).mono ?_
  rintro e w2 ⟨u_s_g, rfl, l_s_g, b2⟩
  have H2 := Lib.hid (bnext H1.out b2 H1.out.size)
  obtain ⟨g_s_g, hg_s_g, k_s_g⟩ := l_s_g.ls
  have g0_s_g : W0.heap.size ≤ g_s_g := Nat.le_trans H1.out.size hg_s_g
  have s_g_2 := Lib.hid k_s_g
  clear l_s_g k_s_g hg_s_g
  clear b2 H1
  have q2 := brow H2.out q0
  go_wp2_with fail
  refine (toPlaceS_c _ m_f f _ (A_f.out.below H2.out (Nat.le_refl _)) (by omega)).mono ?_
  rintro e w3 ⟨u_s_f, rfl, l_s_f, b3⟩
  have H3 := Lib.hid (bnext H2.out b3 H2.out.size)
  have s_g_3 := Lib.hid (s_g_2.out.below b3 (Nat.le_refl _))
  obtain ⟨g_s_f, hg_s_f, k_s_f⟩ := l_s_f.ls
  have ne_s_g_s_f := s_g_2.out.ne hg_s_f
  have g0_s_f : W0.heap.size ≤ g_s_f := Nat.le_trans H2.out.size hg_s_f
  have s_f_3 := Lib.hid k_s_f
  clear l_s_f k_s_f hg_s_f
  clear b3 H2 s_g_2
  have q3 := brow H3.out q0
  go_wp2_with fail
  refine (CS _ _ _ _ _ s_g_3.out.list s_f_3.out.list).mono ?_
  rintro e w4 ⟨rfl, b4⟩
  have H4 := Lib.hid (bnext H3.out b4 H3.out.size)
  have s_g_4 := Lib.hid (s_g_3.out.below b4 (Nat.le_refl _))
  have s_f_4 := Lib.hid (s_f_3.out.below b4 (Nat.le_refl _))
  clear b4 H3 s_g_3 s_f_3
  have q4 := brow H4.out q0
  go_wp2_with fail
  clear s_g_4 s_f_4
  refine (toInt64S_any _ m_g g _ (A_g.out.below H4.out (Nat.le_refl _)) (by omega)).mono ?_
  rintro e w5 ⟨u_x_g, rfl, l_x_g, b5⟩
  have H5 := Lib.hid (bnext H4.out b5 H4.out.size)
  obtain ⟨g_x_g, hg_x_g, k_x_g⟩ := l_x_g.ls
  have g0_x_g : W0.heap.size ≤ g_x_g := Nat.le_trans H4.out.size hg_x_g
  have x_g_5 := Lib.hid k_x_g
  clear l_x_g k_x_g hg_x_g
  clear b5 H4
  have q5 := brow H5.out q0
  go_wp2_with fail
  refine (toPlaceS_c _ m_f f _ (A_f.out.below H5.out (Nat.le_refl _)) (by omega)).mono ?_
  rintro e w6 ⟨u_x_f, rfl, l_x_f, b6⟩
  have H6 := Lib.hid (bnext H5.out b6 H5.out.size)
  have x_g_6 := Lib.hid (x_g_5.out.below b6 (Nat.le_refl _))
  obtain ⟨g_x_f, hg_x_f, k_x_f⟩ := l_x_f.ls
  have ne_x_g_x_f := x_g_5.out.ne hg_x_f
  have g0_x_f : W0.heap.size ≤ g_x_f := Nat.le_trans H5.out.size hg_x_f
  have x_f_6 := Lib.hid k_x_f
  clear l_x_f k_x_f hg_x_f
  clear b6 H5 x_g_5
  have q6 := brow H6.out q0
  go_wp2_with fail
  refine (toRoof_any c r _ hR).mono ?_
  rintro e w7 ⟨rfl, b7⟩
  have H7 := Lib.hid (bnext H6.out b7 H6.out.size)
  have x_g_7 := Lib.hid (x_g_6.out.below b7 (Nat.le_refl _))
  have x_f_7 := Lib.hid (x_f_6.out.below b7 (Nat.le_refl _))
  clear b7 H6 x_g_6 x_f_6
  have q7 := brow H7.out q0
  go_wp2_with fail
  refine (CI _ _ _ _ _ x_g_7.out.list x_f_7.out.list).mono ?_
  rintro e w8 ⟨rfl, b8⟩
  have H8 := Lib.hid (bnext H7.out b8 H7.out.size)
  have x_g_8 := Lib.hid (x_g_7.out.below b8 (Nat.le_refl _))
  have x_f_8 := Lib.hid (x_f_7.out.below b8 (Nat.le_refl _))
  clear b8 H7 x_g_7 x_f_7
  have q8 := brow H8.out q0
  go_wp2_with fail
  refine (toInt64S_any _ m_g g _ (A_g.out.below H8.out (Nat.le_refl _)) (by omega)).mono ?_
  rintro e w9 ⟨u_t_g, rfl, l_t_g, b9⟩
  have H9 := Lib.hid (bnext H8.out b9 H8.out.size)
  have x_g_9 := Lib.hid (x_g_8.out.below b9 (Nat.le_refl _))
  have x_f_9 := Lib.hid (x_f_8.out.below b9 (Nat.le_refl _))
  obtain ⟨g_t_g, hg_t_g, k_t_g⟩ := l_t_g.ls
  have ne_x_g_t_g := x_g_8.out.ne hg_t_g
  have ne_x_f_t_g := x_f_8.out.ne hg_t_g
  have g0_t_g : W0.heap.size ≤ g_t_g := Nat.le_trans H8.out.size hg_t_g
  have t_g_9 := Lib.hid k_t_g
  clear l_t_g k_t_g hg_t_g
  clear b9 H8 x_g_8 x_f_8
  have q9 := brow H9.out q0
  go_wp2_with fail
  refine (eqI m_g g _ _ _ _ _ x_g_9.out.list t_g_9.out.list (by omega)).mono ?_
  rintro e w10 ⟨rfl, b10⟩
  have H10 := Lib.hid (bnext H9.out b10 H9.out.size)
  have x_g_10 := Lib.hid (x_g_9.out.below b10 (Nat.le_refl _))
  have x_f_10 := Lib.hid (x_f_9.out.below b10 (Nat.le_refl _))
  have t_g_10 := Lib.hid (t_g_9.out.below b10 (Nat.le_refl _))
  clear b10 H9 x_g_9 x_f_9 t_g_9
  have q10 := brow H10.out q0
  clear t_g_10
  go_wp2_with fail
  refine (toPlaceS_c _ m_f f _ (A_f.out.below H10.out (Nat.le_refl _)) (by omega)).mono ?_
  rintro e w11 ⟨u_t_f, rfl, l_t_f, b11⟩
  have H11 := Lib.hid (bnext H10.out b11 H10.out.size)
  have x_g_11 := Lib.hid (x_g_10.out.below b11 (Nat.le_refl _))
  have x_f_11 := Lib.hid (x_f_10.out.below b11 (Nat.le_refl _))
  obtain ⟨g_t_f, hg_t_f, k_t_f⟩ := l_t_f.ls
  have ne_x_g_t_f := x_g_10.out.ne hg_t_f
  have ne_x_f_t_f := x_f_10.out.ne hg_t_f
  have g0_t_f : W0.heap.size ≤ g_t_f := Nat.le_trans H10.out.size hg_t_f
  have t_f_11 := Lib.hid k_t_f
  clear l_t_f k_t_f hg_t_f
  clear b11 H10 x_g_10 x_f_10
  have q11 := brow H11.out q0
  go_wp2_with fail
  refine (eqPlaceS_same m_f f _ _ _ _ _ x_f_11.out.list t_f_11.out.list (by omega)).mono ?_
  rintro e w12 ⟨rfl, b12⟩
  have H12 := Lib.hid (bnext H11.out b12 H11.out.size)
  have x_g_12 := Lib.hid (x_g_11.out.below b12 (Nat.le_refl _))
  have x_f_12 := Lib.hid (x_f_11.out.below b12 (Nat.le_refl _))
  have t_f_12 := Lib.hid (t_f_11.out.below b12 (Nat.le_refl _))
  clear b12 H11 x_g_11 x_f_11 t_f_11
  have q12 := brow H12.out q0
  clear t_f_12
  go_wp2_with fail
  go_ret
  exact ⟨rfl, PB0.out.trans (H12.out.mono PB0.out.size)⟩

namespace LFnExactCanReach
open Go.RowKit Go.ChangeShapes Go.WideShapes Go.ChangeAt
theorem own : ownKnob Try.prog.godebug = none := by kernel_rfl
theorem laidOut : laidOutB Try.prog = true := by kernel_rfl
set_option maxRecDepth 100000 in
theorem lifted (os : Os) (started : os.Started) (H : Type) (enc : TypeId × Value → H) :
    ReturnsInHanded {} Try.checked os 4 .any (Rows.fnExactCanReachSpec.pre6 enc Try.prog Try.f4 Rows.fnExactCanReachRow.domain false) (Rows.fnExactCanReachSpec.post enc Try.prog Try.f4 false true false false) := by
  refine returnsInHanded_of_change (C := Try.checked) own started (by kernel_rfl) Try.func4
    (ChangeSpec.witness6 (enc := enc) (C := Try.checked) false ⟨#[], #[.agg Try.zeroCells26, .slice none 0 0, .int .i64 0, .slice none 0 0], []⟩ 8 (by kernel_rfl) (by kernel_rfl) (by kernel_rfl) (by kernel_rfl)) ?_
  intro W base args ds gs before hval0 hW hcnd _
  have hval : ∀ (j : Nat) t v, Try.f4.params[j]? = some t → args[j]? = some v → Value.okWide Try.prog W .any base t v := hval0
  have hW' := hW
  obtain ⟨p, q, hA0, hV, rfl, hfz, hnd⟩ := hW
  have hA : DataW.TrodAll enc Try.prog W 0 (fun _ => true) true Try.f4.params.toList args.toList ds p := hA0
  rw [Try.params4] at hA hval
  obtain ⟨v0, vs0, d0, ds0, p0, q0, hargs, rfl, rfl, h0, r0⟩ := trodAll_cons hA
  obtain ⟨v1, vs1, d1, ds1, p1, q1, rfl, rfl, rfl, h1, r1⟩ := trodAll_cons r0
  obtain ⟨v2, vs2, d2, ds2, p2, q2, rfl, rfl, rfl, h2, r2⟩ := trodAll_cons r1
  obtain ⟨v3, vs3, d3, ds3, p3, q3, rfl, rfl, rfl, h3, r3⟩ := trodAll_cons r2
  obtain ⟨rfl, rfl, rfl⟩ := trodAll_nil r3
  obtain rfl : args = #[v0, v1, v2, v3] := by cases args; simp_all
  obtain ⟨rfl, rfl⟩ := trodVars_none hV
  have k0 := h0
  have lt0 : ∀ x ∈ p0, x.block < W.heap.size := by obtain ⟨m, hm⟩ := k0; exact DataW.trod_lt m _ _ _ hm
  have k1 := h1
  have lt1 : ∀ x ∈ p1, x.block < W.heap.size := by obtain ⟨m, hm⟩ := k1; exact DataW.trod_lt m _ _ _ hm
  have k3 := h3
  have lt3 : ∀ x ∈ p3, x.block < W.heap.size := by obtain ⟨m, hm⟩ := k3; exact DataW.trod_lt m _ _ _ hm
  obtain ⟨c0, f0, rfl, wf0⟩ := open_roof (hval 0 26 v0 rfl rfl) h0
  obtain ⟨len1, cells1, hL1, hm1, hb1⟩ := open_nums (hval 1 35 v1 rfl rfl) h1
  obtain ⟨x2, rfl, rfl, rfl, wx2⟩ := open_int Try.underlying2 (hval 2 2 v2 rfl rfl) h2
  obtain ⟨len3, cells3, hL3, hm3, hb3⟩ := open_pls (hval 3 36 v3 rfl rfl) h3
  clear hA0 hval0
  refine (law_walk_FnExactCanReach wf0 hL1 hm1 hb1 (bounds_i64 wx2) hL3 hm3 hb3).mono fun e W' ⟨he, bel⟩ => ?_
  subst he
  exact ⟨_, rfl, _, _, _, [], _, [], hW', trodAll_mk1 (shut_bool Try.underlying4 _), (trodAll_cons_mk (Below.trod laidOut (by kernel_rfl) (of_decide_eq_true (by kernel_rfl)) k0 bel lt0) (trodAll_cons_mk (Below.trod laidOut (by kernel_rfl) (of_decide_eq_true (by kernel_rfl)) k1 bel lt1) (trodAll_cons_mk (shut_int Try.underlying2 wx2) (trodAll_cons_mk (Below.trod laidOut (by kernel_rfl) (of_decide_eq_true (by kernel_rfl)) k3 bel lt3) trodAll_mk0)))), rfl, bel.frame _, fun h => by cases h⟩

theorem over : Rows.fnExactCanReachRow.holds Try.pinned (OpenSpec.ofChange Rows.fnExactCanReachSpec) :=
  OpenClaim.holds_of_wide 4 Try.f4 rfl rfl rfl rfl rfl rfl rfl ⟨rfl, rfl, rfl, rfl, rfl⟩ rfl rfl rfl rfl rfl (by kernel_rfl) Try.func4 (by kernel_rfl)
    (of_decide_eq_true (by kernel_rfl)) (by unfold Func.isWrapper; first | (rw [if_pos (by decide +kernel)]; kernel_rfl) | (rw [if_neg (by decide +kernel)]; exact ⟨rfl, rfl⟩))
    (fun os started H enc _ => lifted os started H enc)

theorem proved : Rows.FnExactCanReachSaid := over
end LFnExactCanReach


end Go.Proofs.Ytkimngffbioeeaa
