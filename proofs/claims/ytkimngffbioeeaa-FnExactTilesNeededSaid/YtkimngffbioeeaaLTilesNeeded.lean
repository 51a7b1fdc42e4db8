/- laws.FnExactTilesNeeded returns true for every roof, list of numbers, number, and leaves them as they were. No condition. -/
import Derived.Test.YtkimngffbioeeaaHelp
import Derived.Test.YtkimngffbioeeaaOpen
import Derived.Test.YtkimngffbioeeaaNums
import Derived.Test.YtkimngffbioeeaaGive
import Derived.Test.YtkimngffbioeeaaArgN
import Derived.Test.YtkimngffbioeeaaNeedG
namespace Go.Proofs.Ytkimngffbioeeaa
open Go.RowKit

set_option maxRecDepth 100000 in
set_option maxHeartbeats 4000000 in
theorem law_walk_FnExactTilesNeeded {w : World} {c : Array Value} {r : Rf} (hR : IsRoof c r) {v_g : Value} {m_g : Nat} {g : Nat → Int} (hv_g : NumsAt w v_g m_g g) (hm_g : m_g ≤ maxLen) (hb_g : ∀ i, i < m_g → -9223372036854775808 ≤ g i ∧ g i ≤ 9223372036854775807) {y : Int} (_hy : -9223372036854775808 ≤ y ∧ y ≤ 9223372036854775807) :
    Calls Try.prog 12 #[.agg c, v_g, .int .i64 y] w fun e w' => e = .returned (.bool true) ∧ Below w.heap.size w w' := by
  have hc := hR.size
  have q0 := rowAt_alloc_at w c 26 w.heap.size rfl
  have PB0 := Lib.hid (show Below w.heap.size w (w.alloc (.cells c 26)) from (Below.refl _ _).alloc (Nat.le_refl _) _)
  have A_g := Lib.hid (hv_g.below PB0.out (Nat.le_refl _))
  have HB_g := Lib.hid hb_g
  have _hmm_g := hm_g
  obtain ⟨av_g, cv_g, rfl⟩ := hv_g.shape
  clear hv_g hb_g
  by_cases hl_g : m_g ≤ 1048576
  rotate_left
  · have hl1_g : (1048576 : Int) < m_g := by omega
    unfold maxLen at hm_g
    go_enter Try.func12, Try.ntmps12
    go_wp2_with fail
    go_ret
    exact ⟨rfl, PB0.out⟩
  have hl1_g : (m_g : Int) ≤ 1048576 := by omega
  have CS := fun (W : World) (B_g : Nat) (U_g : Option Addr) (H_g : IsList W B_g (.slice U_g m_g m_g) 1 m_g (fun i => .int .i64 (g i))) => specTilesNeeded_any c r B_g m_g g U_g y W hR H_g (by omega) HB_g.out
  have CI := fun (W : World) (B_g : Nat) (U_g : Option Addr) (H_g : IsList W B_g (.slice U_g m_g m_g) 1 m_g (fun i => .int .i64 (g i))) => implTilesNeeded_any c r B_g m_g g U_g y W hR H_g (by omega) HB_g.out
  have hne0 : ((r.needV g m_g y) != (r.needV g m_g y)) = false := by simp
  generalize (r.needV g m_g y) = x0 at *
  have hne1 : ((r.needC g m_g y) != (r.needC g m_g y)) = false := by simp
  generalize (r.needC g m_g y) = x1 at *
  go_enter Try.func12, Try.ntmps12
  go_wp2_with fail
  refine gen_callsW fun W0 hW => ?_
  rw [← hW] at q0 PB0 A_g
  clear hW
  have H0 := Lib.hid (Below.refl W0.heap.size W0)
  refine (toRoof_any c r _ hR).mono ?_
  rintro e w1 ⟨rfl, b1⟩
  have H1 := Lib.hid (bnext H0.out b1 H0.out.size)
  clear b1 H0
  have q1 := brow H1.out q0
  go_wp2_with fail
  refine (toInt64S_any _ m_g g _ (A_g.out.below H1.out (Nat.le_refl _)) (by omega)).mono ?_
  rintro e w2 ⟨u_s_g, rfl, l_s_g, b2⟩
  have H2 := Lib.hid (bnext H1.out b2 H1.out.size)
  obtain ⟨g_s_g, hg_s_g, k_s_g⟩ := l_s_g.ls
  have g0_s_g : W0.heap.size ≤ g_s_g := Nat.le_trans H1.out.size hg_s_g
  have s_g_2 := Lib.hid k_s_g
  clear l_s_g k_s_g hg_s_g
  clear b2 H1
  have q2 := brow H2.out q0
  go_wp2_with fail
  refine (CS _ _ _ s_g_2.out.list).mono ?_
  rintro e w3 ⟨rfl, b3⟩
  have H3 := Lib.hid (bnext H2.out b3 H2.out.size)
  have s_g_3 := Lib.hid (s_g_2.out.below b3 (Nat.le_refl _))
  clear b3 H2 s_g_2
  have q3 := brow H3.out q0
  go_wp2_with fail
  clear s_g_3
  refine (toInt64S_any _ m_g g _ (A_g.out.below H3.out (Nat.le_refl _)) (by omega)).mono ?_
  rintro e w4 ⟨u_x_g, rfl, l_x_g, b4⟩
  have H4 := Lib.hid (bnext H3.out b4 H3.out.size)
  obtain ⟨g_x_g, hg_x_g, k_x_g⟩ := l_x_g.ls
  have g0_x_g : W0.heap.size ≤ g_x_g := Nat.le_trans H3.out.size hg_x_g
  have x_g_4 := Lib.hid k_x_g
  clear l_x_g k_x_g hg_x_g
  clear b4 H3
  have q4 := brow H4.out q0
  go_wp2_with fail
  refine (toRoof_any c r _ hR).mono ?_
  rintro e w5 ⟨rfl, b5⟩
  have H5 := Lib.hid (bnext H4.out b5 H4.out.size)
  have x_g_5 := Lib.hid (x_g_4.out.below b5 (Nat.le_refl _))
  clear b5 H4 x_g_4
  have q5 := brow H5.out q0
  go_wp2_with fail
  refine (CI _ _ _ x_g_5.out.list).mono ?_
  rintro e w6 ⟨rfl, b6⟩
  have H6 := Lib.hid (bnext H5.out b6 H5.out.size)
  have x_g_6 := Lib.hid (x_g_5.out.below b6 (Nat.le_refl _))
  clear b6 H5 x_g_5
  have q6 := brow H6.out q0
  go_wp2_with fail
  refine (toInt64S_any _ m_g g _ (A_g.out.below H6.out (Nat.le_refl _)) (by omega)).mono ?_
  rintro e w7 ⟨u_t_g, rfl, l_t_g, b7⟩
  have H7 := Lib.hid (bnext H6.out b7 H6.out.size)
  have x_g_7 := Lib.hid (x_g_6.out.below b7 (Nat.le_refl _))
  obtain ⟨g_t_g, hg_t_g, k_t_g⟩ := l_t_g.ls
  have ne_x_g_t_g := x_g_6.out.ne hg_t_g
  have g0_t_g : W0.heap.size ≤ g_t_g := Nat.le_trans H6.out.size hg_t_g
  have t_g_7 := Lib.hid k_t_g
  clear l_t_g k_t_g hg_t_g
  clear b7 H6 x_g_6
  have q7 := brow H7.out q0
  go_wp2_with fail
  refine (eqI m_g g _ _ _ _ _ x_g_7.out.list t_g_7.out.list (by omega)).mono ?_
  rintro e w8 ⟨rfl, b8⟩
  have H8 := Lib.hid (bnext H7.out b8 H7.out.size)
  have x_g_8 := Lib.hid (x_g_7.out.below b8 (Nat.le_refl _))
  have t_g_8 := Lib.hid (t_g_7.out.below b8 (Nat.le_refl _))
  clear b8 H7 x_g_7 t_g_7
  have q8 := brow H8.out q0
  clear t_g_8
  go_wp2_with fail
  go_ret
  exact ⟨rfl, PB0.out.trans (H8.out.mono PB0.out.size)⟩

namespace LFnExactTilesNeeded
open Go.RowKit Go.ChangeShapes Go.WideShapes Go.ChangeAt
theorem own : ownKnob Try.prog.godebug = none := by kernel_rfl
theorem laidOut : laidOutB Try.prog = true := by kernel_rfl
set_option maxRecDepth 100000 in
theorem lifted (os : Os) (started : os.Started) (H : Type) (enc : TypeId × Value → H) :
    ReturnsInHanded {} Try.checked os 12 .any (Rows.fnExactTilesNeededSpec.pre6 enc Try.prog Try.f12 Rows.fnExactTilesNeededRow.domain false) (Rows.fnExactTilesNeededSpec.post enc Try.prog Try.f12 false true false false) := by
  refine returnsInHanded_of_change (C := Try.checked) own started (by kernel_rfl) Try.func12
    (ChangeSpec.witness6 (enc := enc) (C := Try.checked) false ⟨#[], #[.agg Try.zeroCells26, .slice none 0 0, .int .i64 0], []⟩ 8 (by kernel_rfl) (by kernel_rfl) (by kernel_rfl) (by kernel_rfl)) ?_
  intro W base args ds gs before hval0 hW hcnd _
  have hval : ∀ (j : Nat) t v, Try.f12.params[j]? = some t → args[j]? = some v → Value.okWide Try.prog W .any base t v := hval0
  have hW' := hW
  obtain ⟨p, q, hA0, hV, rfl, hfz, hnd⟩ := hW
  have hA : DataW.TrodAll enc Try.prog W 0 (fun _ => true) true Try.f12.params.toList args.toList ds p := hA0
  rw [Try.params12] at hA hval
  obtain ⟨v0, vs0, d0, ds0, p0, q0, hargs, rfl, rfl, h0, r0⟩ := trodAll_cons hA
  obtain ⟨v1, vs1, d1, ds1, p1, q1, rfl, rfl, rfl, h1, r1⟩ := trodAll_cons r0
  obtain ⟨v2, vs2, d2, ds2, p2, q2, rfl, rfl, rfl, h2, r2⟩ := trodAll_cons r1
  obtain ⟨rfl, rfl, rfl⟩ := trodAll_nil r2
  obtain rfl : args = #[v0, v1, v2] := by cases args; simp_all
  obtain ⟨rfl, rfl⟩ := trodVars_none hV
  have k0 := h0
  have lt0 : ∀ x ∈ p0, x.block < W.heap.size := by obtain ⟨m, hm⟩ := k0; exact DataW.trod_lt m _ _ _ hm
  have k1 := h1
  have lt1 : ∀ x ∈ p1, x.block < W.heap.size := by obtain ⟨m, hm⟩ := k1; exact DataW.trod_lt m _ _ _ hm
  obtain ⟨c0, f0, rfl, wf0⟩ := open_roof (hval 0 26 v0 rfl rfl) h0
  obtain ⟨len1, cells1, hL1, hm1, hb1⟩ := open_nums (hval 1 35 v1 rfl rfl) h1
  obtain ⟨x2, rfl, rfl, rfl, wx2⟩ := open_int Try.underlying2 (hval 2 2 v2 rfl rfl) h2
  clear hA0 hval0
  refine (law_walk_FnExactTilesNeeded wf0 hL1 hm1 hb1 (bounds_i64 wx2)).mono fun e W' ⟨he, bel⟩ => ?_
  subst he
  exact ⟨_, rfl, _, _, _, [], _, [], hW', trodAll_mk1 (shut_bool Try.underlying4 _), (trodAll_cons_mk (Below.trod laidOut (by kernel_rfl) (of_decide_eq_true (by kernel_rfl)) k0 bel lt0) (trodAll_cons_mk (Below.trod laidOut (by kernel_rfl) (of_decide_eq_true (by kernel_rfl)) k1 bel lt1) (trodAll_cons_mk (shut_int Try.underlying2 wx2) trodAll_mk0))), rfl, bel.frame _, fun h => by cases h⟩

theorem over : Rows.fnExactTilesNeededRow.holds Try.pinned (OpenSpec.ofChange Rows.fnExactTilesNeededSpec) :=
  OpenClaim.holds_of_wide 12 Try.f12 rfl rfl rfl rfl rfl rfl rfl ⟨rfl, rfl, rfl, rfl, rfl⟩ rfl rfl rfl rfl rfl (by kernel_rfl) Try.func12 (by kernel_rfl)
    (of_decide_eq_true (by kernel_rfl)) (by unfold Func.isWrapper; first | (rw [if_pos (by decide +kernel)]; kernel_rfl) | (rw [if_neg (by decide +kernel)]; exact ⟨rfl, rfl⟩))
    (fun os started H enc _ => lifted os started H enc)

theorem proved : Rows.FnExactTilesNeededSaid := over
end LFnExactTilesNeeded


end Go.Proofs.Ytkimngffbioeeaa
