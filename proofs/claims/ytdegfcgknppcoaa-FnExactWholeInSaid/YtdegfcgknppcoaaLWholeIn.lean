/- laws.FnExactWholeIn returns true for every shape, and leaves them as they were. No condition. -/
import Derived.Test.YtdegfcgknppcoaaShape
import Derived.Test.YtdegfcgknppcoaaNums
import Derived.Test.YtdegfcgknppcoaaShpG
import Derived.Test.YtdegfcgknppcoaaWhole
import Derived.Deep.RegionHeld3
namespace Go.Proofs.Ytdegfcgknppcoaa
open Go.RowKit

set_option maxRecDepth 100000 in
set_option maxHeartbeats 4000000 in
theorem law_walk_FnExactWholeIn {w : World} {s_s : Int} (hs_s : 0 ≤ s_s ∧ s_s ≤ 255) {v_s : Value} {m_s : Nat} {f_s : Nat → Int} (hv_s : ArgSp w v_s m_s f_s) (hm_s : m_s ≤ maxLen) (hb_s : ∀ i, i < m_s * 2 → -32768 ≤ f_s i ∧ f_s i ≤ 32767) :
    Calls Try.prog 7 #[.agg #[.int .u8 s_s, v_s]] w fun e w' => e = .returned (.bool true) ∧ Below w.heap.size w w' := by
  have PB0 := Lib.hid (show Below w.heap.size w (w.alloc (.cells #[.int .u8 s_s, v_s] 24)) from (Below.refl w.heap.size w).alloc (Nat.le_refl _) _)
  have q0_s : rowAt (w.alloc (.cells #[.int .u8 s_s, v_s] 24)) (w.heap.size) = some #[.int .u8 s_s, v_s] := rowAt_alloc_at w #[.int .u8 s_s, v_s] 24 (w.heap.size) (by simp)
  have A_s := Lib.hid (hv_s.below PB0.out (Nat.le_refl _))
  have HB_s := Lib.hid hb_s
  obtain ⟨av_s, cv_s, rfl⟩ := hv_s.shape
  clear hv_s hb_s
  obtain ⟨X0, hX0⟩ : ∃ X : Int, X = if (m_s : Int) ≤ 1048576 then (1048576 : Int) - m_s else (-1 : Int) := ⟨_, rfl⟩
  have HX0 := Lib.hid hX0
  by_cases hl_s : (m_s : Int) ≤ (1048576 : Int)
  rotate_left
  · have hx0 : decide (X0 < 0) = true := by rw [HX0.out, if_neg hl_s]; rfl
    clear hX0
    go_enter Try.func7, Try.ntmps7
    go_wp2_with fail
    refine gen_callsW fun W0 hW => ?_
    rw [← hW] at q0_s PB0 A_s
    clear hW
    have H0 := Lib.hid (Below.refl W0.heap.size W0)
    refine (szShape_any _ s_s _ m_s f_s _ (A_s.out.below H0.out (Nat.le_refl _)) ⟨by omega, by omega⟩ hm_s X0 HX0.out).mono ?_
    rintro e w1 ⟨rfl, b1⟩
    have H1 := Lib.hid (bnext H0.out b1 H0.out.size)
    clear b1 H0
    have q1_s := cell_of_rowAt (brow H1.out q0_s)
    have n1_s := Nat.ne_of_lt (rowAt_lt (brow H1.out q0_s))
    have l1_s := rowAt_lt (brow H1.out q0_s)
    go_wp2_with fail
    go_ret
    exact ⟨rfl, PB0.out.trans (H1.out.mono PB0.out.size)⟩
  rw [if_pos hl_s] at hX0
  have hXb0 : 0 ≤ X0 ∧ X0 ≤ 1048576 := by omega
  have hx0 : decide (X0 < 0) = false := by simp; omega
  have hm1_s : m_s ≤ 1048576 := by omega
  clear hX0
  have CS := fun (W : World) (B_s : Nat) (U_s : Option Addr) (H_s : IsList W B_s (.slice U_s m_s m_s) 2 m_s (fun i => .int .i16 (f_s i))) => specWholeIn_any s_s B_s m_s f_s U_s W hs_s H_s (by omega) HB_s.out
  have CI := fun (W : World) (B_s : Nat) (U_s : Option Addr) (H_s : IsList W B_s (.slice U_s m_s m_s) 2 m_s (fun i => .int .i16 (f_s i))) => implWholeIn_any s_s B_s m_s f_s U_s W hs_s H_s (by omega) HB_s.out
  have hne0 : ((ifOk (shOk s_s m_s f_s) (wholeTo s_s f_s m_s)) != (ifOk (shOk s_s m_s f_s) (wholeTo s_s f_s m_s))) = false := by simp
  generalize (ifOk (shOk s_s m_s f_s) (wholeTo s_s f_s m_s)) = x0 at *
  have hne1 : ((codeOk (shOk s_s m_s f_s)) != (codeOk (shOk s_s m_s f_s))) = false := by simp
  generalize (codeOk (shOk s_s m_s f_s)) = x1 at *
  go_enter Try.func7, Try.ntmps7
  go_wp2_with fail
  refine gen_callsW fun W0 hW => ?_
  rw [← hW] at q0_s PB0 A_s
  clear hW
  have H0 := Lib.hid (Below.refl W0.heap.size W0)
  refine (szShape_any _ s_s _ m_s f_s _ (A_s.out.below H0.out (Nat.le_refl _)) ⟨by omega, by omega⟩ hm_s X0 HX0.out).mono ?_
  rintro e w1 ⟨rfl, b1⟩
  have H1 := Lib.hid (bnext H0.out b1 H0.out.size)
  clear b1 H0
  have q1_s := cell_of_rowAt (brow H1.out q0_s)
  have n1_s := Nat.ne_of_lt (rowAt_lt (brow H1.out q0_s))
  have l1_s := rowAt_lt (brow H1.out q0_s)
  go_wp2_with fail
  refine (toShape_any s_s _ m_s f_s _ (A_s.out.below H1.out (Nat.le_refl _)) (by omega)).mono ?_
  rintro e w2 ⟨u_s_s, rfl, l_s_s, b2⟩
  have H2 := Lib.hid (bnext H1.out b2 H1.out.size)
  obtain ⟨g_s_s, hg_s_s, k_s_s⟩ := l_s_s.ls
  have g0_s_s : W0.heap.size ≤ g_s_s := Nat.le_trans H1.out.size hg_s_s
  have s_s_2 := Lib.hid k_s_s
  clear l_s_s k_s_s hg_s_s
  clear b2 H1
  clear q1_s n1_s l1_s
  have q2_s := cell_of_rowAt (brow H2.out q0_s)
  have n2_s := Nat.ne_of_lt (rowAt_lt (brow H2.out q0_s))
  have l2_s := rowAt_lt (brow H2.out q0_s)
  go_wp2_with fail
  refine (CS _ _ _ s_s_2.out.list).mono ?_
  rintro e w3 ⟨rfl, b3⟩
  have H3 := Lib.hid (bnext H2.out b3 H2.out.size)
  have s_s_3 := Lib.hid (s_s_2.out.below b3 (Nat.le_refl _))
  clear b3 H2 s_s_2
  clear q2_s n2_s l2_s
  have q3_s := cell_of_rowAt (brow H3.out q0_s)
  have n3_s := Nat.ne_of_lt (rowAt_lt (brow H3.out q0_s))
  have l3_s := rowAt_lt (brow H3.out q0_s)
  go_wp2_with fail
  clear s_s_3
  refine (toShape_any s_s _ m_s f_s _ (A_s.out.below H3.out (Nat.le_refl _)) (by omega)).mono ?_
  rintro e w4 ⟨u_x_s, rfl, l_x_s, b4⟩
  have H4 := Lib.hid (bnext H3.out b4 H3.out.size)
  obtain ⟨g_x_s, hg_x_s, k_x_s⟩ := l_x_s.ls
  have g0_x_s : W0.heap.size ≤ g_x_s := Nat.le_trans H3.out.size hg_x_s
  have x_s_4 := Lib.hid k_x_s
  clear l_x_s k_x_s hg_x_s
  clear b4 H3
  clear q3_s n3_s l3_s
  have q4_s := cell_of_rowAt (brow H4.out q0_s)
  have n4_s := Nat.ne_of_lt (rowAt_lt (brow H4.out q0_s))
  have l4_s := rowAt_lt (brow H4.out q0_s)
  go_wp2_with fail
  have ne_x_s_Rx_s : m_s = 0 ∨ g_x_s ≠ w4.heap.size := x_s_4.out.lt.imp id Nat.ne_of_lt
  refine gen_callsW fun w5 hV => ?_
  have b5 : Below w4.heap.size w4 w5 := by rw [hV]; exact (Below.refl _ _).alloc (Nat.le_refl _) _
  have Rx_s_5 : rowAt w5 w4.heap.size = some #[.int .u8 s_s, .slice u_x_s m_s m_s] := by rw [hV]; exact rowAt_alloc_at _ _ _ _ (by simp)
  clear hV
  have H5 := Lib.hid (bnext H4.out b5 H4.out.size)
  have x_s_5 := Lib.hid (x_s_4.out.below b5 (Nat.le_refl _))
  clear b5 H4 x_s_4
  clear q4_s n4_s l4_s
  have q5_s := cell_of_rowAt (brow H5.out q0_s)
  have n5_s := Nat.ne_of_lt (rowAt_lt (brow H5.out q0_s))
  have l5_s := rowAt_lt (brow H5.out q0_s)
  have c5_Rx_s := cell_of_rowAt Rx_s_5
  refine (CI _ _ _ x_s_5.out.list).mono ?_
  rintro e w6 ⟨rfl, b6⟩
  have H6 := Lib.hid (bnext H5.out b6 H5.out.size)
  have x_s_6 := Lib.hid (x_s_5.out.below b6 (Nat.le_refl _))
  have Rx_s_6 := brow b6 Rx_s_5
  clear b6 H5 x_s_5 Rx_s_5
  clear q5_s n5_s l5_s c5_Rx_s
  have q6_s := cell_of_rowAt (brow H6.out q0_s)
  have n6_s := Nat.ne_of_lt (rowAt_lt (brow H6.out q0_s))
  have l6_s := rowAt_lt (brow H6.out q0_s)
  have c6_Rx_s := cell_of_rowAt Rx_s_6
  have n6_Rx_s := Nat.ne_of_lt (rowAt_lt Rx_s_6)
  have l6_Rx_s := rowAt_lt Rx_s_6
  go_wp2_with fail
  refine gen_world fun wD hD => ?_
  have bD := below_of_eq hD
  clear hD
  have Q_x := brow bD Rx_s_6
  have XD := Lib.hid (x_s_6.out.below bD (Nat.le_refl _))
  have HD := bnext H6.out bD H6.out.size
  have Q_s := brow HD q0_s
  refine wp_region_held_drew (S := fun w' => Below wD.heap.size wD w') (by kernel_rfl) ((Below.refl _ _).drew) (fun hH => ?_)
  refine wpAnyH_take (i := 0) (v := .agg #[.int .u8 s_s, .slice u_x_s m_s m_s]) rfl (by kernel_rfl) (by kernel_rfl) (by kernel_rfl) (fun _ _ _ h => h) (Or.inl ⟨by rfl, ?_⟩) hH ?_
  · intro w1 hS; (try dsimp only at hS); have s0 := cell_of_rowAt (brow hS Q_x); go_simp
  (try simp only [List.getElem_toArray]); (try simp only [List.getElem_cons_succ]); (try simp only [List.getElem_cons_zero]); (try simp only [Act.put]); (try simp only [List.setIfInBounds_toArray]); (try simp only [List.set_cons_succ]); (try simp only [List.set_cons_zero])
  refine wpAnyH_take (i := 1) (v := .agg #[.int .u8 s_s, .slice av_s m_s cv_s]) rfl (by kernel_rfl) (by kernel_rfl) (by kernel_rfl) (fun _ _ _ h => h) (Or.inl ⟨by rfl, ?_⟩) hH ?_
  · intro w1 hS; (try dsimp only at hS); have s0 := cell_of_rowAt (brow hS Q_s); go_simp
  (try simp only [List.getElem_toArray]); (try simp only [List.getElem_cons_succ]); (try simp only [List.getElem_cons_zero]); (try simp only [Act.put]); (try simp only [List.setIfInBounds_toArray]); (try simp only [List.set_cons_succ]); (try simp only [List.set_cons_zero])
  refine wpAnyH_ready (rs := [2]) (by kernel_rfl) (by simp) (AllReadyH.cons rfl (fun K hK => ?_) AllReadyH.nil)
  go_simp
  refine (toShape_any s_s _ m_s f_s _ (A_s.out.below (bnext HD hH HD.size) (Nat.le_refl _)) (by omega)).mono ?_
  rintro x wx ⟨u_t, rfl, l_t, bx⟩
  go_simp
  refine hK.out _ _ (bnext hH bx hH.size) (fun hG => ?_)
  clear hK K hH bx
  replace hH := hG
  clear hG
  (try simp only [List.getElem_toArray]); (try simp only [List.getElem_cons_succ]); (try simp only [List.getElem_cons_zero]); (try simp only [Act.put]); (try simp only [List.setIfInBounds_toArray]); (try simp only [List.set_cons_succ]); (try simp only [List.set_cons_zero])
  refine wpAnyH_ready (rs := [3]) (by kernel_rfl) (by simp) (AllReadyH.cons rfl (fun K hK => ?_) AllReadyH.nil)
  go_simp
  refine (eqShape_same s_s m_s f_s _ _ _ _ _ (XD.out.below hH (Nat.le_refl _)).list l_t (by omega)).mono ?_
  rintro x wx ⟨rfl, bx⟩
  go_simp
  refine hK.out _ _ (bnext hH bx hH.size) (fun hG => ?_)
  clear hK K hH bx
  replace hH := hG
  clear hG
  (try simp only [List.getElem_toArray]); (try simp only [List.getElem_cons_succ]); (try simp only [List.getElem_cons_zero]); (try simp only [Act.put]); (try simp only [List.setIfInBounds_toArray]); (try simp only [List.set_cons_succ]); (try simp only [List.set_cons_zero])
  refine wpAnyH_take (i := 4) (v := .bool false) rfl (by kernel_rfl) (by kernel_rfl) (by kernel_rfl) (fun _ _ _ h => h) (Or.inl ⟨by rfl, ?_⟩) hH ?_
  · intro w1 hS; (try dsimp only at hS); go_simp
  (try simp only [List.getElem_toArray]); (try simp only [List.getElem_cons_succ]); (try simp only [List.getElem_cons_zero]); (try simp only [Act.put]); (try simp only [List.setIfInBounds_toArray]); (try simp only [List.set_cons_succ]); (try simp only [List.set_cons_zero])
  refine wpAnyH_done (by kernel_rfl) ?_ _
  have b7 := bD.trans (hH.mono bD.size)
  clear hH bD HD XD l_t Q_x Q_s
  have H7 := Lib.hid (bnext H6.out b7 H6.out.size)
  have x_s_7 := Lib.hid (x_s_6.out.below b7 (Nat.le_refl _))
  have Rx_s_7 := brow b7 Rx_s_6
  clear b7 H6 x_s_6 Rx_s_6
  clear q6_s n6_s l6_s c6_Rx_s n6_Rx_s l6_Rx_s
  have q7_s := cell_of_rowAt (brow H7.out q0_s)
  have n7_s := Nat.ne_of_lt (rowAt_lt (brow H7.out q0_s))
  have l7_s := rowAt_lt (brow H7.out q0_s)
  have c7_Rx_s := cell_of_rowAt Rx_s_7
  have n7_Rx_s := Nat.ne_of_lt (rowAt_lt Rx_s_7)
  have l7_Rx_s := rowAt_lt Rx_s_7
  go_wp2_with fail
  go_ret
  exact ⟨rfl, PB0.out.trans (H7.out.mono PB0.out.size)⟩

namespace LFnExactWholeIn
open Go.RowKit Go.ChangeShapes Go.WideShapes Go.ChangeAt
theorem own : ownKnob Try.prog.godebug = none := by kernel_rfl
theorem laidOut : laidOutB Try.prog = true := by kernel_rfl
set_option maxRecDepth 100000 in
theorem lifted (os : Os) (started : os.Started) (H : Type) (enc : TypeId × Value → H) :
    ReturnsInHanded {} Try.checked os 7 .any (Rows.fnExactWholeInSpec.pre6 enc Try.prog Try.f7 Rows.fnExactWholeInRow.domain false) (Rows.fnExactWholeInSpec.post enc Try.prog Try.f7 false true false false) := by
  refine returnsInHanded_of_change (C := Try.checked) own started (by kernel_rfl) Try.func7
    (ChangeSpec.witness6 (enc := enc) (C := Try.checked) false ⟨#[], #[.agg #[.int .u8 0, .slice none 0 0]], []⟩ 8 (by kernel_rfl) (by kernel_rfl) (by kernel_rfl) (by kernel_rfl)) ?_
  intro W base args ds gs before hval0 hW hcnd _
  have hval : ∀ (j : Nat) t v, Try.f7.params[j]? = some t → args[j]? = some v → Value.okWide Try.prog W .any base t v := hval0
  have hW' := hW
  obtain ⟨p, q, hA0, hV, rfl, hfz, hnd⟩ := hW
  have hA : DataW.TrodAll enc Try.prog W 0 (fun _ => true) true Try.f7.params.toList args.toList ds p := hA0
  rw [Try.params7] at hA hval
  obtain ⟨v0, vs0, d0, ds0, p0, q0, hargs, rfl, rfl, h0, r0⟩ := trodAll_cons hA
  obtain ⟨rfl, rfl, rfl⟩ := trodAll_nil r0
  obtain rfl : args = #[v0] := by cases args; simp_all
  obtain ⟨rfl, rfl⟩ := trodVars_none hV
  have k0 := h0
  have lt0 : ∀ x ∈ p0, x.block < W.heap.size := by obtain ⟨m, hm⟩ := k0; exact DataW.trod_lt m _ _ _ hm
  obtain ⟨s0, u0, len0, cells0, rfl, hs0, hL0, hm0, hb0⟩ := open_shape (hval 0 24 v0 rfl rfl) h0
  clear hA0 hval0
  refine (law_walk_FnExactWholeIn hs0 hL0 hm0 hb0).mono fun e W' ⟨he, bel⟩ => ?_
  subst he
  exact ⟨_, rfl, _, _, _, [], _, [], hW', trodAll_mk1 (shut_bool Try.underlying4 _), (trodAll_cons_mk (Below.trod laidOut (by kernel_rfl) (of_decide_eq_true (by kernel_rfl)) k0 bel lt0) trodAll_mk0), rfl, bel.frame _, fun h => by cases h⟩

theorem over : Rows.fnExactWholeInRow.holds Try.pinned (OpenSpec.ofChange Rows.fnExactWholeInSpec) :=
  OpenClaim.holds_of_wide 7 Try.f7 rfl rfl rfl rfl rfl rfl rfl ⟨rfl, rfl, rfl, rfl, rfl⟩ rfl rfl rfl rfl rfl (by kernel_rfl) Try.func7 (by kernel_rfl)
    (of_decide_eq_true (by kernel_rfl)) (by unfold Func.isWrapper; first | (rw [if_pos (by decide +kernel)]; kernel_rfl) | (rw [if_neg (by decide +kernel)]; exact ⟨rfl, rfl⟩))
    (fun os started H enc _ => lifted os started H enc)

theorem proved : Rows.FnExactWholeInSaid := over
end LFnExactWholeIn


end Go.Proofs.Ytdegfcgknppcoaa
