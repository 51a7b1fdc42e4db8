/- laws.FnExactSameShape returns true for every shape, shape, and leaves them as they were. No condition. -/
import Derived.Test.YtdegfcgknppcoaaShape
import Derived.Test.YtdegfcgknppcoaaNums
import Derived.Test.YtdegfcgknppcoaaShpG
import Derived.Test.YtdegfcgknppcoaaShpS
import Derived.Deep.RegionHeld3
namespace Go.Proofs.Ytdegfcgknppcoaa
open Go.RowKit

set_option maxRecDepth 100000 in
set_option maxHeartbeats 4000000 in
theorem law_walk_FnExactSameShape {w : World} {s_s : Int} (hs_s : 0 ≤ s_s ∧ s_s ≤ 255) {v_s : Value} {m_s : Nat} {f_s : Nat → Int} (hv_s : ArgSp w v_s m_s f_s) (hm_s : m_s ≤ maxLen) (hb_s : ∀ i, i < m_s * 2 → -32768 ≤ f_s i ∧ f_s i ≤ 32767) {s_t : Int} (hs_t : 0 ≤ s_t ∧ s_t ≤ 255) {v_t : Value} {m_t : Nat} {f_t : Nat → Int} (hv_t : ArgSp w v_t m_t f_t) (hm_t : m_t ≤ maxLen) (hb_t : ∀ i, i < m_t * 2 → -32768 ≤ f_t i ∧ f_t i ≤ 32767) :
    Calls Try.prog 4 #[.agg #[.int .u8 s_s, v_s], .agg #[.int .u8 s_t, v_t]] w fun e w' => e = .returned (.bool true) ∧ Below w.heap.size w w' := by
  have PB0 := Lib.hid (show Below w.heap.size w ((w.alloc (.cells #[.int .u8 s_s, v_s] 24)).alloc (.cells #[.int .u8 s_t, v_t] 24)) from ((Below.refl w.heap.size w).alloc (Nat.le_refl _) _).alloc (by simp) _)
  have q0_s : rowAt ((w.alloc (.cells #[.int .u8 s_s, v_s] 24)).alloc (.cells #[.int .u8 s_t, v_t] 24)) (w.heap.size) = some #[.int .u8 s_s, v_s] := (rowAt_alloc_past _ _ _ (by simp)).trans (rowAt_alloc_at w #[.int .u8 s_s, v_s] 24 (w.heap.size) (by simp))
  have q0_t : rowAt ((w.alloc (.cells #[.int .u8 s_s, v_s] 24)).alloc (.cells #[.int .u8 s_t, v_t] 24)) (w.heap.size + 1) = some #[.int .u8 s_t, v_t] := rowAt_alloc_at (w.alloc (.cells #[.int .u8 s_s, v_s] 24)) #[.int .u8 s_t, v_t] 24 (w.heap.size + 1) (by simp)
  have A_s := Lib.hid (hv_s.below PB0.out (Nat.le_refl _))
  have HB_s := Lib.hid hb_s
  obtain ⟨av_s, cv_s, rfl⟩ := hv_s.shape
  have A_t := Lib.hid (hv_t.below PB0.out (Nat.le_refl _))
  have HB_t := Lib.hid hb_t
  obtain ⟨av_t, cv_t, rfl⟩ := hv_t.shape
  clear hv_s hb_s hv_t hb_t
  obtain ⟨X0, hX0⟩ : ∃ X : Int, X = if (m_s : Int) ≤ 1048576 then (1048576 : Int) - m_s else (-1 : Int) := ⟨_, rfl⟩
  have HX0 := Lib.hid hX0
  obtain ⟨X1, hX1⟩ : ∃ X : Int, X = if (m_t : Int) ≤ X0 then (X0 : Int) - m_t else (-1 : Int) := ⟨_, rfl⟩
  have HX1 := Lib.hid hX1
  by_cases hl_s : (m_s : Int) ≤ (1048576 : Int)
  rotate_left
  · have hx0 : decide (X0 < 0) = true := by rw [HX0.out, if_neg hl_s]; rfl
    clear hX0 hX1
    go_enter Try.func4, Try.ntmps4
    go_wp2_with fail
    refine gen_callsW fun W0 hW => ?_
    rw [← hW] at q0_s q0_t PB0 A_s A_t
    clear hW
    have H0 := Lib.hid (Below.refl W0.heap.size W0)
    refine (szShape_any _ s_s _ m_s f_s _ (A_s.out.below H0.out (Nat.le_refl _)) ⟨by omega, by omega⟩ hm_s X0 HX0.out).mono ?_
    rintro e w1 ⟨rfl, b1⟩
    have H1 := Lib.hid (bnext H0.out b1 H0.out.size)
    clear b1 H0
    have q1_s := cell_of_rowAt (brow H1.out q0_s)
    have n1_s := Nat.ne_of_lt (rowAt_lt (brow H1.out q0_s))
    have l1_s := rowAt_lt (brow H1.out q0_s)
    have q1_t := cell_of_rowAt (brow H1.out q0_t)
    have n1_t := Nat.ne_of_lt (rowAt_lt (brow H1.out q0_t))
    have l1_t := rowAt_lt (brow H1.out q0_t)
    go_wp2_with fail
    go_ret
    exact ⟨rfl, PB0.out.trans (H1.out.mono PB0.out.size)⟩
  rw [if_pos hl_s] at hX0
  have hXb0 : 0 ≤ X0 ∧ X0 ≤ 1048576 := by omega
  have hx0 : decide (X0 < 0) = false := by simp; omega
  have hm1_s : m_s ≤ 1048576 := by omega
  clear hX0
  by_cases hl_t : (m_t : Int) ≤ X0
  rotate_left
  · have hx1 : decide (X1 < 0) = true := by rw [HX1.out, if_neg hl_t]; rfl
    clear hX1
    go_enter Try.func4, Try.ntmps4
    go_wp2_with fail
    refine gen_callsW fun W0 hW => ?_
    rw [← hW] at q0_s q0_t PB0 A_s A_t
    clear hW
    have H0 := Lib.hid (Below.refl W0.heap.size W0)
    refine (szShape_any _ s_s _ m_s f_s _ (A_s.out.below H0.out (Nat.le_refl _)) ⟨by omega, by omega⟩ hm_s X0 HX0.out).mono ?_
    rintro e w1 ⟨rfl, b1⟩
    have H1 := Lib.hid (bnext H0.out b1 H0.out.size)
    clear b1 H0
    have q1_s := cell_of_rowAt (brow H1.out q0_s)
    have n1_s := Nat.ne_of_lt (rowAt_lt (brow H1.out q0_s))
    have l1_s := rowAt_lt (brow H1.out q0_s)
    have q1_t := cell_of_rowAt (brow H1.out q0_t)
    have n1_t := Nat.ne_of_lt (rowAt_lt (brow H1.out q0_t))
    have l1_t := rowAt_lt (brow H1.out q0_t)
    go_wp2_with fail
    refine (szShape_any X0 s_t _ m_t f_t _ (A_t.out.below H1.out (Nat.le_refl _)) hXb0 hm_t X1 HX1.out).mono ?_
    rintro e w2 ⟨rfl, b2⟩
    have H2 := Lib.hid (bnext H1.out b2 H1.out.size)
    clear b2 H1
    clear q1_s n1_s l1_s q1_t n1_t l1_t
    have q2_s := cell_of_rowAt (brow H2.out q0_s)
    have n2_s := Nat.ne_of_lt (rowAt_lt (brow H2.out q0_s))
    have l2_s := rowAt_lt (brow H2.out q0_s)
    have q2_t := cell_of_rowAt (brow H2.out q0_t)
    have n2_t := Nat.ne_of_lt (rowAt_lt (brow H2.out q0_t))
    have l2_t := rowAt_lt (brow H2.out q0_t)
    go_wp2_with fail
    go_ret
    exact ⟨rfl, PB0.out.trans (H2.out.mono PB0.out.size)⟩
  rw [if_pos hl_t] at hX1
  have hXb1 : 0 ≤ X1 ∧ X1 ≤ 1048576 := by omega
  have hx1 : decide (X1 < 0) = false := by simp; omega
  have hm1_t : m_t ≤ 1048576 := by omega
  clear hX1
  have CS := fun (W : World) (B_s : Nat) (U_s : Option Addr) (B_t : Nat) (U_t : Option Addr) (H_s : IsList W B_s (.slice U_s m_s m_s) 2 m_s (fun i => .int .i16 (f_s i))) (H_t : IsList W B_t (.slice U_t m_t m_t) 2 m_t (fun i => .int .i16 (f_t i))) => specSameShape_any s_s B_s m_s f_s U_s s_t B_t m_t f_t U_t W hs_s H_s (by omega) HB_s.out hs_t H_t (by omega) HB_t.out
  have CI := fun (W : World) (B_s : Nat) (U_s : Option Addr) (B_t : Nat) (U_t : Option Addr) (H_s : IsList W B_s (.slice U_s m_s m_s) 2 m_s (fun i => .int .i16 (f_s i))) (H_t : IsList W B_t (.slice U_t m_t m_t) 2 m_t (fun i => .int .i16 (f_t i))) => implSameShape_any s_s B_s m_s f_s U_s s_t B_t m_t f_t U_t W hs_s H_s (by omega) HB_s.out hs_t H_t (by omega) HB_t.out
  have hne0 : ((sameSh s_s s_t m_s m_t f_s f_t) != (sameSh s_s s_t m_s m_t f_s f_t)) = false := by simp
  generalize (sameSh s_s s_t m_s m_t f_s f_t) = x0 at *
  go_enter Try.func4, Try.ntmps4
  go_wp2_with fail
  refine gen_callsW fun W0 hW => ?_
  rw [← hW] at q0_s q0_t PB0 A_s A_t
  clear hW
  have H0 := Lib.hid (Below.refl W0.heap.size W0)
  refine (szShape_any _ s_s _ m_s f_s _ (A_s.out.below H0.out (Nat.le_refl _)) ⟨by omega, by omega⟩ hm_s X0 HX0.out).mono ?_
  rintro e w1 ⟨rfl, b1⟩
  have H1 := Lib.hid (bnext H0.out b1 H0.out.size)
  clear b1 H0
  have q1_s := cell_of_rowAt (brow H1.out q0_s)
  have n1_s := Nat.ne_of_lt (rowAt_lt (brow H1.out q0_s))
  have l1_s := rowAt_lt (brow H1.out q0_s)
  have q1_t := cell_of_rowAt (brow H1.out q0_t)
  have n1_t := Nat.ne_of_lt (rowAt_lt (brow H1.out q0_t))
  have l1_t := rowAt_lt (brow H1.out q0_t)
  go_wp2_with fail
  refine (szShape_any X0 s_t _ m_t f_t _ (A_t.out.below H1.out (Nat.le_refl _)) hXb0 hm_t X1 HX1.out).mono ?_
  rintro e w2 ⟨rfl, b2⟩
  have H2 := Lib.hid (bnext H1.out b2 H1.out.size)
  clear b2 H1
  clear q1_s n1_s l1_s q1_t n1_t l1_t
  have q2_s := cell_of_rowAt (brow H2.out q0_s)
  have n2_s := Nat.ne_of_lt (rowAt_lt (brow H2.out q0_s))
  have l2_s := rowAt_lt (brow H2.out q0_s)
  have q2_t := cell_of_rowAt (brow H2.out q0_t)
  have n2_t := Nat.ne_of_lt (rowAt_lt (brow H2.out q0_t))
  have l2_t := rowAt_lt (brow H2.out q0_t)
  go_wp2_with fail
  refine gen_world fun wD hD => ?_
  have bD := below_of_eq hD
  clear hD
  have HD := bnext H2.out bD H2.out.size
  have Q_s := brow HD q0_s
  have Q_t := brow HD q0_t
  refine wp_region_held_drew (S := fun w' => Below wD.heap.size wD w') (by kernel_rfl) ((Below.refl _ _).drew) (fun hH => ?_)
  refine wpAnyH_take (i := 0) (v := .agg #[.int .u8 s_s, .slice av_s m_s cv_s]) rfl (by kernel_rfl) (by kernel_rfl) (by kernel_rfl) (fun _ _ _ h => h) (Or.inl ⟨by rfl, ?_⟩) hH ?_
  · intro w1 hS; (try dsimp only at hS); have s0 := cell_of_rowAt (brow hS Q_s); go_simp
  (try simp only [List.getElem_toArray]); (try simp only [List.getElem_cons_succ]); (try simp only [List.getElem_cons_zero]); (try simp only [Act.put]); (try simp only [List.setIfInBounds_toArray]); (try simp only [List.set_cons_succ]); (try simp only [List.set_cons_zero])
  refine wpAnyH_take (i := 2) (v := .agg #[.int .u8 s_t, .slice av_t m_t cv_t]) rfl (by kernel_rfl) (by kernel_rfl) (by kernel_rfl) (fun _ _ _ h => h) (Or.inl ⟨by rfl, ?_⟩) hH ?_
  · intro w1 hS; (try dsimp only at hS); have s0 := cell_of_rowAt (brow hS Q_t); go_simp
  (try simp only [List.getElem_toArray]); (try simp only [List.getElem_cons_succ]); (try simp only [List.getElem_cons_zero]); (try simp only [Act.put]); (try simp only [List.setIfInBounds_toArray]); (try simp only [List.set_cons_succ]); (try simp only [List.set_cons_zero])
  refine wpAnyH_ready (rs := [1]) (by kernel_rfl) (by simp) (AllReadyH.cons rfl (fun K hK => ?_) AllReadyH.nil)
  go_simp
  refine (toShape_any s_s _ m_s f_s _ (A_s.out.below (bnext HD hH HD.size) (Nat.le_refl _)) (by omega)).mono ?_
  rintro x wx ⟨u0, rfl, l0, bx⟩
  go_simp
  refine hK.out _ _ (bnext hH bx hH.size) (fun hG => ?_)
  clear hK K hH bx
  replace hH := hG
  clear hG
  (try simp only [List.getElem_toArray]); (try simp only [List.getElem_cons_succ]); (try simp only [List.getElem_cons_zero]); (try simp only [Act.put]); (try simp only [List.setIfInBounds_toArray]); (try simp only [List.set_cons_succ]); (try simp only [List.set_cons_zero])
  refine wpAnyH_ready (rs := [3]) (by kernel_rfl) (by simp) (AllReadyH.cons rfl (fun K hK => ?_) AllReadyH.nil)
  go_simp
  refine (toShape_any s_t _ m_t f_t _ (A_t.out.below (bnext HD hH HD.size) (Nat.le_refl _)) (by omega)).mono ?_
  rintro x wx ⟨u1, rfl, l1, bx⟩
  have l0 := l0.below bx (Nat.le_refl _)
  go_simp
  refine hK.out _ _ (bnext hH bx hH.size) (fun hG => ?_)
  clear hK K hH bx
  replace hH := hG
  clear hG
  (try simp only [List.getElem_toArray]); (try simp only [List.getElem_cons_succ]); (try simp only [List.getElem_cons_zero]); (try simp only [Act.put]); (try simp only [List.setIfInBounds_toArray]); (try simp only [List.set_cons_succ]); (try simp only [List.set_cons_zero])
  refine wpAnyH_ready (rs := [4]) (by kernel_rfl) (by simp) (AllReadyH.cons rfl (fun K hK => ?_) AllReadyH.nil)
  go_simp
  refine (CS _ _ _ _ _ l0 l1).mono ?_
  rintro x wx ⟨rfl, bx⟩
  go_simp
  refine hK.out _ _ (bnext hH bx hH.size) (fun hG => ?_)
  clear hK K hH bx
  replace hH := hG
  clear hG
  (try simp only [List.getElem_toArray]); (try simp only [List.getElem_cons_succ]); (try simp only [List.getElem_cons_zero]); (try simp only [Act.put]); (try simp only [List.setIfInBounds_toArray]); (try simp only [List.set_cons_succ]); (try simp only [List.set_cons_zero])
  refine wpAnyH_take (i := 5) (v := .bool x0) rfl (by kernel_rfl) (by kernel_rfl) (by kernel_rfl) (fun _ _ _ h => h) (Or.inl ⟨by rfl, ?_⟩) hH ?_
  · intro w1 hS; (try dsimp only at hS); go_simp
  (try simp only [List.getElem_toArray]); (try simp only [List.getElem_cons_succ]); (try simp only [List.getElem_cons_zero]); (try simp only [Act.put]); (try simp only [List.setIfInBounds_toArray]); (try simp only [List.set_cons_succ]); (try simp only [List.set_cons_zero])
  refine wpAnyH_done (by kernel_rfl) ?_ _
  have b3 := bD.trans (hH.mono bD.size)
  clear hH bD HD Q_s Q_t l0 l1
  have H3 := Lib.hid (bnext H2.out b3 H2.out.size)
  clear b3 H2
  clear q2_s n2_s l2_s q2_t n2_t l2_t
  have q3_s := cell_of_rowAt (brow H3.out q0_s)
  have n3_s := Nat.ne_of_lt (rowAt_lt (brow H3.out q0_s))
  have l3_s := rowAt_lt (brow H3.out q0_s)
  have q3_t := cell_of_rowAt (brow H3.out q0_t)
  have n3_t := Nat.ne_of_lt (rowAt_lt (brow H3.out q0_t))
  have l3_t := rowAt_lt (brow H3.out q0_t)
  go_wp2_with fail
  refine (toShape_any s_s _ m_s f_s _ (A_s.out.below H3.out (Nat.le_refl _)) (by omega)).mono ?_
  rintro e w4 ⟨u_x_s, rfl, l_x_s, b4⟩
  have H4 := Lib.hid (bnext H3.out b4 H3.out.size)
  obtain ⟨g_x_s, hg_x_s, k_x_s⟩ := l_x_s.ls
  have g0_x_s : W0.heap.size ≤ g_x_s := Nat.le_trans H3.out.size hg_x_s
  have x_s_4 := Lib.hid k_x_s
  clear l_x_s k_x_s hg_x_s
  clear b4 H3
  clear q3_s n3_s l3_s q3_t n3_t l3_t
  have q4_s := cell_of_rowAt (brow H4.out q0_s)
  have n4_s := Nat.ne_of_lt (rowAt_lt (brow H4.out q0_s))
  have l4_s := rowAt_lt (brow H4.out q0_s)
  have q4_t := cell_of_rowAt (brow H4.out q0_t)
  have n4_t := Nat.ne_of_lt (rowAt_lt (brow H4.out q0_t))
  have l4_t := rowAt_lt (brow H4.out q0_t)
  go_wp2_with fail
  have ne_x_s_Rx_s : m_s = 0 ∨ g_x_s ≠ w4.heap.size := x_s_4.out.lt.imp id Nat.ne_of_lt
  refine gen_callsW fun w5 hV => ?_
  have b5 : Below w4.heap.size w4 w5 := by rw [hV]; exact (Below.refl _ _).alloc (Nat.le_refl _) _
  have Rx_s_5 : rowAt w5 w4.heap.size = some #[.int .u8 s_s, .slice u_x_s m_s m_s] := by rw [hV]; exact rowAt_alloc_at _ _ _ _ (by simp)
  clear hV
  have H5 := Lib.hid (bnext H4.out b5 H4.out.size)
  have x_s_5 := Lib.hid (x_s_4.out.below b5 (Nat.le_refl _))
  clear b5 H4 x_s_4
  clear q4_s n4_s l4_s q4_t n4_t l4_t
  have q5_s := cell_of_rowAt (brow H5.out q0_s)
  have n5_s := Nat.ne_of_lt (rowAt_lt (brow H5.out q0_s))
  have l5_s := rowAt_lt (brow H5.out q0_s)
  have q5_t := cell_of_rowAt (brow H5.out q0_t)
  have n5_t := Nat.ne_of_lt (rowAt_lt (brow H5.out q0_t))
  have l5_t := rowAt_lt (brow H5.out q0_t)
  have c5_Rx_s := cell_of_rowAt Rx_s_5
  refine (toShape_any s_t _ m_t f_t _ (A_t.out.below H5.out (Nat.le_refl _)) (by omega)).mono ?_
  rintro e w6 ⟨u_x_t, rfl, l_x_t, b6⟩
  have H6 := Lib.hid (bnext H5.out b6 H5.out.size)
  have x_s_6 := Lib.hid (x_s_5.out.below b6 (Nat.le_refl _))
  have Rx_s_6 := brow b6 Rx_s_5
  obtain ⟨g_x_t, hg_x_t, k_x_t⟩ := l_x_t.ls
  have ne_x_s_x_t := x_s_5.out.ne hg_x_t
  have ne_Rx_s_x_t : w4.heap.size ≠ g_x_t := by have := rowAt_lt Rx_s_5; omega
  have g0_x_t : W0.heap.size ≤ g_x_t := Nat.le_trans H5.out.size hg_x_t
  have x_t_6 := Lib.hid k_x_t
  clear l_x_t k_x_t hg_x_t
  clear b6 H5 x_s_5 Rx_s_5
  clear q5_s n5_s l5_s q5_t n5_t l5_t c5_Rx_s
  have q6_s := cell_of_rowAt (brow H6.out q0_s)
  have n6_s := Nat.ne_of_lt (rowAt_lt (brow H6.out q0_s))
  have l6_s := rowAt_lt (brow H6.out q0_s)
  have q6_t := cell_of_rowAt (brow H6.out q0_t)
  have n6_t := Nat.ne_of_lt (rowAt_lt (brow H6.out q0_t))
  have l6_t := rowAt_lt (brow H6.out q0_t)
  have c6_Rx_s := cell_of_rowAt Rx_s_6
  have n6_Rx_s := Nat.ne_of_lt (rowAt_lt Rx_s_6)
  have l6_Rx_s := rowAt_lt Rx_s_6
  go_wp2_with fail
  have nn_Rx_s_x_t : w4.heap.size ≠ w6.heap.size := Nat.ne_of_lt (rowAt_lt Rx_s_6)
  have ne_x_s_Rx_t : m_s = 0 ∨ g_x_s ≠ w6.heap.size := x_s_6.out.lt.imp id Nat.ne_of_lt
  have ne_x_t_Rx_t : m_t = 0 ∨ g_x_t ≠ w6.heap.size := x_t_6.out.lt.imp id Nat.ne_of_lt
  refine gen_callsW fun w7 hV => ?_
  have b7 : Below w6.heap.size w6 w7 := by rw [hV]; exact (Below.refl _ _).alloc (Nat.le_refl _) _
  have Rx_t_7 : rowAt w7 w6.heap.size = some #[.int .u8 s_t, .slice u_x_t m_t m_t] := by rw [hV]; exact rowAt_alloc_at _ _ _ _ (by simp)
  clear hV
  have H7 := Lib.hid (bnext H6.out b7 H6.out.size)
  have x_s_7 := Lib.hid (x_s_6.out.below b7 (Nat.le_refl _))
  have x_t_7 := Lib.hid (x_t_6.out.below b7 (Nat.le_refl _))
  have Rx_s_7 := brow b7 Rx_s_6
  clear b7 H6 x_s_6 x_t_6 Rx_s_6
  clear q6_s n6_s l6_s q6_t n6_t l6_t c6_Rx_s n6_Rx_s l6_Rx_s
  have q7_s := cell_of_rowAt (brow H7.out q0_s)
  have n7_s := Nat.ne_of_lt (rowAt_lt (brow H7.out q0_s))
  have l7_s := rowAt_lt (brow H7.out q0_s)
  have q7_t := cell_of_rowAt (brow H7.out q0_t)
  have n7_t := Nat.ne_of_lt (rowAt_lt (brow H7.out q0_t))
  have l7_t := rowAt_lt (brow H7.out q0_t)
  have c7_Rx_s := cell_of_rowAt Rx_s_7
  have n7_Rx_s := Nat.ne_of_lt (rowAt_lt Rx_s_7)
  have l7_Rx_s := rowAt_lt Rx_s_7
  have c7_Rx_t := cell_of_rowAt Rx_t_7
  refine (CI _ _ _ _ _ x_s_7.out.list x_t_7.out.list).mono ?_
  rintro e w8 ⟨rfl, b8⟩
  have H8 := Lib.hid (bnext H7.out b8 H7.out.size)
  have x_s_8 := Lib.hid (x_s_7.out.below b8 (Nat.le_refl _))
  have x_t_8 := Lib.hid (x_t_7.out.below b8 (Nat.le_refl _))
  have Rx_s_8 := brow b8 Rx_s_7
  have Rx_t_8 := brow b8 Rx_t_7
  clear b8 H7 x_s_7 x_t_7 Rx_s_7 Rx_t_7
  clear q7_s n7_s l7_s q7_t n7_t l7_t c7_Rx_s n7_Rx_s l7_Rx_s c7_Rx_t
  have q8_s := cell_of_rowAt (brow H8.out q0_s)
  have n8_s := Nat.ne_of_lt (rowAt_lt (brow H8.out q0_s))
  have l8_s := rowAt_lt (brow H8.out q0_s)
  have q8_t := cell_of_rowAt (brow H8.out q0_t)
  have n8_t := Nat.ne_of_lt (rowAt_lt (brow H8.out q0_t))
  have l8_t := rowAt_lt (brow H8.out q0_t)
  have c8_Rx_s := cell_of_rowAt Rx_s_8
  have n8_Rx_s := Nat.ne_of_lt (rowAt_lt Rx_s_8)
  have l8_Rx_s := rowAt_lt Rx_s_8
  have c8_Rx_t := cell_of_rowAt Rx_t_8
  have n8_Rx_t := Nat.ne_of_lt (rowAt_lt Rx_t_8)
  have l8_Rx_t := rowAt_lt Rx_t_8
  go_wp2_with fail
  refine gen_world fun wD hD => ?_
  have bD := below_of_eq hD
  clear hD
  have Q_x := brow bD Rx_s_8
  have XD := Lib.hid (x_s_8.out.below bD (Nat.le_refl _))
  have HD := bnext H8.out bD H8.out.size
  have Q_s := brow HD q0_s
  refine wp_region_held_drew (S := fun w' => Below wD.heap.size wD w') (by kernel_rfl) ((Below.refl _ _).drew) (fun hH => ?_)
  refine wpAnyH_take (i := 0) (v := .agg #[.int .u8 s_s, .slice u_x_s m_s m_s]) rfl (by kernel_rfl) (by kernel_rfl) (by kernel_rfl) (fun _ _ _ h => h) (Or.inl ⟨by rfl, ?_⟩) hH ?_
  · intro w1 hS; (try dsimp only at hS); have s0 := cell_of_rowAt (brow hS Q_x); go_simp
  (try simp only [List.getElem_toArray]); (try simp only [List.getElem_cons_succ]); (try simp only [List.getElem_cons_zero]); (try simp only [Act.put]); (try simp only [List.setIfInBounds_toArray]); (try simp only [List.set_cons_succ]); (try simp only [List.set_cons_zero])
  refine wpAnyH_take (i := 1) (v := .agg #[.int .u8 s_s, .slice av_s m_s cv_s]) rfl (by kernel_rfl) (by kernel_rfl) (by kernel_rfl) (fun _ _ _ h => h) (Or.inl ⟨by rfl, ?_⟩) hH ?_
  · intro w1 hS; (try dsimp only at hS); have s0 := cell_of_rowAt (brow hS Q_s); go_simp
  (try simp only [List.getElem_toArray]); (try simp only [List.getElem_cons_succ]); (try simp only [List.getElem_cons_zero]); (try simp only [Act.put]); (try simp only [List.setIfInBounds_toArray]); (try simp only [List.set_cons_succ]); (try simp only [List.set_cons_zero])
  refine wpAnyH_ready (rs := [2]) (by kernel_rfl) (by simp) (AllReadyH.cons rfl (fun K hK => ?_) AllReadyH.nil)
  go_simp
  refine (toShape_any s_s _ m_s f_s _ (A_s.out.below (bnext HD hH HD.size) (Nat.le_refl _)) (by omega)).mono ?_
  rintro x wx ⟨u_t, rfl, l_t, bx⟩
  go_simp
  refine hK.out _ _ (bnext hH bx hH.size) (fun hG => ?_)
  clear hK K hH bx
  replace hH := hG
  clear hG
  (try simp only [List.getElem_toArray]); (try simp only [List.getElem_cons_succ]); (try simp only [List.getElem_cons_zero]); (try simp only [Act.put]); (try simp only [List.setIfInBounds_toArray]); (try simp only [List.set_cons_succ]); (try simp only [List.set_cons_zero])
  refine wpAnyH_ready (rs := [3]) (by kernel_rfl) (by simp) (AllReadyH.cons rfl (fun K hK => ?_) AllReadyH.nil)
  go_simp
  refine (eqShape_same s_s m_s f_s _ _ _ _ _ (XD.out.below hH (Nat.le_refl _)).list l_t (by omega)).mono ?_
  rintro x wx ⟨rfl, bx⟩
  go_simp
  refine hK.out _ _ (bnext hH bx hH.size) (fun hG => ?_)
  clear hK K hH bx
  replace hH := hG
  clear hG
  (try simp only [List.getElem_toArray]); (try simp only [List.getElem_cons_succ]); (try simp only [List.getElem_cons_zero]); (try simp only [Act.put]); (try simp only [List.setIfInBounds_toArray]); (try simp only [List.set_cons_succ]); (try simp only [List.set_cons_zero])
  refine wpAnyH_take (i := 4) (v := .bool false) rfl (by kernel_rfl) (by kernel_rfl) (by kernel_rfl) (fun _ _ _ h => h) (Or.inl ⟨by rfl, ?_⟩) hH ?_
  · intro w1 hS; (try dsimp only at hS); go_simp
  (try simp only [List.getElem_toArray]); (try simp only [List.getElem_cons_succ]); (try simp only [List.getElem_cons_zero]); (try simp only [Act.put]); (try simp only [List.setIfInBounds_toArray]); (try simp only [List.set_cons_succ]); (try simp only [List.set_cons_zero])
  refine wpAnyH_done (by kernel_rfl) ?_ _
  have b9 := bD.trans (hH.mono bD.size)
  clear hH bD HD XD l_t Q_x Q_s
  have H9 := Lib.hid (bnext H8.out b9 H8.out.size)
  have x_s_9 := Lib.hid (x_s_8.out.below b9 (Nat.le_refl _))
  have x_t_9 := Lib.hid (x_t_8.out.below b9 (Nat.le_refl _))
  have Rx_s_9 := brow b9 Rx_s_8
  have Rx_t_9 := brow b9 Rx_t_8
  clear b9 H8 x_s_8 x_t_8 Rx_s_8 Rx_t_8
  clear q8_s n8_s l8_s q8_t n8_t l8_t c8_Rx_s n8_Rx_s l8_Rx_s c8_Rx_t n8_Rx_t l8_Rx_t
  have q9_s := cell_of_rowAt (brow H9.out q0_s)
  have n9_s := Nat.ne_of_lt (rowAt_lt (brow H9.out q0_s))
  have l9_s := rowAt_lt (brow H9.out q0_s)
  have q9_t := cell_of_rowAt (brow H9.out q0_t)
  have n9_t := Nat.ne_of_lt (rowAt_lt (brow H9.out q0_t))
  have l9_t := rowAt_lt (brow H9.out q0_t)
  have c9_Rx_s := cell_of_rowAt Rx_s_9
  have n9_Rx_s := Nat.ne_of_lt (rowAt_lt Rx_s_9)
  have l9_Rx_s := rowAt_lt Rx_s_9
  have c9_Rx_t := cell_of_rowAt Rx_t_9
  have n9_Rx_t := Nat.ne_of_lt (rowAt_lt Rx_t_9)
  have l9_Rx_t := rowAt_lt Rx_t_9
  go_wp2_with fail
  refine gen_world fun wD hD => ?_
  have bD := below_of_eq hD
  clear hD
  have Q_x := brow bD Rx_t_9
  have XD := Lib.hid (x_t_9.out.below bD (Nat.le_refl _))
  have HD := bnext H9.out bD H9.out.size
  have Q_t := brow HD q0_t
  refine wp_region_held_drew (S := fun w' => Below wD.heap.size wD w') (by kernel_rfl) ((Below.refl _ _).drew) (fun hH => ?_)
  refine wpAnyH_take (i := 0) (v := .agg #[.int .u8 s_t, .slice u_x_t m_t m_t]) rfl (by kernel_rfl) (by kernel_rfl) (by kernel_rfl) (fun _ _ _ h => h) (Or.inl ⟨by rfl, ?_⟩) hH ?_
  · intro w1 hS; (try dsimp only at hS); have s0 := cell_of_rowAt (brow hS Q_x); go_simp
  (try simp only [List.getElem_toArray]); (try simp only [List.getElem_cons_succ]); (try simp only [List.getElem_cons_zero]); (try simp only [Act.put]); (try simp only [List.setIfInBounds_toArray]); (try simp only [List.set_cons_succ]); (try simp only [List.set_cons_zero])
  refine wpAnyH_take (i := 1) (v := .agg #[.int .u8 s_t, .slice av_t m_t cv_t]) rfl (by kernel_rfl) (by kernel_rfl) (by kernel_rfl) (fun _ _ _ h => h) (Or.inl ⟨by rfl, ?_⟩) hH ?_
  · intro w1 hS; (try dsimp only at hS); have s0 := cell_of_rowAt (brow hS Q_t); go_simp
  (try simp only [List.getElem_toArray]); (try simp only [List.getElem_cons_succ]); (try simp only [List.getElem_cons_zero]); (try simp only [Act.put]); (try simp only [List.setIfInBounds_toArray]); (try simp only [List.set_cons_succ]); (try simp only [List.set_cons_zero])
  refine wpAnyH_ready (rs := [2]) (by kernel_rfl) (by simp) (AllReadyH.cons rfl (fun K hK => ?_) AllReadyH.nil)
  go_simp
  refine (toShape_any s_t _ m_t f_t _ (A_t.out.below (bnext HD hH HD.size) (Nat.le_refl _)) (by omega)).mono ?_
  rintro x wx ⟨u_t, rfl, l_t, bx⟩
  go_simp
  refine hK.out _ _ (bnext hH bx hH.size) (fun hG => ?_)
  clear hK K hH bx
  replace hH := hG
  clear hG
  (try simp only [List.getElem_toArray]); (try simp only [List.getElem_cons_succ]); (try simp only [List.getElem_cons_zero]); (try simp only [Act.put]); (try simp only [List.setIfInBounds_toArray]); (try simp only [List.set_cons_succ]); (try simp only [List.set_cons_zero])
  refine wpAnyH_ready (rs := [3]) (by kernel_rfl) (by simp) (AllReadyH.cons rfl (fun K hK => ?_) AllReadyH.nil)
  go_simp
  refine (eqShape_same s_t m_t f_t _ _ _ _ _ (XD.out.below hH (Nat.le_refl _)).list l_t (by omega)).mono ?_
  rintro x wx ⟨rfl, bx⟩
  go_simp
  refine hK.out _ _ (bnext hH bx hH.size) (fun hG => ?_)
  clear hK K hH bx
  replace hH := hG
  clear hG
  (try simp only [List.getElem_toArray]); (try simp only [List.getElem_cons_succ]); (try simp only [List.getElem_cons_zero]); (try simp only [Act.put]); (try simp only [List.setIfInBounds_toArray]); (try simp only [List.set_cons_succ]); (try simp only [List.set_cons_zero])
  refine wpAnyH_take (i := 4) (v := .bool false) rfl (by kernel_rfl) (by kernel_rfl) (by kernel_rfl) (fun _ _ _ h => h) (Or.inl ⟨by rfl, ?_⟩) hH ?_
  · intro w1 hS; (try dsimp only at hS); go_simp
  (try simp only [List.getElem_toArray]); (try simp only [List.getElem_cons_succ]); (try simp only [List.getElem_cons_zero]); (try simp only [Act.put]); (try simp only [List.setIfInBounds_toArray]); (try simp only [List.set_cons_succ]); (try simp only [List.set_cons_zero])
  refine wpAnyH_done (by kernel_rfl) ?_ _
  have b10 := bD.trans (hH.mono bD.size)
  clear hH bD HD XD l_t Q_x Q_t
  have H10 := Lib.hid (bnext H9.out b10 H9.out.size)
  have x_s_10 := Lib.hid (x_s_9.out.below b10 (Nat.le_refl _))
  have x_t_10 := Lib.hid (x_t_9.out.below b10 (Nat.le_refl _))
  have Rx_s_10 := brow b10 Rx_s_9
  have Rx_t_10 := brow b10 Rx_t_9
  clear b10 H9 x_s_9 x_t_9 Rx_s_9 Rx_t_9
  clear q9_s n9_s l9_s q9_t n9_t l9_t c9_Rx_s n9_Rx_s l9_Rx_s c9_Rx_t n9_Rx_t l9_Rx_t
  have q10_s := cell_of_rowAt (brow H10.out q0_s)
  have n10_s := Nat.ne_of_lt (rowAt_lt (brow H10.out q0_s))
  have l10_s := rowAt_lt (brow H10.out q0_s)
  have q10_t := cell_of_rowAt (brow H10.out q0_t)
  have n10_t := Nat.ne_of_lt (rowAt_lt (brow H10.out q0_t))
  have l10_t := rowAt_lt (brow H10.out q0_t)
  have c10_Rx_s := cell_of_rowAt Rx_s_10
  have n10_Rx_s := Nat.ne_of_lt (rowAt_lt Rx_s_10)
  have l10_Rx_s := rowAt_lt Rx_s_10
  have c10_Rx_t := cell_of_rowAt Rx_t_10
  have n10_Rx_t := Nat.ne_of_lt (rowAt_lt Rx_t_10)
  have l10_Rx_t := rowAt_lt Rx_t_10
  go_wp2_with fail
  go_ret
  exact ⟨rfl, PB0.out.trans (H10.out.mono PB0.out.size)⟩

namespace LFnExactSameShape
open Go.RowKit Go.ChangeShapes Go.WideShapes Go.ChangeAt
theorem own : ownKnob Try.prog.godebug = none := by kernel_rfl
theorem laidOut : laidOutB Try.prog = true := by kernel_rfl
set_option maxRecDepth 100000 in
theorem lifted (os : Os) (started : os.Started) (H : Type) (enc : TypeId × Value → H) :
    ReturnsInHanded {} Try.checked os 4 .any (Rows.fnExactSameShapeSpec.pre6 enc Try.prog Try.f4 Rows.fnExactSameShapeRow.domain false) (Rows.fnExactSameShapeSpec.post enc Try.prog Try.f4 false true false false) := by
  refine returnsInHanded_of_change (C := Try.checked) own started (by kernel_rfl) Try.func4
    (ChangeSpec.witness6 (enc := enc) (C := Try.checked) false ⟨#[], #[.agg #[.int .u8 0, .slice none 0 0], .agg #[.int .u8 0, .slice none 0 0]], []⟩ 8 (by kernel_rfl) (by kernel_rfl) (by kernel_rfl) (by kernel_rfl)) ?_
  intro W base args ds gs before hval0 hW hcnd _
  have hval : ∀ (j : Nat) t v, Try.f4.params[j]? = some t → args[j]? = some v → Value.okWide Try.prog W .any base t v := hval0
  have hW' := hW
  obtain ⟨p, q, hA0, hV, rfl, hfz, hnd⟩ := hW
  have hA : DataW.TrodAll enc Try.prog W 0 (fun _ => true) true Try.f4.params.toList args.toList ds p := hA0
  rw [Try.params4] at hA hval
  obtain ⟨v0, vs0, d0, ds0, p0, q0, hargs, rfl, rfl, h0, r0⟩ := trodAll_cons hA
  obtain ⟨v1, vs1, d1, ds1, p1, q1, rfl, rfl, rfl, h1, r1⟩ := trodAll_cons r0
  obtain ⟨rfl, rfl, rfl⟩ := trodAll_nil r1
  obtain rfl : args = #[v0, v1] := by cases args; simp_all
  obtain ⟨rfl, rfl⟩ := trodVars_none hV
  have k0 := h0
  have lt0 : ∀ x ∈ p0, x.block < W.heap.size := by obtain ⟨m, hm⟩ := k0; exact DataW.trod_lt m _ _ _ hm
  have k1 := h1
  have lt1 : ∀ x ∈ p1, x.block < W.heap.size := by obtain ⟨m, hm⟩ := k1; exact DataW.trod_lt m _ _ _ hm
  obtain ⟨s0, u0, len0, cells0, rfl, hs0, hL0, hm0, hb0⟩ := open_shape (hval 0 24 v0 rfl rfl) h0
  obtain ⟨s1, u1, len1, cells1, rfl, hs1, hL1, hm1, hb1⟩ := open_shape (hval 1 24 v1 rfl rfl) h1
  clear hA0 hval0
  refine (law_walk_FnExactSameShape hs0 hL0 hm0 hb0 hs1 hL1 hm1 hb1).mono fun e W' ⟨he, bel⟩ => ?_
  subst he
  exact ⟨_, rfl, _, _, _, [], _, [], hW', trodAll_mk1 (shut_bool Try.underlying4 _), (trodAll_cons_mk (Below.trod laidOut (by kernel_rfl) (of_decide_eq_true (by kernel_rfl)) k0 bel lt0) (trodAll_cons_mk (Below.trod laidOut (by kernel_rfl) (of_decide_eq_true (by kernel_rfl)) k1 bel lt1) trodAll_mk0)), rfl, bel.frame _, fun h => by cases h⟩

theorem over : Rows.fnExactSameShapeRow.holds Try.pinned (OpenSpec.ofChange Rows.fnExactSameShapeSpec) :=
  OpenClaim.holds_of_wide 4 Try.f4 rfl rfl rfl rfl rfl rfl rfl ⟨rfl, rfl, rfl, rfl, rfl⟩ rfl rfl rfl rfl rfl (by kernel_rfl) Try.func4 (by kernel_rfl)
    (of_decide_eq_true (by kernel_rfl)) (by unfold Func.isWrapper; first | (rw [if_pos (by decide +kernel)]; kernel_rfl) | (rw [if_neg (by decide +kernel)]; exact ⟨rfl, rfl⟩))
    (fun os started H enc _ => lifted os started H enc)

theorem proved : Rows.FnExactSameShapeSaid := over
end LFnExactSameShape


end Go.Proofs.Ytdegfcgknppcoaa
