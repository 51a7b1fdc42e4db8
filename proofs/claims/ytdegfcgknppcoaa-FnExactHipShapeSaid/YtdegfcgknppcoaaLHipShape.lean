/- laws.FnExactHipShape returns true for every span, number, number, number, number, and leaves them as they were. No condition. -/
import Derived.Test.YtdegfcgknppcoaaShape
import Derived.Test.YtdegfcgknppcoaaNums
import Derived.Test.YtdegfcgknppcoaaShpG
import Derived.Test.YtdegfcgknppcoaaShpH
import Derived.Deep.RegionHeld3
namespace Go.Proofs.Ytdegfcgknppcoaa
open Go.RowKit

set_option maxRecDepth 100000 in
set_option maxHeartbeats 4000000 in
theorem law_walk_FnExactHipShape {w : World} {a_t b_t : Int} (ha_t : -32768 ≤ a_t ∧ a_t ≤ 32767) (hb_t : -32768 ≤ b_t ∧ b_t ≤ 32767) {l : Int} (_hl : -9223372036854775808 ≤ l ∧ l ≤ 9223372036854775807) {r : Int} (_hr : -9223372036854775808 ≤ r ∧ r ≤ 9223372036854775807) {c : Int} (_hc : -9223372036854775808 ≤ c ∧ c ≤ 9223372036854775807) {h : Int} (_hh : -9223372036854775808 ≤ h ∧ h ≤ 9223372036854775807) :
    Calls Try.prog 5 #[.agg #[.int .i16 a_t, .int .i16 b_t], .int .i64 l, .int .i64 r, .int .i64 c, .int .i64 h] w fun e w' => e = .returned (.bool true) ∧ Below w.heap.size w w' := by
  have PB0 := Lib.hid (show Below w.heap.size w (w.alloc (.cells #[.int .i16 a_t, .int .i16 b_t] 36)) from (Below.refl w.heap.size w).alloc (Nat.le_refl _) _)
  have q0_t : rowAt (w.alloc (.cells #[.int .i16 a_t, .int .i16 b_t] 36)) (w.heap.size) = some #[.int .i16 a_t, .int .i16 b_t] := rowAt_alloc_at w #[.int .i16 a_t, .int .i16 b_t] 36 (w.heap.size) (by simp)
  have CS := fun (W : World)   => specHipShape_any a_t b_t l r c h W ha_t hb_t
  have CI := fun (W : World)   => implHipShape_any a_t b_t l r c h W ha_t hb_t
  unfold GivesShT at CS CI
  generalize (ifOk (hipC a_t b_t l r c h == 0) h) = ss at *
  have hnb : (lenOk (hipC a_t b_t l r c h == 0) c.toNat) ≤ 2000000 := hip_len a_t b_t l r c h
  generalize (lenOk (hipC a_t b_t l r c h == 0) c.toNat) = nn at *
  generalize (hipW a_t b_t l r) = ff at *
  obtain ⟨M, hM⟩ : ∃ M : Int, M = ((1 + 2 * nn : Nat) : Int) := ⟨_, rfl⟩
  have hM0 : 0 ≤ M := by omega
  have hmm : (M != M) = false := by simp
  have hml : decide (M < 0) = false := by simp; omega
  have HM := Lib.hid hM
  clear hM
  have hne0 : ((hipC a_t b_t l r c h) != (hipC a_t b_t l r c h)) = false := by simp
  generalize (hipC a_t b_t l r c h) = x0 at *
  go_enter Try.func5, Try.ntmps5
  go_wp2_with fail
  refine gen_callsW fun W0 hW => ?_
  rw [← hW] at q0_t PB0
  clear hW
  have H0 := Lib.hid (Below.refl W0.heap.size W0)
  refine (toSpan_any a_t b_t _).mono ?_
  rintro e w1 ⟨rfl, b1⟩
  have H1 := Lib.hid (bnext H0.out b1 H0.out.size)
  clear b1 H0
  have q1_t := cell_of_rowAt (brow H1.out q0_t)
  have n1_t := Nat.ne_of_lt (rowAt_lt (brow H1.out q0_t))
  have l1_t := rowAt_lt (brow H1.out q0_t)
  go_wp2_with fail
  refine (CS _  ).mono ?_
  rintro e w2 ⟨v_W, rfl, l_W, b2⟩
  have H2 := Lib.hid (bnext H1.out b2 H1.out.size)
  obtain ⟨a_W, c_W, rfl⟩ := l_W.shape
  obtain ⟨g_W, hg_W, k_W⟩ := l_W.ls
  have g0_W : W0.heap.size ≤ g_W := Nat.le_trans H1.out.size hg_W
  have W_2 := Lib.hid k_W
  clear l_W k_W hg_W
  clear b2 H1
  clear q1_t n1_t l1_t
  have q2_t := cell_of_rowAt (brow H2.out q0_t)
  have n2_t := Nat.ne_of_lt (rowAt_lt (brow H2.out q0_t))
  have l2_t := rowAt_lt (brow H2.out q0_t)
  go_wp2_with fail
  have ne_W_RW : nn = 0 ∨ g_W ≠ w2.heap.size := W_2.out.lt.imp id Nat.ne_of_lt
  refine gen_callsW fun w3 hV => ?_
  have b3 : Below w2.heap.size w2 w3 := by rw [hV]; exact (Below.refl _ _).alloc (Nat.le_refl _) _
  have RW_3 : rowAt w3 w2.heap.size = some #[.int .u8 ss, .slice a_W nn c_W] := by rw [hV]; exact rowAt_alloc_at _ _ _ _ (by simp)
  clear hV
  have H3 := Lib.hid (bnext H2.out b3 H2.out.size)
  have W_3 := Lib.hid (W_2.out.below b3 (Nat.le_refl _))
  clear b3 H2 W_2
  clear q2_t n2_t l2_t
  have q3_t := cell_of_rowAt (brow H3.out q0_t)
  have n3_t := Nat.ne_of_lt (rowAt_lt (brow H3.out q0_t))
  have l3_t := rowAt_lt (brow H3.out q0_t)
  have c3_RW := cell_of_rowAt RW_3
  refine (toSpan_any a_t b_t _).mono ?_
  rintro e w4 ⟨rfl, b4⟩
  have H4 := Lib.hid (bnext H3.out b4 H3.out.size)
  have W_4 := Lib.hid (W_3.out.below b4 (Nat.le_refl _))
  have RW_4 := brow b4 RW_3
  clear b4 H3 W_3 RW_3
  clear q3_t n3_t l3_t c3_RW
  have q4_t := cell_of_rowAt (brow H4.out q0_t)
  have n4_t := Nat.ne_of_lt (rowAt_lt (brow H4.out q0_t))
  have l4_t := rowAt_lt (brow H4.out q0_t)
  have c4_RW := cell_of_rowAt RW_4
  have n4_RW := Nat.ne_of_lt (rowAt_lt RW_4)
  have l4_RW := rowAt_lt RW_4
  go_wp2_with fail
  refine (CI _  ).mono ?_
  rintro e w5 ⟨v_G, rfl, l_G, b5⟩
  have H5 := Lib.hid (bnext H4.out b5 H4.out.size)
  have W_5 := Lib.hid (W_4.out.below b5 (Nat.le_refl _))
  have RW_5 := brow b5 RW_4
  obtain ⟨a_G, c_G, rfl⟩ := l_G.shape
  obtain ⟨g_G, hg_G, k_G⟩ := l_G.ls
  have ne_W_G := W_4.out.ne hg_G
  have ne_RW_G : w2.heap.size ≠ g_G := by have := rowAt_lt RW_4; omega
  have g0_G : W0.heap.size ≤ g_G := Nat.le_trans H4.out.size hg_G
  have G_5 := Lib.hid k_G
  clear l_G k_G hg_G
  clear b5 H4 W_4 RW_4
  clear q4_t n4_t l4_t c4_RW n4_RW l4_RW
  have q5_t := cell_of_rowAt (brow H5.out q0_t)
  have n5_t := Nat.ne_of_lt (rowAt_lt (brow H5.out q0_t))
  have l5_t := rowAt_lt (brow H5.out q0_t)
  have c5_RW := cell_of_rowAt RW_5
  have n5_RW := Nat.ne_of_lt (rowAt_lt RW_5)
  have l5_RW := rowAt_lt RW_5
  go_wp2_with fail
  have nn_RW_G : w2.heap.size ≠ w5.heap.size := Nat.ne_of_lt (rowAt_lt RW_5)
  have ne_W_RG : nn = 0 ∨ g_W ≠ w5.heap.size := W_5.out.lt.imp id Nat.ne_of_lt
  have ne_G_RG : nn = 0 ∨ g_G ≠ w5.heap.size := G_5.out.lt.imp id Nat.ne_of_lt
  refine gen_callsW fun w6 hV => ?_
  have b6 : Below w5.heap.size w5 w6 := by rw [hV]; exact (Below.refl _ _).alloc (Nat.le_refl _) _
  have RG_6 : rowAt w6 w5.heap.size = some #[.int .u8 ss, .slice a_G nn c_G] := by rw [hV]; exact rowAt_alloc_at _ _ _ _ (by simp)
  clear hV
  have H6 := Lib.hid (bnext H5.out b6 H5.out.size)
  have W_6 := Lib.hid (W_5.out.below b6 (Nat.le_refl _))
  have G_6 := Lib.hid (G_5.out.below b6 (Nat.le_refl _))
  have RW_6 := brow b6 RW_5
  clear b6 H5 W_5 G_5 RW_5
  clear q5_t n5_t l5_t c5_RW n5_RW l5_RW
  have q6_t := cell_of_rowAt (brow H6.out q0_t)
  have n6_t := Nat.ne_of_lt (rowAt_lt (brow H6.out q0_t))
  have l6_t := rowAt_lt (brow H6.out q0_t)
  have c6_RW := cell_of_rowAt RW_6
  have n6_RW := Nat.ne_of_lt (rowAt_lt RW_6)
  have l6_RW := rowAt_lt RW_6
  have c6_RG := cell_of_rowAt RG_6
  refine (eqShape_same ss nn ff _ _ _ _ _ G_6.out.list W_6.out.list hnb).mono ?_
  rintro e w7 ⟨rfl, b7⟩
  have H7 := Lib.hid (bnext H6.out b7 H6.out.size)
  have W_7 := Lib.hid (W_6.out.below b7 (Nat.le_refl _))
  have G_7 := Lib.hid (G_6.out.below b7 (Nat.le_refl _))
  have RW_7 := brow b7 RW_6
  have RG_7 := brow b7 RG_6
  clear b7 H6 W_6 G_6 RW_6 RG_6
  clear q6_t n6_t l6_t c6_RW n6_RW l6_RW c6_RG
  have q7_t := cell_of_rowAt (brow H7.out q0_t)
  have n7_t := Nat.ne_of_lt (rowAt_lt (brow H7.out q0_t))
  have l7_t := rowAt_lt (brow H7.out q0_t)
  have c7_RW := cell_of_rowAt RW_7
  have n7_RW := Nat.ne_of_lt (rowAt_lt RW_7)
  have l7_RW := rowAt_lt RW_7
  have c7_RG := cell_of_rowAt RG_7
  have n7_RG := Nat.ne_of_lt (rowAt_lt RG_7)
  have l7_RG := rowAt_lt RG_7
  go_wp2_with fail
  refine (markShape_any nn _ ss _ g_G (1) 1 M rfl HM.out _ G_7.out (by omega) (by omega)).mono ?_
  rintro e w8 ⟨rfl, kk8, ⟨wM8, bM8, o8, z8⟩⟩
  have W_8m := Lib.hid (W_7.out.below bM8 (Nat.le_refl _))
  have G_8m := Lib.hid (G_7.out.below bM8 (Nat.le_refl _))
  have RW_8m := brow bM8 RW_7
  have RG_8m := brow bM8 RG_7
  have H8m := Lib.hid (bnext H7.out bM8 H7.out.size)
  clear bM8 H7 W_7 G_7 RW_7 RG_7
  have H8 := Lib.hid (H8m.out.trans (o8.below.mono g0_G))
  have W_8 := Lib.hid (W_8m.out.only o8 ne_W_G)
  have G_8 := Lib.hid kk8
  have RW_8 := (o8.row ne_RW_G).trans RW_8m
  have RG_8 : rowAt w8 (w5.heap.size) = some #[.int .u8 ss, .slice a_G nn c_G] := by rcases ne_G_RG with h | h; · {rw [z8 h]; exact RG_8m}; · exact (o8.row (Ne.symm h)).trans RG_8m
  clear kk8 o8 z8 H8m W_8m G_8m RW_8m RG_8m
  clear q7_t n7_t l7_t c7_RW n7_RW l7_RW c7_RG n7_RG l7_RG
  have q8_t := cell_of_rowAt (brow H8.out q0_t)
  have n8_t := Nat.ne_of_lt (rowAt_lt (brow H8.out q0_t))
  have l8_t := rowAt_lt (brow H8.out q0_t)
  have c8_RW := cell_of_rowAt RW_8
  have n8_RW := Nat.ne_of_lt (rowAt_lt RW_8)
  have l8_RW := rowAt_lt RW_8
  have c8_RG := cell_of_rowAt RG_8
  have n8_RG := Nat.ne_of_lt (rowAt_lt RG_8)
  have l8_RG := rowAt_lt RG_8
  go_wp2_with fail
  refine (heldShape_any nn ss _ g_G 1 1 M rfl HM.out _ G_8.out (by omega) (by omega)).mono ?_
  rintro e w9 ⟨rfl, b9⟩
  have H9 := Lib.hid (bnext H8.out b9 H8.out.size)
  have W_9 := Lib.hid (W_8.out.below b9 (Nat.le_refl _))
  have G_9 := Lib.hid (G_8.out.below b9 (Nat.le_refl _))
  have RW_9 := brow b9 RW_8
  have RG_9 := brow b9 RG_8
  clear b9 H8 W_8 G_8 RW_8 RG_8
  clear q8_t n8_t l8_t c8_RW n8_RW l8_RW c8_RG n8_RG l8_RG
  have q9_t := cell_of_rowAt (brow H9.out q0_t)
  have n9_t := Nat.ne_of_lt (rowAt_lt (brow H9.out q0_t))
  have l9_t := rowAt_lt (brow H9.out q0_t)
  have c9_RW := cell_of_rowAt RW_9
  have n9_RW := Nat.ne_of_lt (rowAt_lt RW_9)
  have l9_RW := rowAt_lt RW_9
  have c9_RG := cell_of_rowAt RG_9
  have n9_RG := Nat.ne_of_lt (rowAt_lt RG_9)
  have l9_RG := rowAt_lt RG_9
  go_wp2_with fail
  refine (toSpan_any a_t b_t _).mono ?_
  rintro e w10 ⟨rfl, b10⟩
  have H10 := Lib.hid (bnext H9.out b10 H9.out.size)
  have W_10 := Lib.hid (W_9.out.below b10 (Nat.le_refl _))
  have G_10 := Lib.hid (G_9.out.below b10 (Nat.le_refl _))
  have RW_10 := brow b10 RW_9
  have RG_10 := brow b10 RG_9
  clear b10 H9 W_9 G_9 RW_9 RG_9
  clear q9_t n9_t l9_t c9_RW n9_RW l9_RW c9_RG n9_RG l9_RG
  have q10_t := cell_of_rowAt (brow H10.out q0_t)
  have n10_t := Nat.ne_of_lt (rowAt_lt (brow H10.out q0_t))
  have l10_t := rowAt_lt (brow H10.out q0_t)
  have c10_RW := cell_of_rowAt RW_10
  have n10_RW := Nat.ne_of_lt (rowAt_lt RW_10)
  have l10_RW := rowAt_lt RW_10
  have c10_RG := cell_of_rowAt RG_10
  have n10_RG := Nat.ne_of_lt (rowAt_lt RG_10)
  have l10_RG := rowAt_lt RG_10
  go_wp2_with fail
  refine (CI _  ).mono ?_
  rintro e w11 ⟨v_H, rfl, l_H, b11⟩
  have H11 := Lib.hid (bnext H10.out b11 H10.out.size)
  have W_11 := Lib.hid (W_10.out.below b11 (Nat.le_refl _))
  have G_11 := Lib.hid (G_10.out.below b11 (Nat.le_refl _))
  have RW_11 := brow b11 RW_10
  have RG_11 := brow b11 RG_10
  obtain ⟨a_H, c_H, rfl⟩ := l_H.shape
  obtain ⟨g_H, hg_H, k_H⟩ := l_H.ls
  have ne_W_H := W_10.out.ne hg_H
  have ne_G_H := G_10.out.ne hg_H
  have ne_RW_H : w2.heap.size ≠ g_H := by have := rowAt_lt RW_10; omega
  have ne_RG_H : w5.heap.size ≠ g_H := by have := rowAt_lt RG_10; omega
  have g0_H : W0.heap.size ≤ g_H := Nat.le_trans H10.out.size hg_H
  have H_11 := Lib.hid k_H
  clear l_H k_H hg_H
  clear b11 H10 W_10 G_10 RW_10 RG_10
  clear q10_t n10_t l10_t c10_RW n10_RW l10_RW c10_RG n10_RG l10_RG
  have q11_t := cell_of_rowAt (brow H11.out q0_t)
  have n11_t := Nat.ne_of_lt (rowAt_lt (brow H11.out q0_t))
  have l11_t := rowAt_lt (brow H11.out q0_t)
  have c11_RW := cell_of_rowAt RW_11
  have n11_RW := Nat.ne_of_lt (rowAt_lt RW_11)
  have l11_RW := rowAt_lt RW_11
  have c11_RG := cell_of_rowAt RG_11
  have n11_RG := Nat.ne_of_lt (rowAt_lt RG_11)
  have l11_RG := rowAt_lt RG_11
  go_wp2_with fail
  have nn_RW_H : w2.heap.size ≠ w11.heap.size := Nat.ne_of_lt (rowAt_lt RW_11)
  have nn_RG_H : w5.heap.size ≠ w11.heap.size := Nat.ne_of_lt (rowAt_lt RG_11)
  have ne_W_RH : nn = 0 ∨ g_W ≠ w11.heap.size := W_11.out.lt.imp id Nat.ne_of_lt
  have ne_G_RH : nn = 0 ∨ g_G ≠ w11.heap.size := G_11.out.lt.imp id Nat.ne_of_lt
  have ne_H_RH : nn = 0 ∨ g_H ≠ w11.heap.size := H_11.out.lt.imp id Nat.ne_of_lt
  refine gen_callsW fun w12 hV => ?_
  have b12 : Below w11.heap.size w11 w12 := by rw [hV]; exact (Below.refl _ _).alloc (Nat.le_refl _) _
  have RH_12 : rowAt w12 w11.heap.size = some #[.int .u8 ss, .slice a_H nn c_H] := by rw [hV]; exact rowAt_alloc_at _ _ _ _ (by simp)
  clear hV
  have H12 := Lib.hid (bnext H11.out b12 H11.out.size)
  have W_12 := Lib.hid (W_11.out.below b12 (Nat.le_refl _))
  have G_12 := Lib.hid (G_11.out.below b12 (Nat.le_refl _))
  have H_12 := Lib.hid (H_11.out.below b12 (Nat.le_refl _))
  have RW_12 := brow b12 RW_11
  have RG_12 := brow b12 RG_11
  clear b12 H11 W_11 G_11 H_11 RW_11 RG_11
  clear q11_t n11_t l11_t c11_RW n11_RW l11_RW c11_RG n11_RG l11_RG
  have q12_t := cell_of_rowAt (brow H12.out q0_t)
  have n12_t := Nat.ne_of_lt (rowAt_lt (brow H12.out q0_t))
  have l12_t := rowAt_lt (brow H12.out q0_t)
  have c12_RW := cell_of_rowAt RW_12
  have n12_RW := Nat.ne_of_lt (rowAt_lt RW_12)
  have l12_RW := rowAt_lt RW_12
  have c12_RG := cell_of_rowAt RG_12
  have n12_RG := Nat.ne_of_lt (rowAt_lt RG_12)
  have l12_RG := rowAt_lt RG_12
  have c12_RH := cell_of_rowAt RH_12
  refine (eqShape_same ss nn ff _ _ _ _ _ H_12.out.list W_12.out.list hnb).mono ?_
  rintro e w13 ⟨rfl, b13⟩
  have H13 := Lib.hid (bnext H12.out b13 H12.out.size)
  have W_13 := Lib.hid (W_12.out.below b13 (Nat.le_refl _))
  have G_13 := Lib.hid (G_12.out.below b13 (Nat.le_refl _))
  have H_13 := Lib.hid (H_12.out.below b13 (Nat.le_refl _))
  have RW_13 := brow b13 RW_12
  have RG_13 := brow b13 RG_12
  have RH_13 := brow b13 RH_12
  clear b13 H12 W_12 G_12 H_12 RW_12 RG_12 RH_12
  clear q12_t n12_t l12_t c12_RW n12_RW l12_RW c12_RG n12_RG l12_RG c12_RH
  have q13_t := cell_of_rowAt (brow H13.out q0_t)
  have n13_t := Nat.ne_of_lt (rowAt_lt (brow H13.out q0_t))
  have l13_t := rowAt_lt (brow H13.out q0_t)
  have c13_RW := cell_of_rowAt RW_13
  have n13_RW := Nat.ne_of_lt (rowAt_lt RW_13)
  have l13_RW := rowAt_lt RW_13
  have c13_RG := cell_of_rowAt RG_13
  have n13_RG := Nat.ne_of_lt (rowAt_lt RG_13)
  have l13_RG := rowAt_lt RG_13
  have c13_RH := cell_of_rowAt RH_13
  have n13_RH := Nat.ne_of_lt (rowAt_lt RH_13)
  have l13_RH := rowAt_lt RH_13
  go_wp2_with fail
  refine (heldShape_any nn ss _ g_G 1 1 M rfl HM.out _ G_13.out (by omega) (by omega)).mono ?_
  rintro e w14 ⟨rfl, b14⟩
  have H14 := Lib.hid (bnext H13.out b14 H13.out.size)
  have W_14 := Lib.hid (W_13.out.below b14 (Nat.le_refl _))
  have G_14 := Lib.hid (G_13.out.below b14 (Nat.le_refl _))
  have H_14 := Lib.hid (H_13.out.below b14 (Nat.le_refl _))
  have RW_14 := brow b14 RW_13
  have RG_14 := brow b14 RG_13
  have RH_14 := brow b14 RH_13
  clear b14 H13 W_13 G_13 H_13 RW_13 RG_13 RH_13
  clear q13_t n13_t l13_t c13_RW n13_RW l13_RW c13_RG n13_RG l13_RG c13_RH n13_RH l13_RH
  have q14_t := cell_of_rowAt (brow H14.out q0_t)
  have n14_t := Nat.ne_of_lt (rowAt_lt (brow H14.out q0_t))
  have l14_t := rowAt_lt (brow H14.out q0_t)
  have c14_RW := cell_of_rowAt RW_14
  have n14_RW := Nat.ne_of_lt (rowAt_lt RW_14)
  have l14_RW := rowAt_lt RW_14
  have c14_RG := cell_of_rowAt RG_14
  have n14_RG := Nat.ne_of_lt (rowAt_lt RG_14)
  have l14_RG := rowAt_lt RG_14
  have c14_RH := cell_of_rowAt RH_14
  have n14_RH := Nat.ne_of_lt (rowAt_lt RH_14)
  have l14_RH := rowAt_lt RH_14
  go_wp2_with fail
  go_ret
  exact ⟨rfl, PB0.out.trans (H14.out.mono PB0.out.size)⟩

namespace LFnExactHipShape
open Go.RowKit Go.ChangeShapes Go.WideShapes Go.ChangeAt
theorem own : ownKnob Try.prog.godebug = none := by kernel_rfl
theorem laidOut : laidOutB Try.prog = true := by kernel_rfl
set_option maxRecDepth 100000 in
theorem lifted (os : Os) (started : os.Started) (H : Type) (enc : TypeId × Value → H) :
    ReturnsInHanded {} Try.checked os 5 .any (Rows.fnExactHipShapeSpec.pre6 enc Try.prog Try.f5 Rows.fnExactHipShapeRow.domain false) (Rows.fnExactHipShapeSpec.post enc Try.prog Try.f5 false true false false) := by
  refine returnsInHanded_of_change (C := Try.checked) own started (by kernel_rfl) Try.func5
    (ChangeSpec.witness6 (enc := enc) (C := Try.checked) false ⟨#[], #[.agg #[.int .i16 0, .int .i16 0], .int .i64 0, .int .i64 0, .int .i64 0, .int .i64 0], []⟩ 8 (by kernel_rfl) (by kernel_rfl) (by kernel_rfl) (by kernel_rfl)) ?_
  intro W base args ds gs before hval0 hW hcnd _
  have hval : ∀ (j : Nat) t v, Try.f5.params[j]? = some t → args[j]? = some v → Value.okWide Try.prog W .any base t v := hval0
  have hW' := hW
  obtain ⟨p, q, hA0, hV, rfl, hfz, hnd⟩ := hW
  have hA : DataW.TrodAll enc Try.prog W 0 (fun _ => true) true Try.f5.params.toList args.toList ds p := hA0
  rw [Try.params5] at hA hval
  obtain ⟨v0, vs0, d0, ds0, p0, q0, hargs, rfl, rfl, h0, r0⟩ := trodAll_cons hA
  obtain ⟨v1, vs1, d1, ds1, p1, q1, rfl, rfl, rfl, h1, r1⟩ := trodAll_cons r0
  obtain ⟨v2, vs2, d2, ds2, p2, q2, rfl, rfl, rfl, h2, r2⟩ := trodAll_cons r1
  obtain ⟨v3, vs3, d3, ds3, p3, q3, rfl, rfl, rfl, h3, r3⟩ := trodAll_cons r2
  obtain ⟨v4, vs4, d4, ds4, p4, q4, rfl, rfl, rfl, h4, r4⟩ := trodAll_cons r3
  obtain ⟨rfl, rfl, rfl⟩ := trodAll_nil r4
  obtain rfl : args = #[v0, v1, v2, v3, v4] := by cases args; simp_all
  obtain ⟨rfl, rfl⟩ := trodVars_none hV
  have k0 := h0
  have lt0 : ∀ x ∈ p0, x.block < W.heap.size := by obtain ⟨m, hm⟩ := k0; exact DataW.trod_lt m _ _ _ hm
  obtain ⟨a0, b0, rfl, wa0, wb0⟩ := open_sp (hval 0 36 v0 rfl rfl) h0
  obtain ⟨x1, rfl, rfl, rfl, wx1⟩ := open_int Try.underlying2 (hval 1 2 v1 rfl rfl) h1
  obtain ⟨x2, rfl, rfl, rfl, wx2⟩ := open_int Try.underlying2 (hval 2 2 v2 rfl rfl) h2
  obtain ⟨x3, rfl, rfl, rfl, wx3⟩ := open_int Try.underlying2 (hval 3 2 v3 rfl rfl) h3
  obtain ⟨x4, rfl, rfl, rfl, wx4⟩ := open_int Try.underlying2 (hval 4 2 v4 rfl rfl) h4
  clear hA0 hval0
  refine (law_walk_FnExactHipShape wa0 wb0 (bounds_i64 wx1) (bounds_i64 wx2) (bounds_i64 wx3) (bounds_i64 wx4)).mono fun e W' ⟨he, bel⟩ => ?_
  subst he
  exact ⟨_, rfl, _, _, _, [], _, [], hW', trodAll_mk1 (shut_bool Try.underlying4 _), (trodAll_cons_mk (Below.trod laidOut (by kernel_rfl) (of_decide_eq_true (by kernel_rfl)) k0 bel lt0) (trodAll_cons_mk (shut_int Try.underlying2 wx1) (trodAll_cons_mk (shut_int Try.underlying2 wx2) (trodAll_cons_mk (shut_int Try.underlying2 wx3) (trodAll_cons_mk (shut_int Try.underlying2 wx4) trodAll_mk0))))), rfl, bel.frame _, fun h => by cases h⟩

theorem over : Rows.fnExactHipShapeRow.holds Try.pinned (OpenSpec.ofChange Rows.fnExactHipShapeSpec) :=
  OpenClaim.holds_of_wide 5 Try.f5 rfl rfl rfl rfl rfl rfl rfl ⟨rfl, rfl, rfl, rfl, rfl⟩ rfl rfl rfl rfl rfl (by kernel_rfl) Try.func5 (by kernel_rfl)
    (of_decide_eq_true (by kernel_rfl)) (by unfold Func.isWrapper; first | (rw [if_pos (by decide +kernel)]; kernel_rfl) | (rw [if_neg (by decide +kernel)]; exact ⟨rfl, rfl⟩))
    (fun os started H enc _ => lifted os started H enc)

theorem proved : Rows.FnExactHipShapeSaid := over
end LFnExactHipShape


end Go.Proofs.Ytdegfcgknppcoaa
