import Derived.Test.YtfdoehakpeddnaaGutG
import Derived.Test.YtfdoehakpeddnaaWat
import Derived.Test.YtfdoehakpeddnaaNums
import Derived.Test.YtfdoehakpeddnaaLeav
import Derived.Test.YtfdoehakpeddnaaArgN
import Derived.Test.YtfdoehakpeddnaaLs
import Derived.Test.YtfdoehakpeddnaaGutH
import Derived.Test.YtfdoehakpeddnaaK6
import Derived.Deep.RegionHeld3
import Derived.Deep.DeepCutAuto

/- laws.FnExactMinutesAll returns true for every gutter, water, rain, number, and leaves them as they were. No condition. -/
namespace Go.Proofs.Ytfdoehakpeddnaa
open Go.RowKit

set_option maxRecDepth 100000 in
set_option maxHeartbeats 8000000 in
theorem law_walk_FnExactMinutesAll {w : World} {c_g : Array Value} {g_g : Gt} {v_g : Value} (hG_g : IsGut c_g g_g v_g) (hv_g : ArgPp w v_g g_g.m g_g.p) (hm_g : g_g.m ≤ maxLen) {d_w : Array Value} {t_w : Nat → Int} (hW_w : IsWat d_w t_w) {v_r : Value} {m_r : Nat} {r : Nat → Int} (hv_r : NumsAt w v_r m_r r) (_hm_r : m_r ≤ maxLen) (_hb_r : ∀ i, i < m_r → -9223372036854775808 ≤ r i ∧ r i ≤ 9223372036854775807) {y : Int} (_hy : -9223372036854775808 ≤ y ∧ y ≤ 9223372036854775807) :
    Calls Try.prog 4 #[.agg c_g, .agg d_w, v_r, .int .i64 y] w fun e w' => e = .returned (.bool true) ∧ Below w.heap.size w w' := by
  have PB0 := Lib.hid (show Below w.heap.size w ((w.alloc (.cells c_g 28)).alloc (.cells d_w 29)) from ((Below.refl _ _).alloc (Nat.le_refl _) _).alloc (by simp) _)
  have q0_g : rowAt ((w.alloc (.cells c_g 28)).alloc (.cells d_w 29)) w.heap.size = some c_g := (rowAt_alloc_past _ _ _ (by simp)).trans (rowAt_alloc_at _ _ _ _ rfl)
  have q0_w : rowAt ((w.alloc (.cells c_g 28)).alloc (.cells d_w 29)) (w.heap.size + 1) = some d_w := rowAt_alloc_at _ _ _ _ (by simp)
  have HW_w := Lib.hid hW_w
  have zs_w := hW_w.size
  have zo_w := hW_w.ones
  have A_g := Lib.hid (hv_g.below PB0.out (Nat.le_refl _))
  have A_r := Lib.hid (hv_r.below PB0.out (Nat.le_refl _))
  have HG_g := Lib.hid hG_g
  have zs_g := hG_g.size
  have zo_g := hG_g.ones
  obtain ⟨av_g, cv_g, rfl⟩ := hv_g.shape
  obtain ⟨av_r, cv_r, rfl⟩ := hv_r.shape
  clear hv_g hG_g hv_r hW_w
  by_cases hl_r : m_r ≤ 1048576
  rotate_left
  · have hl1_r : (1048576 : Int) < m_r := by omega
    go_enter Try.func4, Try.ntmps4
    go_wp2_with fail
    go_ret
    exact ⟨rfl, PB0.out⟩
  have hl1_r : (m_r : Int) ≤ 1048576 := by omega
  obtain ⟨X0, hX0⟩ : ∃ X : Int, X = if (g_g.m : Int) ≤ 1048576 then (1048576 : Int) - g_g.m else (-1 : Int) := ⟨_, rfl⟩
  have HX0 := Lib.hid hX0
  by_cases hl_g : (g_g.m : Int) ≤ (1048576 : Int)
  rotate_left
  · have hx0 : decide (X0 < 0) = true := by rw [HX0.out, if_neg hl_g]; rfl
    clear hX0
    go_enter Try.func4, Try.ntmps4
    go_wp2_with fail
    refine gen_callsW fun W0 hW => ?_
    rw [← hW] at q0_g q0_w PB0 A_g A_r
    clear hW
    have H0 := Lib.hid (Below.refl W0.heap.size W0)
    refine (szGutter_any _ c_g g_g _ _ HG_g.out (A_g.out.below H0.out (Nat.le_refl _)) ⟨by omega, by omega⟩ hm_g X0 HX0.out).mono ?_
    rintro e w1 ⟨rfl, b1⟩
    have H1 := Lib.hid (bnext H0.out b1 H0.out.size)
    clear b1
    have q1_g := brow H1.out q0_g
    have n1_g := Nat.ne_of_lt (rowAt_lt q1_g)
    have l1_g := rowAt_lt q1_g
    have q1_w := brow H1.out q0_w
    have n1_w := Nat.ne_of_lt (rowAt_lt q1_w)
    have l1_w := rowAt_lt q1_w
    go_wp2_with fail
    go_ret
    exact ⟨rfl, PB0.out.trans (H1.out.mono PB0.out.size)⟩
  rw [if_pos hl_g] at hX0
  have hx0 : decide (X0 < 0) = false := by simp; omega
  have hm1_g : g_g.m ≤ 1048576 := by omega
  clear hX0
  have CS := fun (W : World) (B_g B_r : Nat) (U_g U_r : Option Addr) (Y_g : Array Value) (I_g : IsGut Y_g g_g (.slice U_g g_g.m g_g.m)) (H_g : IsList W B_g (.slice U_g g_g.m g_g.m) 2 g_g.m (pipeV g_g.p)) (H_r : IsList W B_r (.slice U_r m_r m_r) 1 m_r (fun i => .int .i64 (r i))) => specMinutesAll_any B_g B_r m_r Y_g g_g (.slice U_g g_g.m g_g.m) (.slice U_r m_r m_r) d_w t_w r y W I_g H_g (by omega) HW_w.out H_r (by omega)
  have CI := fun (W : World) (B_g B_r : Nat) (U_g U_r : Option Addr) (Y_g : Array Value) (I_g : IsGut Y_g g_g (.slice U_g g_g.m g_g.m)) (H_g : IsList W B_g (.slice U_g g_g.m g_g.m) 2 g_g.m (pipeV g_g.p)) (H_r : IsList W B_r (.slice U_r m_r m_r) 1 m_r (fun i => .int .i64 (r i))) => implMinutesAll_any B_g B_r m_r Y_g g_g (.slice U_g g_g.m g_g.m) (.slice U_r m_r m_r) d_w t_w r y W I_g H_g (by omega) HW_w.out H_r (by omega)
  unfold GivesWat at CS CI
  generalize (g_g.mnT t_w m_r r y) = TT at *
  have hne0 : ((g_g.mnS t_w m_r r y) != (g_g.mnS t_w m_r r y)) = false := by simp
  generalize (g_g.mnS t_w m_r r y) = x0 at *
  have hne1 : ((g_g.mnO t_w m_r r y) != (g_g.mnO t_w m_r r y)) = false := by simp
  generalize (g_g.mnO t_w m_r r y) = x1 at *
  have hne2 : ((g_g.mnC t_w m_r r y) != (g_g.mnC t_w m_r r y)) = false := by simp
  generalize (g_g.mnC t_w m_r r y) = x2 at *
  go_enter Try.func4, Try.ntmps4
  go_wp2_with fail
  refine gen_callsW fun W0 hW => ?_
  rw [← hW] at q0_g q0_w PB0 A_g A_r
  clear hW
  have H0 := Lib.hid (Below.refl W0.heap.size W0)
  refine (szGutter_any _ c_g g_g _ _ HG_g.out (A_g.out.below H0.out (Nat.le_refl _)) ⟨by omega, by omega⟩ hm_g X0 HX0.out).mono ?_
  rintro e w1 ⟨rfl, b1⟩
  have H1 := Lib.hid (bnext H0.out b1 H0.out.size)
  clear b1
  have q1_g := brow H1.out q0_g
  have n1_g := Nat.ne_of_lt (rowAt_lt q1_g)
  have l1_g := rowAt_lt q1_g
  have q1_w := brow H1.out q0_w
  have n1_w := Nat.ne_of_lt (rowAt_lt q1_w)
  have l1_w := rowAt_lt q1_w
  go_wp2_with fail
  have hzo := zeroW_is.ones
  unfold zeroW at hzo
  have hzs : zeroW.size = 17 := rfl
  have HD := H1.out
  have Q_g := q1_g
  have Q_w := q1_w
  go_cut [10, 11, 12, 13] (fun p s0 s1 s2 W' => ∃ (NB : Nat) (cur : Array Value), p = .pointer (some ⟨NB, 0, none⟩) ∧ s0 = .int .i64 x0 ∧ s1 = .int .i64 x1 ∧ s2 = .int .i64 x2 ∧ rowAt W' NB = some cur ∧ IsK .i32 cur 17 TT ∧ Below w1.heap.size w1 W')
  case first =>
    refine wp_region_held_drew (S := fun w' => Below w1.heap.size w1 w') (by kernel_rfl) ((Below.refl _ _).drew) (fun hH => ?_)
    refine wpAnyH_take (i := 0) (v := .agg c_g) rfl (by kernel_rfl) (by kernel_rfl) (by kernel_rfl) (fun _ _ _ h => h) (Or.inl ⟨by rfl, ?_⟩) hH ?_
    · intro w1 hS; (try dsimp only at hS); have s0 := brow hS Q_g; go_simp
    (try simp only [List.getElem_toArray]); (try simp only [List.getElem_cons_succ]); (try simp only [List.getElem_cons_zero]); (try simp only [Act.put]); (try simp only [List.setIfInBounds_toArray]); (try simp only [List.set_cons_succ]); (try simp only [List.set_cons_zero])
    refine wpAnyH_take (i := 2) (v := .agg d_w) rfl (by kernel_rfl) (by kernel_rfl) (by kernel_rfl) (fun _ _ _ h => h) (Or.inl ⟨by rfl, ?_⟩) hH ?_
    · intro w1 hS; (try dsimp only at hS); have s0 := brow hS Q_w; go_simp
    (try simp only [List.getElem_toArray]); (try simp only [List.getElem_cons_succ]); (try simp only [List.getElem_cons_zero]); (try simp only [Act.put]); (try simp only [List.setIfInBounds_toArray]); (try simp only [List.set_cons_succ]); (try simp only [List.set_cons_zero])
    refine wpAnyH_take (i := 4) (v := .slice av_r m_r cv_r) rfl (by kernel_rfl) (by kernel_rfl) (by kernel_rfl) (fun _ _ _ h => h) (Or.inl ⟨by rfl, ?_⟩) hH ?_
    · intro w1 hS; (try dsimp only at hS); go_simp
    (try simp only [List.getElem_toArray]); (try simp only [List.getElem_cons_succ]); (try simp only [List.getElem_cons_zero]); (try simp only [Act.put]); (try simp only [List.setIfInBounds_toArray]); (try simp only [List.set_cons_succ]); (try simp only [List.set_cons_zero])
    refine wpAnyH_take (i := 6) (v := .int .i64 y) rfl (by kernel_rfl) (by kernel_rfl) (by kernel_rfl) (fun _ _ _ h => h) (Or.inl ⟨by rfl, ?_⟩) hH ?_
    · intro w1 hS; (try dsimp only at hS); go_simp
    (try simp only [List.getElem_toArray]); (try simp only [List.getElem_cons_succ]); (try simp only [List.getElem_cons_zero]); (try simp only [Act.put]); (try simp only [List.setIfInBounds_toArray]); (try simp only [List.set_cons_succ]); (try simp only [List.set_cons_zero])
    refine wpAnyH_ready (rs := [1, 13]) (by kernel_rfl) (by simp) (AllReadyH.cons rfl (fun K hK => ?_) (AllReadyH.cons rfl (fun K hK => ?_) AllReadyH.nil))
    · go_simp
      refine (toGutter_any c_g g_g _ _ HG_g.out (A_g.out.below (bnext HD hH HD.size) (Nat.le_refl _)) (by omega)).mono ?_
      rintro x wx0 ⟨u_s, rfl, k_s, bx⟩
      have LS := Lib.hid k_s
      have IS := Lib.hid (HG_g.out.setP' u_s g_g.m)
      clear k_s
      go_simp
      refine hK.out _ _ (bnext hH bx hH.size) (fun hG => ?_)
      clear hK K hH bx
      replace hH := hG
      clear hG
      (try simp only [List.getElem_toArray]); (try simp only [List.getElem_cons_succ]); (try simp only [List.getElem_cons_zero]); (try simp only [Act.put]); (try simp only [List.setIfInBounds_toArray]); (try simp only [List.set_cons_succ]); (try simp only [List.set_cons_zero])
      refine wpAnyH_ready (rs := [3, 13]) (by kernel_rfl) (by simp) (AllReadyH.cons rfl (fun K hK => ?_) (AllReadyH.cons rfl (fun K hK => ?_) AllReadyH.nil))
      · go_simp
        refine (toWater_any d_w t_w _ HW_w.out).mono ?_
        rintro x wx1 ⟨rfl, bx⟩
        have LS := Lib.hid (LS.out.below bx (Nat.le_refl _))
        go_simp
        refine hK.out _ _ (bnext hH bx hH.size) (fun hG => ?_)
        clear hK K hH bx
        replace hH := hG
        clear hG
        (try simp only [List.getElem_toArray]); (try simp only [List.getElem_cons_succ]); (try simp only [List.getElem_cons_zero]); (try simp only [Act.put]); (try simp only [List.setIfInBounds_toArray]); (try simp only [List.set_cons_succ]); (try simp only [List.set_cons_zero])
        refine wpAnyH_ready (rs := [5, 13]) (by kernel_rfl) (by simp) (AllReadyH.cons rfl (fun K hK => ?_) (AllReadyH.cons rfl (fun K hK => ?_) AllReadyH.nil))
        · go_simp
          refine (toInt64S_any _ m_r r _ (A_r.out.below (bnext HD hH HD.size) (Nat.le_refl _)) (by omega)).mono ?_
          rintro x wx2 ⟨u_r, rfl, k_r, bx⟩
          have LS := Lib.hid (LS.out.below bx (Nat.le_refl _))
          have LR := Lib.hid k_r
          clear k_r
          go_simp
          refine hK.out _ _ (bnext hH bx hH.size) (fun hG => ?_)
          clear hK K hH bx
          replace hH := hG
          clear hG
          (try simp only [List.getElem_toArray]); (try simp only [List.getElem_cons_succ]); (try simp only [List.getElem_cons_zero]); (try simp only [Act.put]); (try simp only [List.setIfInBounds_toArray]); (try simp only [List.set_cons_succ]); (try simp only [List.set_cons_zero])
          refine wpAnyH_ready (rs := [7, 13]) (by kernel_rfl) (by simp) (AllReadyH.cons rfl (fun K hK => ?_) (AllReadyH.cons rfl (fun K hK => ?_) AllReadyH.nil))
          · go_simp
            refine (CS _ _ _ _ _ _ IS.out LS.out LR.out).mono ?_
            rintro x wx3 ⟨cur, rfl, hI, bx⟩
            have his := hI.size
            have hio := hI.ones
            have HI := Lib.hid hI
            clear hI
            go_simp
            refine hK.out _ _ (bnext hH bx hH.size) (fun hG => ?_)
            clear hK K hH bx
            replace hH := hG
            clear hG
            (try simp only [List.getElem_toArray]); (try simp only [List.getElem_cons_succ]); (try simp only [List.getElem_cons_zero]); (try simp only [Act.put]); (try simp only [List.setIfInBounds_toArray]); (try simp only [List.set_cons_succ]); (try simp only [List.set_cons_zero])
            refine wpAnyH_take (i := 8) (v := .tuple #[.agg cur, .int .i64 x0, .int .i64 x1, .int .i64 x2]) rfl (by kernel_rfl) (by kernel_rfl) (by kernel_rfl) (fun _ _ _ h => h) (Or.inl ⟨by rfl, ?_⟩) hH ?_
            · intro w1 hS; (try dsimp only at hS); go_simp
            (try simp only [List.getElem_toArray]); (try simp only [List.getElem_cons_succ]); (try simp only [List.getElem_cons_zero]); (try simp only [Act.put]); (try simp only [List.setIfInBounds_toArray]); (try simp only [List.set_cons_succ]); (try simp only [List.set_cons_zero])
            refine wpAnyH_take (i := 9) (v := .agg cur) rfl (by kernel_rfl) (by kernel_rfl) (by kernel_rfl) (fun _ _ _ h => h) (Or.inl ⟨by rfl, ?_⟩) hH ?_
            · intro w1 hS; (try dsimp only at hS); go_simp
            (try simp only [List.getElem_toArray]); (try simp only [List.getElem_cons_succ]); (try simp only [List.getElem_cons_zero]); (try simp only [Act.put]); (try simp only [List.setIfInBounds_toArray]); (try simp only [List.set_cons_succ]); (try simp only [List.set_cons_zero])
            refine wpAnyH_take (i := 10) (v := .int .i64 x0) rfl (by kernel_rfl) (by kernel_rfl) (by kernel_rfl) (fun _ _ _ h => h) (Or.inl ⟨by rfl, ?_⟩) hH ?_
            · intro w1 hS; (try dsimp only at hS); go_simp
            (try simp only [List.getElem_toArray]); (try simp only [List.getElem_cons_succ]); (try simp only [List.getElem_cons_zero]); (try simp only [Act.put]); (try simp only [List.setIfInBounds_toArray]); (try simp only [List.set_cons_succ]); (try simp only [List.set_cons_zero])
            refine wpAnyH_take (i := 11) (v := .int .i64 x1) rfl (by kernel_rfl) (by kernel_rfl) (by kernel_rfl) (fun _ _ _ h => h) (Or.inl ⟨by rfl, ?_⟩) hH ?_
            · intro w1 hS; (try dsimp only at hS); go_simp
            (try simp only [List.getElem_toArray]); (try simp only [List.getElem_cons_succ]); (try simp only [List.getElem_cons_zero]); (try simp only [Act.put]); (try simp only [List.setIfInBounds_toArray]); (try simp only [List.set_cons_succ]); (try simp only [List.set_cons_zero])
            refine wpAnyH_take (i := 12) (v := .int .i64 x2) rfl (by kernel_rfl) (by kernel_rfl) (by kernel_rfl) (fun _ _ _ h => h) (Or.inl ⟨by rfl, ?_⟩) hH ?_
            · intro w1 hS; (try dsimp only at hS); go_simp
            (try simp only [List.getElem_toArray]); (try simp only [List.getElem_cons_succ]); (try simp only [List.getElem_cons_zero]); (try simp only [Act.put]); (try simp only [List.setIfInBounds_toArray]); (try simp only [List.set_cons_succ]); (try simp only [List.set_cons_zero])
            refine wpAnyH_ready (rs := [13]) (by kernel_rfl) (by simp) (AllReadyH.cons rfl (fun K hK => ?_) AllReadyH.nil)
            go_simp
            have R13 : rowAt (wx3.alloc (.cells #[.int .i32 0, .int .i32 0, .int .i32 0, .int .i32 0, .int .i32 0, .int .i32 0, .int .i32 0, .int .i32 0, .int .i32 0, .int .i32 0, .int .i32 0, .int .i32 0, .int .i32 0, .int .i32 0, .int .i32 0, .int .i32 0, .int .i32 0] 32)) wx3.heap.size = some zeroW := rowAt_alloc_at _ _ _ _ (by simp)
            have NBge := hH.size
            refine hK.out _ _ (hH.alloc hH.size _) (fun hG => ?_)
            clear hK K hH
            have hH := hG
            clear hG
            (try simp only [List.getElem_toArray]); (try simp only [List.getElem_cons_succ]); (try simp only [List.getElem_cons_zero]); (try simp only [Act.put]); (try simp only [List.setIfInBounds_toArray]); (try simp only [List.set_cons_succ]); (try simp only [List.set_cons_zero])
            have hnb : ∃ NB, NB = wx3.heap.size := ⟨_, rfl⟩
            obtain ⟨NB, hnb⟩ := hnb
            rw [← hnb] at R13 NBge
            (try rw [← hnb])
            clear hnb
            (try have LS := Lib.hid (LS.out.below ((Below.refl _ _).alloc (Nat.le_refl _) (.cells #[.int .i32 0, .int .i32 0, .int .i32 0, .int .i32 0, .int .i32 0, .int .i32 0, .int .i32 0, .int .i32 0, .int .i32 0, .int .i32 0, .int .i32 0, .int .i32 0, .int .i32 0, .int .i32 0, .int .i32 0, .int .i32 0, .int .i32 0] 32)) (Nat.le_refl _)))
            (try have LR := Lib.hid (LR.out.below ((Below.refl _ _).alloc (Nat.le_refl _) (.cells #[.int .i32 0, .int .i32 0, .int .i32 0, .int .i32 0, .int .i32 0, .int .i32 0, .int .i32 0, .int .i32 0, .int .i32 0, .int .i32 0, .int .i32 0, .int .i32 0, .int .i32 0, .int .i32 0, .int .i32 0, .int .i32 0, .int .i32 0] 32)) (Nat.le_refl _)))
            refine wpAnyH_ready (rs := [14]) (by kernel_rfl) (by simp) (AllReadyH.cons rfl (fun K hK => ?_) AllReadyH.nil)
            have l13 := rowAt_lt R13
            go_simp
            have G13 : rowAt (World.setRow _ NB cur) NB = some cur := rowAt_setRow_at _ _ _ (congrArg Option.isSome R13)
            refine hK.out _ _ (below_setRow hH NBge _) (fun hG => ?_)
            clear hK K hH
            have hH := hG
            clear hG
            (try simp only [List.getElem_toArray]); (try simp only [List.getElem_cons_succ]); (try simp only [List.getElem_cons_zero]); (try simp only [Act.put]); (try simp only [List.setIfInBounds_toArray]); (try simp only [List.set_cons_succ]); (try simp only [List.set_cons_zero])
            refine wpAnyH_take (i := 15) (v := .int .i64 x0) rfl (by kernel_rfl) (by kernel_rfl) (by kernel_rfl) (fun _ _ _ h => h) (Or.inl ⟨by rfl, ?_⟩) hH ?_
            · intro w1 hS; (try dsimp only at hS); go_simp
            (try simp only [List.getElem_toArray]); (try simp only [List.getElem_cons_succ]); (try simp only [List.getElem_cons_zero]); (try simp only [Act.put]); (try simp only [List.setIfInBounds_toArray]); (try simp only [List.set_cons_succ]); (try simp only [List.set_cons_zero])
            refine wpAnyH_take (i := 16) (v := .int .i64 x1) rfl (by kernel_rfl) (by kernel_rfl) (by kernel_rfl) (fun _ _ _ h => h) (Or.inl ⟨by rfl, ?_⟩) hH ?_
            · intro w1 hS; (try dsimp only at hS); go_simp
            (try simp only [List.getElem_toArray]); (try simp only [List.getElem_cons_succ]); (try simp only [List.getElem_cons_zero]); (try simp only [Act.put]); (try simp only [List.setIfInBounds_toArray]); (try simp only [List.set_cons_succ]); (try simp only [List.set_cons_zero])
            refine wpAnyH_take (i := 17) (v := .int .i64 x2) rfl (by kernel_rfl) (by kernel_rfl) (by kernel_rfl) (fun _ _ _ h => h) (Or.inl ⟨by rfl, ?_⟩) hH ?_
            · intro w1 hS; (try dsimp only at hS); go_simp
            (try simp only [List.getElem_toArray]); (try simp only [List.getElem_cons_succ]); (try simp only [List.getElem_cons_zero]); (try simp only [Act.put]); (try simp only [List.setIfInBounds_toArray]); (try simp only [List.set_cons_succ]); (try simp only [List.set_cons_zero])
            refine wpAnyH_done (by kernel_rfl) ?_ _
            have GB := hH
            clear hH R13 l13
            go_wp2_with fail
            go_meet
            case rel => exact ⟨NB, cur, rfl, rfl, rfl, rfl, G13, HI.out, GB⟩
          · go_simp
            have R13 : rowAt (wx2.alloc (.cells #[.int .i32 0, .int .i32 0, .int .i32 0, .int .i32 0, .int .i32 0, .int .i32 0, .int .i32 0, .int .i32 0, .int .i32 0, .int .i32 0, .int .i32 0, .int .i32 0, .int .i32 0, .int .i32 0, .int .i32 0, .int .i32 0, .int .i32 0] 32)) wx2.heap.size = some zeroW := rowAt_alloc_at _ _ _ _ (by simp)
            have NBge := hH.size
            refine hK.out _ _ (hH.alloc hH.size _) (fun hG => ?_)
            clear hK K hH
            have hH := hG
            clear hG
            (try simp only [List.getElem_toArray]); (try simp only [List.getElem_cons_succ]); (try simp only [List.getElem_cons_zero]); (try simp only [Act.put]); (try simp only [List.setIfInBounds_toArray]); (try simp only [List.set_cons_succ]); (try simp only [List.set_cons_zero])
            have hnb : ∃ NB, NB = wx2.heap.size := ⟨_, rfl⟩
            obtain ⟨NB, hnb⟩ := hnb
            rw [← hnb] at R13 NBge
            (try rw [← hnb])
            clear hnb
            (try have LS := Lib.hid (LS.out.below ((Below.refl _ _).alloc (Nat.le_refl _) (.cells #[.int .i32 0, .int .i32 0, .int .i32 0, .int .i32 0, .int .i32 0, .int .i32 0, .int .i32 0, .int .i32 0, .int .i32 0, .int .i32 0, .int .i32 0, .int .i32 0, .int .i32 0, .int .i32 0, .int .i32 0, .int .i32 0, .int .i32 0] 32)) (Nat.le_refl _)))
            (try have LR := Lib.hid (LR.out.below ((Below.refl _ _).alloc (Nat.le_refl _) (.cells #[.int .i32 0, .int .i32 0, .int .i32 0, .int .i32 0, .int .i32 0, .int .i32 0, .int .i32 0, .int .i32 0, .int .i32 0, .int .i32 0, .int .i32 0, .int .i32 0, .int .i32 0, .int .i32 0, .int .i32 0, .int .i32 0, .int .i32 0] 32)) (Nat.le_refl _)))
            refine wpAnyH_ready (rs := [7]) (by kernel_rfl) (by simp) (AllReadyH.cons rfl (fun K hK => ?_) AllReadyH.nil)
            go_simp
            refine (CS _ _ _ _ _ _ IS.out LS.out LR.out).mono ?_
            rintro x wx3 ⟨cur, rfl, hI, bx⟩
            have his := hI.size
            have hio := hI.ones
            have HI := Lib.hid hI
            clear hI
            have R13 := brow bx R13
            go_simp
            refine hK.out _ _ (bnext hH bx hH.size) (fun hG => ?_)
            clear hK K hH bx
            replace hH := hG
            clear hG
            (try simp only [List.getElem_toArray]); (try simp only [List.getElem_cons_succ]); (try simp only [List.getElem_cons_zero]); (try simp only [Act.put]); (try simp only [List.setIfInBounds_toArray]); (try simp only [List.set_cons_succ]); (try simp only [List.set_cons_zero])
            refine wpAnyH_take (i := 8) (v := .tuple #[.agg cur, .int .i64 x0, .int .i64 x1, .int .i64 x2]) rfl (by kernel_rfl) (by kernel_rfl) (by kernel_rfl) (fun _ _ _ h => h) (Or.inl ⟨by rfl, ?_⟩) hH ?_
            · intro w1 hS; (try dsimp only at hS); go_simp
            (try simp only [List.getElem_toArray]); (try simp only [List.getElem_cons_succ]); (try simp only [List.getElem_cons_zero]); (try simp only [Act.put]); (try simp only [List.setIfInBounds_toArray]); (try simp only [List.set_cons_succ]); (try simp only [List.set_cons_zero])
            refine wpAnyH_take (i := 9) (v := .agg cur) rfl (by kernel_rfl) (by kernel_rfl) (by kernel_rfl) (fun _ _ _ h => h) (Or.inl ⟨by rfl, ?_⟩) hH ?_
            · intro w1 hS; (try dsimp only at hS); go_simp
            (try simp only [List.getElem_toArray]); (try simp only [List.getElem_cons_succ]); (try simp only [List.getElem_cons_zero]); (try simp only [Act.put]); (try simp only [List.setIfInBounds_toArray]); (try simp only [List.set_cons_succ]); (try simp only [List.set_cons_zero])
            refine wpAnyH_take (i := 10) (v := .int .i64 x0) rfl (by kernel_rfl) (by kernel_rfl) (by kernel_rfl) (fun _ _ _ h => h) (Or.inl ⟨by rfl, ?_⟩) hH ?_
            · intro w1 hS; (try dsimp only at hS); go_simp
            (try simp only [List.getElem_toArray]); (try simp only [List.getElem_cons_succ]); (try simp only [List.getElem_cons_zero]); (try simp only [Act.put]); (try simp only [List.setIfInBounds_toArray]); (try simp only [List.set_cons_succ]); (try simp only [List.set_cons_zero])
            refine wpAnyH_take (i := 11) (v := .int .i64 x1) rfl (by kernel_rfl) (by kernel_rfl) (by kernel_rfl) (fun _ _ _ h => h) (Or.inl ⟨by rfl, ?_⟩) hH ?_
            · intro w1 hS; (try dsimp only at hS); go_simp
            (try simp only [List.getElem_toArray]); (try simp only [List.getElem_cons_succ]); (try simp only [List.getElem_cons_zero]); (try simp only [Act.put]); (try simp only [List.setIfInBounds_toArray]); (try simp only [List.set_cons_succ]); (try simp only [List.set_cons_zero])
            refine wpAnyH_take (i := 12) (v := .int .i64 x2) rfl (by kernel_rfl) (by kernel_rfl) (by kernel_rfl) (fun _ _ _ h => h) (Or.inl ⟨by rfl, ?_⟩) hH ?_
            · intro w1 hS; (try dsimp only at hS); go_simp
            (try simp only [List.getElem_toArray]); (try simp only [List.getElem_cons_succ]); (try simp only [List.getElem_cons_zero]); (try simp only [Act.put]); (try simp only [List.setIfInBounds_toArray]); (try simp only [List.set_cons_succ]); (try simp only [List.set_cons_zero])
            refine wpAnyH_ready (rs := [14]) (by kernel_rfl) (by simp) (AllReadyH.cons rfl (fun K hK => ?_) AllReadyH.nil)
            have l13 := rowAt_lt R13
            go_simp
            have G13 : rowAt (World.setRow _ NB cur) NB = some cur := rowAt_setRow_at _ _ _ (congrArg Option.isSome R13)
            refine hK.out _ _ (below_setRow hH NBge _) (fun hG => ?_)
            clear hK K hH
            have hH := hG
            clear hG
            (try simp only [List.getElem_toArray]); (try simp only [List.getElem_cons_succ]); (try simp only [List.getElem_cons_zero]); (try simp only [Act.put]); (try simp only [List.setIfInBounds_toArray]); (try simp only [List.set_cons_succ]); (try simp only [List.set_cons_zero])
            refine wpAnyH_take (i := 15) (v := .int .i64 x0) rfl (by kernel_rfl) (by kernel_rfl) (by kernel_rfl) (fun _ _ _ h => h) (Or.inl ⟨by rfl, ?_⟩) hH ?_
            · intro w1 hS; (try dsimp only at hS); go_simp
            (try simp only [List.getElem_toArray]); (try simp only [List.getElem_cons_succ]); (try simp only [List.getElem_cons_zero]); (try simp only [Act.put]); (try simp only [List.setIfInBounds_toArray]); (try simp only [List.set_cons_succ]); (try simp only [List.set_cons_zero])
            refine wpAnyH_take (i := 16) (v := .int .i64 x1) rfl (by kernel_rfl) (by kernel_rfl) (by kernel_rfl) (fun _ _ _ h => h) (Or.inl ⟨by rfl, ?_⟩) hH ?_
            · intro w1 hS; (try dsimp only at hS); go_simp
            (try simp only [List.getElem_toArray]); (try simp only [List.getElem_cons_succ]); (try simp only [List.getElem_cons_zero]); (try simp only [Act.put]); (try simp only [List.setIfInBounds_toArray]); (try simp only [List.set_cons_succ]); (try simp only [List.set_cons_zero])
            refine wpAnyH_take (i := 17) (v := .int .i64 x2) rfl (by kernel_rfl) (by kernel_rfl) (by kernel_rfl) (fun _ _ _ h => h) (Or.inl ⟨by rfl, ?_⟩) hH ?_
            · intro w1 hS; (try dsimp only at hS); go_simp
            (try simp only [List.getElem_toArray]); (try simp only [List.getElem_cons_succ]); (try simp only [List.getElem_cons_zero]); (try simp only [Act.put]); (try simp only [List.setIfInBounds_toArray]); (try simp only [List.set_cons_succ]); (try simp only [List.set_cons_zero])
            refine wpAnyH_done (by kernel_rfl) ?_ _
            have GB := hH
            clear hH R13 l13
            go_wp2_with fail
            go_meet
            case rel => exact ⟨NB, cur, rfl, rfl, rfl, rfl, G13, HI.out, GB⟩
        · go_simp
          have R13 : rowAt (wx1.alloc (.cells #[.int .i32 0, .int .i32 0, .int .i32 0, .int .i32 0, .int .i32 0, .int .i32 0, .int .i32 0, .int .i32 0, .int .i32 0, .int .i32 0, .int .i32 0, .int .i32 0, .int .i32 0, .int .i32 0, .int .i32 0, .int .i32 0, .int .i32 0] 32)) wx1.heap.size = some zeroW := rowAt_alloc_at _ _ _ _ (by simp)
          have NBge := hH.size
          refine hK.out _ _ (hH.alloc hH.size _) (fun hG => ?_)
          clear hK K hH
          have hH := hG
          clear hG
          (try simp only [List.getElem_toArray]); (try simp only [List.getElem_cons_succ]); (try simp only [List.getElem_cons_zero]); (try simp only [Act.put]); (try simp only [List.setIfInBounds_toArray]); (try simp only [List.set_cons_succ]); (try simp only [List.set_cons_zero])
          have hnb : ∃ NB, NB = wx1.heap.size := ⟨_, rfl⟩
          obtain ⟨NB, hnb⟩ := hnb
          rw [← hnb] at R13 NBge
          (try rw [← hnb])
          clear hnb
          (try have LS := Lib.hid (LS.out.below ((Below.refl _ _).alloc (Nat.le_refl _) (.cells #[.int .i32 0, .int .i32 0, .int .i32 0, .int .i32 0, .int .i32 0, .int .i32 0, .int .i32 0, .int .i32 0, .int .i32 0, .int .i32 0, .int .i32 0, .int .i32 0, .int .i32 0, .int .i32 0, .int .i32 0, .int .i32 0, .int .i32 0] 32)) (Nat.le_refl _)))
          (try have LR := Lib.hid (LR.out.below ((Below.refl _ _).alloc (Nat.le_refl _) (.cells #[.int .i32 0, .int .i32 0, .int .i32 0, .int .i32 0, .int .i32 0, .int .i32 0, .int .i32 0, .int .i32 0, .int .i32 0, .int .i32 0, .int .i32 0, .int .i32 0, .int .i32 0, .int .i32 0, .int .i32 0, .int .i32 0, .int .i32 0] 32)) (Nat.le_refl _)))
          refine wpAnyH_ready (rs := [5]) (by kernel_rfl) (by simp) (AllReadyH.cons rfl (fun K hK => ?_) AllReadyH.nil)
          go_simp
          refine (toInt64S_any _ m_r r _ (A_r.out.below (bnext HD hH HD.size) (Nat.le_refl _)) (by omega)).mono ?_
          rintro x wx2 ⟨u_r, rfl, k_r, bx⟩
          have LS := Lib.hid (LS.out.below bx (Nat.le_refl _))
          have LR := Lib.hid k_r
          clear k_r
          have R13 := brow bx R13
          go_simp
          refine hK.out _ _ (bnext hH bx hH.size) (fun hG => ?_)
          clear hK K hH bx
          replace hH := hG
          clear hG
          (try simp only [List.getElem_toArray]); (try simp only [List.getElem_cons_succ]); (try simp only [List.getElem_cons_zero]); (try simp only [Act.put]); (try simp only [List.setIfInBounds_toArray]); (try simp only [List.set_cons_succ]); (try simp only [List.set_cons_zero])
          refine wpAnyH_ready (rs := [7]) (by kernel_rfl) (by simp) (AllReadyH.cons rfl (fun K hK => ?_) AllReadyH.nil)
          go_simp
          refine (CS _ _ _ _ _ _ IS.out LS.out LR.out).mono ?_
          rintro x wx3 ⟨cur, rfl, hI, bx⟩
          have his := hI.size
          have hio := hI.ones
          have HI := Lib.hid hI
          clear hI
          have R13 := brow bx R13
          go_simp
          refine hK.out _ _ (bnext hH bx hH.size) (fun hG => ?_)
          clear hK K hH bx
          replace hH := hG
          clear hG
          (try simp only [List.getElem_toArray]); (try simp only [List.getElem_cons_succ]); (try simp only [List.getElem_cons_zero]); (try simp only [Act.put]); (try simp only [List.setIfInBounds_toArray]); (try simp only [List.set_cons_succ]); (try simp only [List.set_cons_zero])
          refine wpAnyH_take (i := 8) (v := .tuple #[.agg cur, .int .i64 x0, .int .i64 x1, .int .i64 x2]) rfl (by kernel_rfl) (by kernel_rfl) (by kernel_rfl) (fun _ _ _ h => h) (Or.inl ⟨by rfl, ?_⟩) hH ?_
          · intro w1 hS; (try dsimp only at hS); go_simp
          (try simp only [List.getElem_toArray]); (try simp only [List.getElem_cons_succ]); (try simp only [List.getElem_cons_zero]); (try simp only [Act.put]); (try simp only [List.setIfInBounds_toArray]); (try simp only [List.set_cons_succ]); (try simp only [List.set_cons_zero])
          refine wpAnyH_take (i := 9) (v := .agg cur) rfl (by kernel_rfl) (by kernel_rfl) (by kernel_rfl) (fun _ _ _ h => h) (Or.inl ⟨by rfl, ?_⟩) hH ?_
          · intro w1 hS; (try dsimp only at hS); go_simp
          (try simp only [List.getElem_toArray]); (try simp only [List.getElem_cons_succ]); (try simp only [List.getElem_cons_zero]); (try simp only [Act.put]); (try simp only [List.setIfInBounds_toArray]); (try simp only [List.set_cons_succ]); (try simp only [List.set_cons_zero])
          refine wpAnyH_take (i := 10) (v := .int .i64 x0) rfl (by kernel_rfl) (by kernel_rfl) (by kernel_rfl) (fun _ _ _ h => h) (Or.inl ⟨by rfl, ?_⟩) hH ?_
          · intro w1 hS; (try dsimp only at hS); go_simp
          (try simp only [List.getElem_toArray]); (try simp only [List.getElem_cons_succ]); (try simp only [List.getElem_cons_zero]); (try simp only [Act.put]); (try simp only [List.setIfInBounds_toArray]); (try simp only [List.set_cons_succ]); (try simp only [List.set_cons_zero])
          refine wpAnyH_take (i := 11) (v := .int .i64 x1) rfl (by kernel_rfl) (by kernel_rfl) (by kernel_rfl) (fun _ _ _ h => h) (Or.inl ⟨by rfl, ?_⟩) hH ?_
          · intro w1 hS; (try dsimp only at hS); go_simp
          (try simp only [List.getElem_toArray]); (try simp only [List.getElem_cons_succ]); (try simp only [List.getElem_cons_zero]); (try simp only [Act.put]); (try simp only [List.setIfInBounds_toArray]); (try simp only [List.set_cons_succ]); (try simp only [List.set_cons_zero])
          refine wpAnyH_take (i := 12) (v := .int .i64 x2) rfl (by kernel_rfl) (by kernel_rfl) (by kernel_rfl) (fun _ _ _ h => h) (Or.inl ⟨by rfl, ?_⟩) hH ?_
          · intro w1 hS; (try dsimp only at hS); go_simp
          (try simp only [List.getElem_toArray]); (try simp only [List.getElem_cons_succ]); (try simp only [List.getElem_cons_zero]); (try simp only [Act.put]); (try simp only [List.setIfInBounds_toArray]); (try simp only [List.set_cons_succ]); (try simp only [List.set_cons_zero])
          refine wpAnyH_ready (rs := [14]) (by kernel_rfl) (by simp) (AllReadyH.cons rfl (fun K hK => ?_) AllReadyH.nil)
          have l13 := rowAt_lt R13
          go_simp
          have G13 : rowAt (World.setRow _ NB cur) NB = some cur := rowAt_setRow_at _ _ _ (congrArg Option.isSome R13)
          refine hK.out _ _ (below_setRow hH NBge _) (fun hG => ?_)
          clear hK K hH
          have hH := hG
          clear hG
          (try simp only [List.getElem_toArray]); (try simp only [List.getElem_cons_succ]); (try simp only [List.getElem_cons_zero]); (try simp only [Act.put]); (try simp only [List.setIfInBounds_toArray]); (try simp only [List.set_cons_succ]); (try simp only [List.set_cons_zero])
          refine wpAnyH_take (i := 15) (v := .int .i64 x0) rfl (by kernel_rfl) (by kernel_rfl) (by kernel_rfl) (fun _ _ _ h => h) (Or.inl ⟨by rfl, ?_⟩) hH ?_
          · intro w1 hS; (try dsimp only at hS); go_simp
          (try simp only [List.getElem_toArray]); (try simp only [List.getElem_cons_succ]); (try simp only [List.getElem_cons_zero]); (try simp only [Act.put]); (try simp only [List.setIfInBounds_toArray]); (try simp only [List.set_cons_succ]); (try simp only [List.set_cons_zero])
          refine wpAnyH_take (i := 16) (v := .int .i64 x1) rfl (by kernel_rfl) (by kernel_rfl) (by kernel_rfl) (fun _ _ _ h => h) (Or.inl ⟨by rfl, ?_⟩) hH ?_
          · intro w1 hS; (try dsimp only at hS); go_simp
          (try simp only [List.getElem_toArray]); (try simp only [List.getElem_cons_succ]); (try simp only [List.getElem_cons_zero]); (try simp only [Act.put]); (try simp only [List.setIfInBounds_toArray]); (try simp only [List.set_cons_succ]); (try simp only [List.set_cons_zero])
          refine wpAnyH_take (i := 17) (v := .int .i64 x2) rfl (by kernel_rfl) (by kernel_rfl) (by kernel_rfl) (fun _ _ _ h => h) (Or.inl ⟨by rfl, ?_⟩) hH ?_
          · intro w1 hS; (try dsimp only at hS); go_simp
          (try simp only [List.getElem_toArray]); (try simp only [List.getElem_cons_succ]); (try simp only [List.getElem_cons_zero]); (try simp only [Act.put]); (try simp only [List.setIfInBounds_toArray]); (try simp only [List.set_cons_succ]); (try simp only [List.set_cons_zero])
          refine wpAnyH_done (by kernel_rfl) ?_ _
          have GB := hH
          clear hH R13 l13
          go_wp2_with fail
          go_meet
          case rel => exact ⟨NB, cur, rfl, rfl, rfl, rfl, G13, HI.out, GB⟩
      · go_simp
        have R13 : rowAt (wx0.alloc (.cells #[.int .i32 0, .int .i32 0, .int .i32 0, .int .i32 0, .int .i32 0, .int .i32 0, .int .i32 0, .int .i32 0, .int .i32 0, .int .i32 0, .int .i32 0, .int .i32 0, .int .i32 0, .int .i32 0, .int .i32 0, .int .i32 0, .int .i32 0] 32)) wx0.heap.size = some zeroW := rowAt_alloc_at _ _ _ _ (by simp)
        have NBge := hH.size
        refine hK.out _ _ (hH.alloc hH.size _) (fun hG => ?_)
        clear hK K hH
        have hH := hG
        clear hG
        (try simp only [List.getElem_toArray]); (try simp only [List.getElem_cons_succ]); (try simp only [List.getElem_cons_zero]); (try simp only [Act.put]); (try simp only [List.setIfInBounds_toArray]); (try simp only [List.set_cons_succ]); (try simp only [List.set_cons_zero])
        have hnb : ∃ NB, NB = wx0.heap.size := ⟨_, rfl⟩
        obtain ⟨NB, hnb⟩ := hnb
        rw [← hnb] at R13 NBge
        (try rw [← hnb])
        clear hnb
        (try have LS := Lib.hid (LS.out.below ((Below.refl _ _).alloc (Nat.le_refl _) (.cells #[.int .i32 0, .int .i32 0, .int .i32 0, .int .i32 0, .int .i32 0, .int .i32 0, .int .i32 0, .int .i32 0, .int .i32 0, .int .i32 0, .int .i32 0, .int .i32 0, .int .i32 0, .int .i32 0, .int .i32 0, .int .i32 0, .int .i32 0] 32)) (Nat.le_refl _)))
        (try have LR := Lib.hid (LR.out.below ((Below.refl _ _).alloc (Nat.le_refl _) (.cells #[.int .i32 0, .int .i32 0, .int .i32 0, .int .i32 0, .int .i32 0, .int .i32 0, .int .i32 0, .int .i32 0, .int .i32 0, .int .i32 0, .int .i32 0, .int .i32 0, .int .i32 0, .int .i32 0, .int .i32 0, .int .i32 0, .int .i32 0] 32)) (Nat.le_refl _)))
        refine wpAnyH_ready (rs := [3]) (by kernel_rfl) (by simp) (AllReadyH.cons rfl (fun K hK => ?_) AllReadyH.nil)
        go_simp
        refine (toWater_any d_w t_w _ HW_w.out).mono ?_
        rintro x wx1 ⟨rfl, bx⟩
        have LS := Lib.hid (LS.out.below bx (Nat.le_refl _))
        have R13 := brow bx R13
        go_simp
        refine hK.out _ _ (bnext hH bx hH.size) (fun hG => ?_)
        clear hK K hH bx
        replace hH := hG
        clear hG
        (try simp only [List.getElem_toArray]); (try simp only [List.getElem_cons_succ]); (try simp only [List.getElem_cons_zero]); (try simp only [Act.put]); (try simp only [List.setIfInBounds_toArray]); (try simp only [List.set_cons_succ]); (try simp only [List.set_cons_zero])
        refine wpAnyH_ready (rs := [5]) (by kernel_rfl) (by simp) (AllReadyH.cons rfl (fun K hK => ?_) AllReadyH.nil)
        go_simp
        refine (toInt64S_any _ m_r r _ (A_r.out.below (bnext HD hH HD.size) (Nat.le_refl _)) (by omega)).mono ?_
        rintro x wx2 ⟨u_r, rfl, k_r, bx⟩
        have LS := Lib.hid (LS.out.below bx (Nat.le_refl _))
        have LR := Lib.hid k_r
        clear k_r
        have R13 := brow bx R13
        go_simp
        refine hK.out _ _ (bnext hH bx hH.size) (fun hG => ?_)
        clear hK K hH bx
        replace hH := hG
        clear hG
        (try simp only [List.getElem_toArray]); (try simp only [List.getElem_cons_succ]); (try simp only [List.getElem_cons_zero]); (try simp only [Act.put]); (try simp only [List.setIfInBounds_toArray]); (try simp only [List.set_cons_succ]); (try simp only [List.set_cons_zero])
        refine wpAnyH_ready (rs := [7]) (by kernel_rfl) (by simp) (AllReadyH.cons rfl (fun K hK => ?_) AllReadyH.nil)
        go_simp
        refine (CS _ _ _ _ _ _ IS.out LS.out LR.out).mono ?_
        rintro x wx3 ⟨cur, rfl, hI, bx⟩
        have his := hI.size
        have hio := hI.ones
        have HI := Lib.hid hI
        clear hI
        have R13 := brow bx R13
        go_simp
        refine hK.out _ _ (bnext hH bx hH.size) (fun hG => ?_)
        clear hK K hH bx
        replace hH := hG
        clear hG
        (try simp only [List.getElem_toArray]); (try simp only [List.getElem_cons_succ]); (try simp only [List.getElem_cons_zero]); (try simp only [Act.put]); (try simp only [List.setIfInBounds_toArray]); (try simp only [List.set_cons_succ]); (try simp only [List.set_cons_zero])
        refine wpAnyH_take (i := 8) (v := .tuple #[.agg cur, .int .i64 x0, .int .i64 x1, .int .i64 x2]) rfl (by kernel_rfl) (by kernel_rfl) (by kernel_rfl) (fun _ _ _ h => h) (Or.inl ⟨by rfl, ?_⟩) hH ?_
        · intro w1 hS; (try dsimp only at hS); go_simp
        (try simp only [List.getElem_toArray]); (try simp only [List.getElem_cons_succ]); (try simp only [List.getElem_cons_zero]); (try simp only [Act.put]); (try simp only [List.setIfInBounds_toArray]); (try simp only [List.set_cons_succ]); (try simp only [List.set_cons_zero])
        refine wpAnyH_take (i := 9) (v := .agg cur) rfl (by kernel_rfl) (by kernel_rfl) (by kernel_rfl) (fun _ _ _ h => h) (Or.inl ⟨by rfl, ?_⟩) hH ?_
        · intro w1 hS; (try dsimp only at hS); go_simp
        (try simp only [List.getElem_toArray]); (try simp only [List.getElem_cons_succ]); (try simp only [List.getElem_cons_zero]); (try simp only [Act.put]); (try simp only [List.setIfInBounds_toArray]); (try simp only [List.set_cons_succ]); (try simp only [List.set_cons_zero])
        refine wpAnyH_take (i := 10) (v := .int .i64 x0) rfl (by kernel_rfl) (by kernel_rfl) (by kernel_rfl) (fun _ _ _ h => h) (Or.inl ⟨by rfl, ?_⟩) hH ?_
        · intro w1 hS; (try dsimp only at hS); go_simp
        (try simp only [List.getElem_toArray]); (try simp only [List.getElem_cons_succ]); (try simp only [List.getElem_cons_zero]); (try simp only [Act.put]); (try simp only [List.setIfInBounds_toArray]); (try simp only [List.set_cons_succ]); (try simp only [List.set_cons_zero])
        refine wpAnyH_take (i := 11) (v := .int .i64 x1) rfl (by kernel_rfl) (by kernel_rfl) (by kernel_rfl) (fun _ _ _ h => h) (Or.inl ⟨by rfl, ?_⟩) hH ?_
        · intro w1 hS; (try dsimp only at hS); go_simp
        (try simp only [List.getElem_toArray]); (try simp only [List.getElem_cons_succ]); (try simp only [List.getElem_cons_zero]); (try simp only [Act.put]); (try simp only [List.setIfInBounds_toArray]); (try simp only [List.set_cons_succ]); (try simp only [List.set_cons_zero])
        refine wpAnyH_take (i := 12) (v := .int .i64 x2) rfl (by kernel_rfl) (by kernel_rfl) (by kernel_rfl) (fun _ _ _ h => h) (Or.inl ⟨by rfl, ?_⟩) hH ?_
        · intro w1 hS; (try dsimp only at hS); go_simp
        (try simp only [List.getElem_toArray]); (try simp only [List.getElem_cons_succ]); (try simp only [List.getElem_cons_zero]); (try simp only [Act.put]); (try simp only [List.setIfInBounds_toArray]); (try simp only [List.set_cons_succ]); (try simp only [List.set_cons_zero])
        refine wpAnyH_ready (rs := [14]) (by kernel_rfl) (by simp) (AllReadyH.cons rfl (fun K hK => ?_) AllReadyH.nil)
        have l13 := rowAt_lt R13
        go_simp
        have G13 : rowAt (World.setRow _ NB cur) NB = some cur := rowAt_setRow_at _ _ _ (congrArg Option.isSome R13)
        refine hK.out _ _ (below_setRow hH NBge _) (fun hG => ?_)
        clear hK K hH
        have hH := hG
        clear hG
        (try simp only [List.getElem_toArray]); (try simp only [List.getElem_cons_succ]); (try simp only [List.getElem_cons_zero]); (try simp only [Act.put]); (try simp only [List.setIfInBounds_toArray]); (try simp only [List.set_cons_succ]); (try simp only [List.set_cons_zero])
        refine wpAnyH_take (i := 15) (v := .int .i64 x0) rfl (by kernel_rfl) (by kernel_rfl) (by kernel_rfl) (fun _ _ _ h => h) (Or.inl ⟨by rfl, ?_⟩) hH ?_
        · intro w1 hS; (try dsimp only at hS); go_simp
        (try simp only [List.getElem_toArray]); (try simp only [List.getElem_cons_succ]); (try simp only [List.getElem_cons_zero]); (try simp only [Act.put]); (try simp only [List.setIfInBounds_toArray]); (try simp only [List.set_cons_succ]); (try simp only [List.set_cons_zero])
        refine wpAnyH_take (i := 16) (v := .int .i64 x1) rfl (by kernel_rfl) (by kernel_rfl) (by kernel_rfl) (fun _ _ _ h => h) (Or.inl ⟨by rfl, ?_⟩) hH ?_
        · intro w1 hS; (try dsimp only at hS); go_simp
        (try simp only [List.getElem_toArray]); (try simp only [List.getElem_cons_succ]); (try simp only [List.getElem_cons_zero]); (try simp only [Act.put]); (try simp only [List.setIfInBounds_toArray]); (try simp only [List.set_cons_succ]); (try simp only [List.set_cons_zero])
        refine wpAnyH_take (i := 17) (v := .int .i64 x2) rfl (by kernel_rfl) (by kernel_rfl) (by kernel_rfl) (fun _ _ _ h => h) (Or.inl ⟨by rfl, ?_⟩) hH ?_
        · intro w1 hS; (try dsimp only at hS); go_simp
        (try simp only [List.getElem_toArray]); (try simp only [List.getElem_cons_succ]); (try simp only [List.getElem_cons_zero]); (try simp only [Act.put]); (try simp only [List.setIfInBounds_toArray]); (try simp only [List.set_cons_succ]); (try simp only [List.set_cons_zero])
        refine wpAnyH_done (by kernel_rfl) ?_ _
        have GB := hH
        clear hH R13 l13
        go_wp2_with fail
        go_meet
        case rel => exact ⟨NB, cur, rfl, rfl, rfl, rfl, G13, HI.out, GB⟩
    · go_simp
      have R13 : rowAt (w1.drew.alloc (.cells #[.int .i32 0, .int .i32 0, .int .i32 0, .int .i32 0, .int .i32 0, .int .i32 0, .int .i32 0, .int .i32 0, .int .i32 0, .int .i32 0, .int .i32 0, .int .i32 0, .int .i32 0, .int .i32 0, .int .i32 0, .int .i32 0, .int .i32 0] 32)) w1.heap.size = some zeroW := rowAt_alloc_at _ _ _ _ (by simp)
      have NBge : w1.heap.size ≤ w1.heap.size := Nat.le_refl _
      refine hK.out _ _ (hH.alloc hH.size _) (fun hG => ?_)
      clear hK K hH
      have hH := hG
      clear hG
      (try simp only [List.getElem_toArray]); (try simp only [List.getElem_cons_succ]); (try simp only [List.getElem_cons_zero]); (try simp only [Act.put]); (try simp only [List.setIfInBounds_toArray]); (try simp only [List.set_cons_succ]); (try simp only [List.set_cons_zero])
      (try have LS := Lib.hid (LS.out.below ((Below.refl _ _).alloc (Nat.le_refl _) (.cells #[.int .i32 0, .int .i32 0, .int .i32 0, .int .i32 0, .int .i32 0, .int .i32 0, .int .i32 0, .int .i32 0, .int .i32 0, .int .i32 0, .int .i32 0, .int .i32 0, .int .i32 0, .int .i32 0, .int .i32 0, .int .i32 0, .int .i32 0] 32)) (Nat.le_refl _)))
      (try have LR := Lib.hid (LR.out.below ((Below.refl _ _).alloc (Nat.le_refl _) (.cells #[.int .i32 0, .int .i32 0, .int .i32 0, .int .i32 0, .int .i32 0, .int .i32 0, .int .i32 0, .int .i32 0, .int .i32 0, .int .i32 0, .int .i32 0, .int .i32 0, .int .i32 0, .int .i32 0, .int .i32 0, .int .i32 0, .int .i32 0] 32)) (Nat.le_refl _)))
      refine wpAnyH_ready (rs := [1]) (by kernel_rfl) (by simp) (AllReadyH.cons rfl (fun K hK => ?_) AllReadyH.nil)
      go_simp
      refine (toGutter_any c_g g_g _ _ HG_g.out (A_g.out.below (bnext HD hH HD.size) (Nat.le_refl _)) (by omega)).mono ?_
      rintro x wx0 ⟨u_s, rfl, k_s, bx⟩
      have LS := Lib.hid k_s
      have IS := Lib.hid (HG_g.out.setP' u_s g_g.m)
      clear k_s
      have R13 := brow bx R13
      go_simp
      refine hK.out _ _ (bnext hH bx hH.size) (fun hG => ?_)
      clear hK K hH bx
      replace hH := hG
      clear hG
      (try simp only [List.getElem_toArray]); (try simp only [List.getElem_cons_succ]); (try simp only [List.getElem_cons_zero]); (try simp only [Act.put]); (try simp only [List.setIfInBounds_toArray]); (try simp only [List.set_cons_succ]); (try simp only [List.set_cons_zero])
      refine wpAnyH_ready (rs := [3]) (by kernel_rfl) (by simp) (AllReadyH.cons rfl (fun K hK => ?_) AllReadyH.nil)
      go_simp
      refine (toWater_any d_w t_w _ HW_w.out).mono ?_
      rintro x wx1 ⟨rfl, bx⟩
      have LS := Lib.hid (LS.out.below bx (Nat.le_refl _))
      have R13 := brow bx R13
      go_simp
      refine hK.out _ _ (bnext hH bx hH.size) (fun hG => ?_)
      clear hK K hH bx
      replace hH := hG
      clear hG
      (try simp only [List.getElem_toArray]); (try simp only [List.getElem_cons_succ]); (try simp only [List.getElem_cons_zero]); (try simp only [Act.put]); (try simp only [List.setIfInBounds_toArray]); (try simp only [List.set_cons_succ]); (try simp only [List.set_cons_zero])
      refine wpAnyH_ready (rs := [5]) (by kernel_rfl) (by simp) (AllReadyH.cons rfl (fun K hK => ?_) AllReadyH.nil)
      go_simp
      refine (toInt64S_any _ m_r r _ (A_r.out.below (bnext HD hH HD.size) (Nat.le_refl _)) (by omega)).mono ?_
      rintro x wx2 ⟨u_r, rfl, k_r, bx⟩
      have LS := Lib.hid (LS.out.below bx (Nat.le_refl _))
      have LR := Lib.hid k_r
      clear k_r
      have R13 := brow bx R13
      go_simp
      refine hK.out _ _ (bnext hH bx hH.size) (fun hG => ?_)
      clear hK K hH bx
      replace hH := hG
      clear hG
      (try simp only [List.getElem_toArray]); (try simp only [List.getElem_cons_succ]); (try simp only [List.getElem_cons_zero]); (try simp only [Act.put]); (try simp only [List.setIfInBounds_toArray]); (try simp only [List.set_cons_succ]); (try simp only [List.set_cons_zero])
      refine wpAnyH_ready (rs := [7]) (by kernel_rfl) (by simp) (AllReadyH.cons rfl (fun K hK => ?_) AllReadyH.nil)
      go_simp
      refine (CS _ _ _ _ _ _ IS.out LS.out LR.out).mono ?_
      rintro x wx3 ⟨cur, rfl, hI, bx⟩
      have his := hI.size
      have hio := hI.ones
      have HI := Lib.hid hI
      clear hI
      have R13 := brow bx R13
      go_simp
      refine hK.out _ _ (bnext hH bx hH.size) (fun hG => ?_)
      clear hK K hH bx
      replace hH := hG
      clear hG
      (try simp only [List.getElem_toArray]); (try simp only [List.getElem_cons_succ]); (try simp only [List.getElem_cons_zero]); (try simp only [Act.put]); (try simp only [List.setIfInBounds_toArray]); (try simp only [List.set_cons_succ]); (try simp only [List.set_cons_zero])
      refine wpAnyH_take (i := 8) (v := .tuple #[.agg cur, .int .i64 x0, .int .i64 x1, .int .i64 x2]) rfl (by kernel_rfl) (by kernel_rfl) (by kernel_rfl) (fun _ _ _ h => h) (Or.inl ⟨by rfl, ?_⟩) hH ?_
      · intro w1 hS; (try dsimp only at hS); go_simp
      (try simp only [List.getElem_toArray]); (try simp only [List.getElem_cons_succ]); (try simp only [List.getElem_cons_zero]); (try simp only [Act.put]); (try simp only [List.setIfInBounds_toArray]); (try simp only [List.set_cons_succ]); (try simp only [List.set_cons_zero])
      refine wpAnyH_take (i := 9) (v := .agg cur) rfl (by kernel_rfl) (by kernel_rfl) (by kernel_rfl) (fun _ _ _ h => h) (Or.inl ⟨by rfl, ?_⟩) hH ?_
      · intro w1 hS; (try dsimp only at hS); go_simp
      (try simp only [List.getElem_toArray]); (try simp only [List.getElem_cons_succ]); (try simp only [List.getElem_cons_zero]); (try simp only [Act.put]); (try simp only [List.setIfInBounds_toArray]); (try simp only [List.set_cons_succ]); (try simp only [List.set_cons_zero])
      refine wpAnyH_take (i := 10) (v := .int .i64 x0) rfl (by kernel_rfl) (by kernel_rfl) (by kernel_rfl) (fun _ _ _ h => h) (Or.inl ⟨by rfl, ?_⟩) hH ?_
      · intro w1 hS; (try dsimp only at hS); go_simp
      (try simp only [List.getElem_toArray]); (try simp only [List.getElem_cons_succ]); (try simp only [List.getElem_cons_zero]); (try simp only [Act.put]); (try simp only [List.setIfInBounds_toArray]); (try simp only [List.set_cons_succ]); (try simp only [List.set_cons_zero])
      refine wpAnyH_take (i := 11) (v := .int .i64 x1) rfl (by kernel_rfl) (by kernel_rfl) (by kernel_rfl) (fun _ _ _ h => h) (Or.inl ⟨by rfl, ?_⟩) hH ?_
      · intro w1 hS; (try dsimp only at hS); go_simp
      (try simp only [List.getElem_toArray]); (try simp only [List.getElem_cons_succ]); (try simp only [List.getElem_cons_zero]); (try simp only [Act.put]); (try simp only [List.setIfInBounds_toArray]); (try simp only [List.set_cons_succ]); (try simp only [List.set_cons_zero])
      refine wpAnyH_take (i := 12) (v := .int .i64 x2) rfl (by kernel_rfl) (by kernel_rfl) (by kernel_rfl) (fun _ _ _ h => h) (Or.inl ⟨by rfl, ?_⟩) hH ?_
      · intro w1 hS; (try dsimp only at hS); go_simp
      (try simp only [List.getElem_toArray]); (try simp only [List.getElem_cons_succ]); (try simp only [List.getElem_cons_zero]); (try simp only [Act.put]); (try simp only [List.setIfInBounds_toArray]); (try simp only [List.set_cons_succ]); (try simp only [List.set_cons_zero])
      refine wpAnyH_ready (rs := [14]) (by kernel_rfl) (by simp) (AllReadyH.cons rfl (fun K hK => ?_) AllReadyH.nil)
      have l13 := rowAt_lt R13
      go_simp
      have G13 : rowAt (World.setRow _ w1.heap.size cur) w1.heap.size = some cur := rowAt_setRow_at _ _ _ (congrArg Option.isSome R13)
      refine hK.out _ _ (below_setRow hH NBge _) (fun hG => ?_)
      clear hK K hH
      have hH := hG
      clear hG
      (try simp only [List.getElem_toArray]); (try simp only [List.getElem_cons_succ]); (try simp only [List.getElem_cons_zero]); (try simp only [Act.put]); (try simp only [List.setIfInBounds_toArray]); (try simp only [List.set_cons_succ]); (try simp only [List.set_cons_zero])
      refine wpAnyH_take (i := 15) (v := .int .i64 x0) rfl (by kernel_rfl) (by kernel_rfl) (by kernel_rfl) (fun _ _ _ h => h) (Or.inl ⟨by rfl, ?_⟩) hH ?_
      · intro w1 hS; (try dsimp only at hS); go_simp
      (try simp only [List.getElem_toArray]); (try simp only [List.getElem_cons_succ]); (try simp only [List.getElem_cons_zero]); (try simp only [Act.put]); (try simp only [List.setIfInBounds_toArray]); (try simp only [List.set_cons_succ]); (try simp only [List.set_cons_zero])
      refine wpAnyH_take (i := 16) (v := .int .i64 x1) rfl (by kernel_rfl) (by kernel_rfl) (by kernel_rfl) (fun _ _ _ h => h) (Or.inl ⟨by rfl, ?_⟩) hH ?_
      · intro w1 hS; (try dsimp only at hS); go_simp
      (try simp only [List.getElem_toArray]); (try simp only [List.getElem_cons_succ]); (try simp only [List.getElem_cons_zero]); (try simp only [Act.put]); (try simp only [List.setIfInBounds_toArray]); (try simp only [List.set_cons_succ]); (try simp only [List.set_cons_zero])
      refine wpAnyH_take (i := 17) (v := .int .i64 x2) rfl (by kernel_rfl) (by kernel_rfl) (by kernel_rfl) (fun _ _ _ h => h) (Or.inl ⟨by rfl, ?_⟩) hH ?_
      · intro w1 hS; (try dsimp only at hS); go_simp
      (try simp only [List.getElem_toArray]); (try simp only [List.getElem_cons_succ]); (try simp only [List.getElem_cons_zero]); (try simp only [Act.put]); (try simp only [List.setIfInBounds_toArray]); (try simp only [List.set_cons_succ]); (try simp only [List.set_cons_zero])
      refine wpAnyH_done (by kernel_rfl) ?_ _
      have GB := hH
      clear hH R13 l13
      go_wp2_with fail
      go_meet
      case rel => exact ⟨w1.heap.size, cur, rfl, rfl, rfl, rfl, G13, HI.out, GB⟩

  case rest =>
    obtain ⟨NB, cur, rfl, rfl, rfl, rfl, Rw_2, hcur, b2⟩ := hcut
    have H2 := Lib.hid (bnext H1.out b2 H1.out.size)
    clear b2 HD Q_g Q_w
    clear q1_g n1_g l1_g q1_w n1_w l1_w
    have q2_g := brow H2.out q0_g
    have n2_g := Nat.ne_of_lt (rowAt_lt q2_g)
    have l2_g := rowAt_lt q2_g
    have q2_w := brow H2.out q0_w
    have n2_w := Nat.ne_of_lt (rowAt_lt q2_w)
    have l2_w := rowAt_lt q2_w
    have n2_Rw := Nat.ne_of_lt (rowAt_lt Rw_2)
    have l2_Rw := rowAt_lt Rw_2
    clear H1
    have HCUR := Lib.hid hcur
    have hcs := hcur.size
    have hco := hcur.ones
    clear hcur
    go_wp2_with fail
    refine (toGutter_any c_g g_g _ _ HG_g.out (A_g.out.below H2.out (Nat.le_refl _)) (by omega)).mono ?_
    rintro e w3 ⟨u_ig, rfl, k_ig, b3⟩
    have H3 := Lib.hid (bnext H2.out b3 H2.out.size)
    have Rw_3 := brow b3 Rw_2
    have Lig_3 := Lib.hid k_ig
    clear k_ig
    clear b3 H2 Rw_2
    clear q2_g n2_g l2_g q2_w n2_w l2_w
    have q3_g := brow H3.out q0_g
    have n3_g := Nat.ne_of_lt (rowAt_lt q3_g)
    have l3_g := rowAt_lt q3_g
    have q3_w := brow H3.out q0_w
    have n3_w := Nat.ne_of_lt (rowAt_lt q3_w)
    have l3_w := rowAt_lt q3_w
    have n3_Rw := Nat.ne_of_lt (rowAt_lt Rw_3)
    have l3_Rw := rowAt_lt Rw_3
    have is_ig := Lib.hid (HG_g.out.setP' u_ig g_g.m)
    obtain ⟨X_ig, hX_ig⟩ : ∃ X, setP c_g (.slice u_ig g_g.m g_g.m) = X := ⟨_, rfl⟩
    rw [hX_ig] at is_ig ⊢
    clear hX_ig
    have xs_ig := is_ig.out.size
    have xo_ig := is_ig.out.ones
    go_wp2_with fail
    refine gen_callsW fun w4 hV => ?_
    have b4 : Below w3.heap.size w3 w4 := by rw [hV]; exact (Below.refl _ _).alloc (Nat.le_refl _) _
    have Rx_4 : rowAt w4 w3.heap.size = some X_ig := by rw [hV]; exact rowAt_alloc_at _ _ _ _ (by simp)
    clear hV
    have H4 := Lib.hid (bnext H3.out b4 H3.out.size)
    have Lig_4 := Lib.hid (Lig_3.out.below b4 (Nat.le_refl _))
    have Rw_4 := brow b4 Rw_3
    clear b4 H3 Lig_3 Rw_3
    clear q3_g n3_g l3_g q3_w n3_w l3_w
    have q4_g := brow H4.out q0_g
    have n4_g := Nat.ne_of_lt (rowAt_lt q4_g)
    have l4_g := rowAt_lt q4_g
    have q4_w := brow H4.out q0_w
    have n4_w := Nat.ne_of_lt (rowAt_lt q4_w)
    have l4_w := rowAt_lt q4_w
    have n4_Rw := Nat.ne_of_lt (rowAt_lt Rw_4)
    have l4_Rw := rowAt_lt Rw_4
    have n4_Rx := Nat.ne_of_lt (rowAt_lt Rx_4)
    have l4_Rx := rowAt_lt Rx_4
    refine (toInt64S_any _ m_r r _ (A_r.out.below H4.out (Nat.le_refl _)) (by omega)).mono ?_
    rintro e w5 ⟨u_ir, rfl, k_ir, b5⟩
    have H5 := Lib.hid (bnext H4.out b5 H4.out.size)
    have Lig_5 := Lib.hid (Lig_4.out.below b5 (Nat.le_refl _))
    have Rw_5 := brow b5 Rw_4
    have Rx_5 := brow b5 Rx_4
    have Lir_5 := Lib.hid k_ir
    clear k_ir
    clear b5 H4 Lig_4 Rw_4 Rx_4
    clear q4_g n4_g l4_g q4_w n4_w l4_w
    have q5_g := brow H5.out q0_g
    have n5_g := Nat.ne_of_lt (rowAt_lt q5_g)
    have l5_g := rowAt_lt q5_g
    have q5_w := brow H5.out q0_w
    have n5_w := Nat.ne_of_lt (rowAt_lt q5_w)
    have l5_w := rowAt_lt q5_w
    have n5_Rw := Nat.ne_of_lt (rowAt_lt Rw_5)
    have l5_Rw := rowAt_lt Rw_5
    have n5_Rx := Nat.ne_of_lt (rowAt_lt Rx_5)
    have l5_Rx := rowAt_lt Rx_5
    go_wp2_with fail
    have HD := H5.out
    have Q_w := q5_w
    have Q_x := Rx_5
    go_cut [16, 17, 18, 19] (fun p s0 s1 s2 W' => ∃ (NB : Nat) (cur : Array Value), p = .pointer (some ⟨NB, 0, none⟩) ∧ s0 = .int .i64 x0 ∧ s1 = .int .i64 x1 ∧ s2 = .int .i64 x2 ∧ rowAt W' NB = some cur ∧ IsK .i32 cur 17 TT ∧ Below w5.heap.size w5 W')
    case first =>
      refine wp_region_held_drew (S := fun w' => Below w5.heap.size w5 w') (by kernel_rfl) ((Below.refl _ _).drew) (fun hH => ?_)
      refine wpAnyH_take (i := 0) (v := .agg X_ig) rfl (by kernel_rfl) (by kernel_rfl) (by kernel_rfl) (fun _ _ _ h => h) (Or.inl ⟨by rfl, ?_⟩) hH ?_
      · intro w1 hS; (try dsimp only at hS); have s0 := brow hS Q_x; go_simp
      (try simp only [List.getElem_toArray]); (try simp only [List.getElem_cons_succ]); (try simp only [List.getElem_cons_zero]); (try simp only [Act.put]); (try simp only [List.setIfInBounds_toArray]); (try simp only [List.set_cons_succ]); (try simp only [List.set_cons_zero])
      refine wpAnyH_take (i := 1) (v := .agg d_w) rfl (by kernel_rfl) (by kernel_rfl) (by kernel_rfl) (fun _ _ _ h => h) (Or.inl ⟨by rfl, ?_⟩) hH ?_
      · intro w1 hS; (try dsimp only at hS); have s0 := brow hS Q_w; go_simp
      (try simp only [List.getElem_toArray]); (try simp only [List.getElem_cons_succ]); (try simp only [List.getElem_cons_zero]); (try simp only [Act.put]); (try simp only [List.setIfInBounds_toArray]); (try simp only [List.set_cons_succ]); (try simp only [List.set_cons_zero])
      refine wpAnyH_take (i := 3) (v := .slice u_ir m_r m_r) rfl (by kernel_rfl) (by kernel_rfl) (by kernel_rfl) (fun _ _ _ h => h) (Or.inl ⟨by rfl, ?_⟩) hH ?_
      · intro w1 hS; (try dsimp only at hS); go_simp
      (try simp only [List.getElem_toArray]); (try simp only [List.getElem_cons_succ]); (try simp only [List.getElem_cons_zero]); (try simp only [Act.put]); (try simp only [List.setIfInBounds_toArray]); (try simp only [List.set_cons_succ]); (try simp only [List.set_cons_zero])
      refine wpAnyH_take (i := 4) (v := .int .i64 y) rfl (by kernel_rfl) (by kernel_rfl) (by kernel_rfl) (fun _ _ _ h => h) (Or.inl ⟨by rfl, ?_⟩) hH ?_
      · intro w1 hS; (try dsimp only at hS); go_simp
      (try simp only [List.getElem_toArray]); (try simp only [List.getElem_cons_succ]); (try simp only [List.getElem_cons_zero]); (try simp only [Act.put]); (try simp only [List.setIfInBounds_toArray]); (try simp only [List.set_cons_succ]); (try simp only [List.set_cons_zero])
      refine wpAnyH_ready (rs := [2, 11]) (by kernel_rfl) (by simp) (AllReadyH.cons rfl (fun K hK => ?_) (AllReadyH.cons rfl (fun K hK => ?_) AllReadyH.nil))
      · go_simp
        refine (toWater_any d_w t_w _ HW_w.out).mono ?_
        rintro x wx0 ⟨rfl, bx⟩
        go_simp
        refine hK.out _ _ (bnext hH bx hH.size) (fun hG => ?_)
        clear hK K hH bx
        replace hH := hG
        clear hG
        (try simp only [List.getElem_toArray]); (try simp only [List.getElem_cons_succ]); (try simp only [List.getElem_cons_zero]); (try simp only [Act.put]); (try simp only [List.setIfInBounds_toArray]); (try simp only [List.set_cons_succ]); (try simp only [List.set_cons_zero])
        refine wpAnyH_ready (rs := [5, 11]) (by kernel_rfl) (by simp) (AllReadyH.cons rfl (fun K hK => ?_) (AllReadyH.cons rfl (fun K hK => ?_) AllReadyH.nil))
        · go_simp
          refine (CI _ _ _ _ _ _ is_ig.out (Lig_5.out.below hH (Nat.le_refl _)) (Lir_5.out.below hH (Nat.le_refl _))).mono ?_
          rintro x wx1 ⟨cur, rfl, hI, bx⟩
          have his := hI.size
          have hio := hI.ones
          have HI := Lib.hid hI
          clear hI
          go_simp
          refine hK.out _ _ (bnext hH bx hH.size) (fun hG => ?_)
          clear hK K hH bx
          replace hH := hG
          clear hG
          (try simp only [List.getElem_toArray]); (try simp only [List.getElem_cons_succ]); (try simp only [List.getElem_cons_zero]); (try simp only [Act.put]); (try simp only [List.setIfInBounds_toArray]); (try simp only [List.set_cons_succ]); (try simp only [List.set_cons_zero])
          refine wpAnyH_take (i := 6) (v := .tuple #[.agg cur, .int .i64 x0, .int .i64 x1, .int .i64 x2]) rfl (by kernel_rfl) (by kernel_rfl) (by kernel_rfl) (fun _ _ _ h => h) (Or.inl ⟨by rfl, ?_⟩) hH ?_
          · intro w1 hS; (try dsimp only at hS); go_simp
          (try simp only [List.getElem_toArray]); (try simp only [List.getElem_cons_succ]); (try simp only [List.getElem_cons_zero]); (try simp only [Act.put]); (try simp only [List.setIfInBounds_toArray]); (try simp only [List.set_cons_succ]); (try simp only [List.set_cons_zero])
          refine wpAnyH_take (i := 7) (v := .agg cur) rfl (by kernel_rfl) (by kernel_rfl) (by kernel_rfl) (fun _ _ _ h => h) (Or.inl ⟨by rfl, ?_⟩) hH ?_
          · intro w1 hS; (try dsimp only at hS); go_simp
          (try simp only [List.getElem_toArray]); (try simp only [List.getElem_cons_succ]); (try simp only [List.getElem_cons_zero]); (try simp only [Act.put]); (try simp only [List.setIfInBounds_toArray]); (try simp only [List.set_cons_succ]); (try simp only [List.set_cons_zero])
          refine wpAnyH_take (i := 8) (v := .int .i64 x0) rfl (by kernel_rfl) (by kernel_rfl) (by kernel_rfl) (fun _ _ _ h => h) (Or.inl ⟨by rfl, ?_⟩) hH ?_
          · intro w1 hS; (try dsimp only at hS); go_simp
          (try simp only [List.getElem_toArray]); (try simp only [List.getElem_cons_succ]); (try simp only [List.getElem_cons_zero]); (try simp only [Act.put]); (try simp only [List.setIfInBounds_toArray]); (try simp only [List.set_cons_succ]); (try simp only [List.set_cons_zero])
          refine wpAnyH_take (i := 9) (v := .int .i64 x1) rfl (by kernel_rfl) (by kernel_rfl) (by kernel_rfl) (fun _ _ _ h => h) (Or.inl ⟨by rfl, ?_⟩) hH ?_
          · intro w1 hS; (try dsimp only at hS); go_simp
          (try simp only [List.getElem_toArray]); (try simp only [List.getElem_cons_succ]); (try simp only [List.getElem_cons_zero]); (try simp only [Act.put]); (try simp only [List.setIfInBounds_toArray]); (try simp only [List.set_cons_succ]); (try simp only [List.set_cons_zero])
          refine wpAnyH_take (i := 10) (v := .int .i64 x2) rfl (by kernel_rfl) (by kernel_rfl) (by kernel_rfl) (fun _ _ _ h => h) (Or.inl ⟨by rfl, ?_⟩) hH ?_
          · intro w1 hS; (try dsimp only at hS); go_simp
          (try simp only [List.getElem_toArray]); (try simp only [List.getElem_cons_succ]); (try simp only [List.getElem_cons_zero]); (try simp only [Act.put]); (try simp only [List.setIfInBounds_toArray]); (try simp only [List.set_cons_succ]); (try simp only [List.set_cons_zero])
          refine wpAnyH_ready (rs := [11]) (by kernel_rfl) (by simp) (AllReadyH.cons rfl (fun K hK => ?_) AllReadyH.nil)
          go_simp
          have R13 : rowAt (wx1.alloc (.cells #[.int .i32 0, .int .i32 0, .int .i32 0, .int .i32 0, .int .i32 0, .int .i32 0, .int .i32 0, .int .i32 0, .int .i32 0, .int .i32 0, .int .i32 0, .int .i32 0, .int .i32 0, .int .i32 0, .int .i32 0, .int .i32 0, .int .i32 0] 32)) wx1.heap.size = some zeroW := rowAt_alloc_at _ _ _ _ (by simp)
          have NBge := hH.size
          refine hK.out _ _ (hH.alloc hH.size _) (fun hG => ?_)
          clear hK K hH
          have hH := hG
          clear hG
          (try simp only [List.getElem_toArray]); (try simp only [List.getElem_cons_succ]); (try simp only [List.getElem_cons_zero]); (try simp only [Act.put]); (try simp only [List.setIfInBounds_toArray]); (try simp only [List.set_cons_succ]); (try simp only [List.set_cons_zero])
          have hnb : ∃ NB, NB = wx1.heap.size := ⟨_, rfl⟩
          obtain ⟨NB, hnb⟩ := hnb
          rw [← hnb] at R13 NBge
          (try rw [← hnb])
          clear hnb
          refine wpAnyH_ready (rs := [12]) (by kernel_rfl) (by simp) (AllReadyH.cons rfl (fun K hK => ?_) AllReadyH.nil)
          have l13 := rowAt_lt R13
          go_simp
          have G13 : rowAt (World.setRow _ NB cur) NB = some cur := rowAt_setRow_at _ _ _ (congrArg Option.isSome R13)
          refine hK.out _ _ (below_setRow hH NBge _) (fun hG => ?_)
          clear hK K hH
          have hH := hG
          clear hG
          (try simp only [List.getElem_toArray]); (try simp only [List.getElem_cons_succ]); (try simp only [List.getElem_cons_zero]); (try simp only [Act.put]); (try simp only [List.setIfInBounds_toArray]); (try simp only [List.set_cons_succ]); (try simp only [List.set_cons_zero])
          refine wpAnyH_take (i := 13) (v := .int .i64 x0) rfl (by kernel_rfl) (by kernel_rfl) (by kernel_rfl) (fun _ _ _ h => h) (Or.inl ⟨by rfl, ?_⟩) hH ?_
          · intro w1 hS; (try dsimp only at hS); go_simp
          (try simp only [List.getElem_toArray]); (try simp only [List.getElem_cons_succ]); (try simp only [List.getElem_cons_zero]); (try simp only [Act.put]); (try simp only [List.setIfInBounds_toArray]); (try simp only [List.set_cons_succ]); (try simp only [List.set_cons_zero])
          refine wpAnyH_take (i := 14) (v := .int .i64 x1) rfl (by kernel_rfl) (by kernel_rfl) (by kernel_rfl) (fun _ _ _ h => h) (Or.inl ⟨by rfl, ?_⟩) hH ?_
          · intro w1 hS; (try dsimp only at hS); go_simp
          (try simp only [List.getElem_toArray]); (try simp only [List.getElem_cons_succ]); (try simp only [List.getElem_cons_zero]); (try simp only [Act.put]); (try simp only [List.setIfInBounds_toArray]); (try simp only [List.set_cons_succ]); (try simp only [List.set_cons_zero])
          refine wpAnyH_take (i := 15) (v := .int .i64 x2) rfl (by kernel_rfl) (by kernel_rfl) (by kernel_rfl) (fun _ _ _ h => h) (Or.inl ⟨by rfl, ?_⟩) hH ?_
          · intro w1 hS; (try dsimp only at hS); go_simp
          (try simp only [List.getElem_toArray]); (try simp only [List.getElem_cons_succ]); (try simp only [List.getElem_cons_zero]); (try simp only [Act.put]); (try simp only [List.setIfInBounds_toArray]); (try simp only [List.set_cons_succ]); (try simp only [List.set_cons_zero])
          refine wpAnyH_done (by kernel_rfl) ?_ _
          have GB := hH
          clear hH R13 l13
          go_wp2_with fail
          go_meet
          case rel => exact ⟨NB, cur, rfl, rfl, rfl, rfl, G13, HI.out, GB⟩
        · go_simp
          have R13 : rowAt (wx0.alloc (.cells #[.int .i32 0, .int .i32 0, .int .i32 0, .int .i32 0, .int .i32 0, .int .i32 0, .int .i32 0, .int .i32 0, .int .i32 0, .int .i32 0, .int .i32 0, .int .i32 0, .int .i32 0, .int .i32 0, .int .i32 0, .int .i32 0, .int .i32 0] 32)) wx0.heap.size = some zeroW := rowAt_alloc_at _ _ _ _ (by simp)
          have NBge := hH.size
          refine hK.out _ _ (hH.alloc hH.size _) (fun hG => ?_)
          clear hK K hH
          have hH := hG
          clear hG
          (try simp only [List.getElem_toArray]); (try simp only [List.getElem_cons_succ]); (try simp only [List.getElem_cons_zero]); (try simp only [Act.put]); (try simp only [List.setIfInBounds_toArray]); (try simp only [List.set_cons_succ]); (try simp only [List.set_cons_zero])
          have hnb : ∃ NB, NB = wx0.heap.size := ⟨_, rfl⟩
          obtain ⟨NB, hnb⟩ := hnb
          rw [← hnb] at R13 NBge
          (try rw [← hnb])
          clear hnb
          refine wpAnyH_ready (rs := [5]) (by kernel_rfl) (by simp) (AllReadyH.cons rfl (fun K hK => ?_) AllReadyH.nil)
          go_simp
          refine (CI _ _ _ _ _ _ is_ig.out (Lig_5.out.below hH (Nat.le_refl _)) (Lir_5.out.below hH (Nat.le_refl _))).mono ?_
          rintro x wx1 ⟨cur, rfl, hI, bx⟩
          have his := hI.size
          have hio := hI.ones
          have HI := Lib.hid hI
          clear hI
          have R13 := brow bx R13
          go_simp
          refine hK.out _ _ (bnext hH bx hH.size) (fun hG => ?_)
          clear hK K hH bx
          replace hH := hG
          clear hG
          (try simp only [List.getElem_toArray]); (try simp only [List.getElem_cons_succ]); (try simp only [List.getElem_cons_zero]); (try simp only [Act.put]); (try simp only [List.setIfInBounds_toArray]); (try simp only [List.set_cons_succ]); (try simp only [List.set_cons_zero])
          refine wpAnyH_take (i := 6) (v := .tuple #[.agg cur, .int .i64 x0, .int .i64 x1, .int .i64 x2]) rfl (by kernel_rfl) (by kernel_rfl) (by kernel_rfl) (fun _ _ _ h => h) (Or.inl ⟨by rfl, ?_⟩) hH ?_
          · intro w1 hS; (try dsimp only at hS); go_simp
          (try simp only [List.getElem_toArray]); (try simp only [List.getElem_cons_succ]); (try simp only [List.getElem_cons_zero]); (try simp only [Act.put]); (try simp only [List.setIfInBounds_toArray]); (try simp only [List.set_cons_succ]); (try simp only [List.set_cons_zero])
          refine wpAnyH_take (i := 7) (v := .agg cur) rfl (by kernel_rfl) (by kernel_rfl) (by kernel_rfl) (fun _ _ _ h => h) (Or.inl ⟨by rfl, ?_⟩) hH ?_
          · intro w1 hS; (try dsimp only at hS); go_simp
          (try simp only [List.getElem_toArray]); (try simp only [List.getElem_cons_succ]); (try simp only [List.getElem_cons_zero]); (try simp only [Act.put]); (try simp only [List.setIfInBounds_toArray]); (try simp only [List.set_cons_succ]); (try simp only [List.set_cons_zero])
          refine wpAnyH_take (i := 8) (v := .int .i64 x0) rfl (by kernel_rfl) (by kernel_rfl) (by kernel_rfl) (fun _ _ _ h => h) (Or.inl ⟨by rfl, ?_⟩) hH ?_
          · intro w1 hS; (try dsimp only at hS); go_simp
          (try simp only [List.getElem_toArray]); (try simp only [List.getElem_cons_succ]); (try simp only [List.getElem_cons_zero]); (try simp only [Act.put]); (try simp only [List.setIfInBounds_toArray]); (try simp only [List.set_cons_succ]); (try simp only [List.set_cons_zero])
          refine wpAnyH_take (i := 9) (v := .int .i64 x1) rfl (by kernel_rfl) (by kernel_rfl) (by kernel_rfl) (fun _ _ _ h => h) (Or.inl ⟨by rfl, ?_⟩) hH ?_
          · intro w1 hS; (try dsimp only at hS); go_simp
          (try simp only [List.getElem_toArray]); (try simp only [List.getElem_cons_succ]); (try simp only [List.getElem_cons_zero]); (try simp only [Act.put]); (try simp only [List.setIfInBounds_toArray]); (try simp only [List.set_cons_succ]); (try simp only [List.set_cons_zero])
          refine wpAnyH_take (i := 10) (v := .int .i64 x2) rfl (by kernel_rfl) (by kernel_rfl) (by kernel_rfl) (fun _ _ _ h => h) (Or.inl ⟨by rfl, ?_⟩) hH ?_
          · intro w1 hS; (try dsimp only at hS); go_simp
          (try simp only [List.getElem_toArray]); (try simp only [List.getElem_cons_succ]); (try simp only [List.getElem_cons_zero]); (try simp only [Act.put]); (try simp only [List.setIfInBounds_toArray]); (try simp only [List.set_cons_succ]); (try simp only [List.set_cons_zero])
          refine wpAnyH_ready (rs := [12]) (by kernel_rfl) (by simp) (AllReadyH.cons rfl (fun K hK => ?_) AllReadyH.nil)
          have l13 := rowAt_lt R13
          go_simp
          have G13 : rowAt (World.setRow _ NB cur) NB = some cur := rowAt_setRow_at _ _ _ (congrArg Option.isSome R13)
          refine hK.out _ _ (below_setRow hH NBge _) (fun hG => ?_)
          clear hK K hH
          have hH := hG
          clear hG
          (try simp only [List.getElem_toArray]); (try simp only [List.getElem_cons_succ]); (try simp only [List.getElem_cons_zero]); (try simp only [Act.put]); (try simp only [List.setIfInBounds_toArray]); (try simp only [List.set_cons_succ]); (try simp only [List.set_cons_zero])
          refine wpAnyH_take (i := 13) (v := .int .i64 x0) rfl (by kernel_rfl) (by kernel_rfl) (by kernel_rfl) (fun _ _ _ h => h) (Or.inl ⟨by rfl, ?_⟩) hH ?_
          · intro w1 hS; (try dsimp only at hS); go_simp
          (try simp only [List.getElem_toArray]); (try simp only [List.getElem_cons_succ]); (try simp only [List.getElem_cons_zero]); (try simp only [Act.put]); (try simp only [List.setIfInBounds_toArray]); (try simp only [List.set_cons_succ]); (try simp only [List.set_cons_zero])
          refine wpAnyH_take (i := 14) (v := .int .i64 x1) rfl (by kernel_rfl) (by kernel_rfl) (by kernel_rfl) (fun _ _ _ h => h) (Or.inl ⟨by rfl, ?_⟩) hH ?_
          · intro w1 hS; (try dsimp only at hS); go_simp
          (try simp only [List.getElem_toArray]); (try simp only [List.getElem_cons_succ]); (try simp only [List.getElem_cons_zero]); (try simp only [Act.put]); (try simp only [List.setIfInBounds_toArray]); (try simp only [List.set_cons_succ]); (try simp only [List.set_cons_zero])
          refine wpAnyH_take (i := 15) (v := .int .i64 x2) rfl (by kernel_rfl) (by kernel_rfl) (by kernel_rfl) (fun _ _ _ h => h) (Or.inl ⟨by rfl, ?_⟩) hH ?_
          · intro w1 hS; (try dsimp only at hS); go_simp
          (try simp only [List.getElem_toArray]); (try simp only [List.getElem_cons_succ]); (try simp only [List.getElem_cons_zero]); (try simp only [Act.put]); (try simp only [List.setIfInBounds_toArray]); (try simp only [List.set_cons_succ]); (try simp only [List.set_cons_zero])
          refine wpAnyH_done (by kernel_rfl) ?_ _
          have GB := hH
          clear hH R13 l13
          go_wp2_with fail
          go_meet
          case rel => exact ⟨NB, cur, rfl, rfl, rfl, rfl, G13, HI.out, GB⟩
      · go_simp
        have R13 : rowAt (w5.drew.alloc (.cells #[.int .i32 0, .int .i32 0, .int .i32 0, .int .i32 0, .int .i32 0, .int .i32 0, .int .i32 0, .int .i32 0, .int .i32 0, .int .i32 0, .int .i32 0, .int .i32 0, .int .i32 0, .int .i32 0, .int .i32 0, .int .i32 0, .int .i32 0] 32)) w5.heap.size = some zeroW := rowAt_alloc_at _ _ _ _ (by simp)
        have NBge : w5.heap.size ≤ w5.heap.size := Nat.le_refl _
        refine hK.out _ _ (hH.alloc hH.size _) (fun hG => ?_)
        clear hK K hH
        have hH := hG
        clear hG
        (try simp only [List.getElem_toArray]); (try simp only [List.getElem_cons_succ]); (try simp only [List.getElem_cons_zero]); (try simp only [Act.put]); (try simp only [List.setIfInBounds_toArray]); (try simp only [List.set_cons_succ]); (try simp only [List.set_cons_zero])
        refine wpAnyH_ready (rs := [2]) (by kernel_rfl) (by simp) (AllReadyH.cons rfl (fun K hK => ?_) AllReadyH.nil)
        go_simp
        refine (toWater_any d_w t_w _ HW_w.out).mono ?_
        rintro x wx0 ⟨rfl, bx⟩
        have R13 := brow bx R13
        go_simp
        refine hK.out _ _ (bnext hH bx hH.size) (fun hG => ?_)
        clear hK K hH bx
        replace hH := hG
        clear hG
        (try simp only [List.getElem_toArray]); (try simp only [List.getElem_cons_succ]); (try simp only [List.getElem_cons_zero]); (try simp only [Act.put]); (try simp only [List.setIfInBounds_toArray]); (try simp only [List.set_cons_succ]); (try simp only [List.set_cons_zero])
        refine wpAnyH_ready (rs := [5]) (by kernel_rfl) (by simp) (AllReadyH.cons rfl (fun K hK => ?_) AllReadyH.nil)
        go_simp
        refine (CI _ _ _ _ _ _ is_ig.out (Lig_5.out.below hH (Nat.le_refl _)) (Lir_5.out.below hH (Nat.le_refl _))).mono ?_
        rintro x wx1 ⟨cur, rfl, hI, bx⟩
        have his := hI.size
        have hio := hI.ones
        have HI := Lib.hid hI
        clear hI
        have R13 := brow bx R13
        go_simp
        refine hK.out _ _ (bnext hH bx hH.size) (fun hG => ?_)
        clear hK K hH bx
        replace hH := hG
        clear hG
        (try simp only [List.getElem_toArray]); (try simp only [List.getElem_cons_succ]); (try simp only [List.getElem_cons_zero]); (try simp only [Act.put]); (try simp only [List.setIfInBounds_toArray]); (try simp only [List.set_cons_succ]); (try simp only [List.set_cons_zero])
        refine wpAnyH_take (i := 6) (v := .tuple #[.agg cur, .int .i64 x0, .int .i64 x1, .int .i64 x2]) rfl (by kernel_rfl) (by kernel_rfl) (by kernel_rfl) (fun _ _ _ h => h) (Or.inl ⟨by rfl, ?_⟩) hH ?_
        · intro w1 hS; (try dsimp only at hS); go_simp
        (try simp only [List.getElem_toArray]); (try simp only [List.getElem_cons_succ]); (try simp only [List.getElem_cons_zero]); (try simp only [Act.put]); (try simp only [List.setIfInBounds_toArray]); (try simp only [List.set_cons_succ]); (try simp only [List.set_cons_zero])
        refine wpAnyH_take (i := 7) (v := .agg cur) rfl (by kernel_rfl) (by kernel_rfl) (by kernel_rfl) (fun _ _ _ h => h) (Or.inl ⟨by rfl, ?_⟩) hH ?_
        · intro w1 hS; (try dsimp only at hS); go_simp
        (try simp only [List.getElem_toArray]); (try simp only [List.getElem_cons_succ]); (try simp only [List.getElem_cons_zero]); (try simp only [Act.put]); (try simp only [List.setIfInBounds_toArray]); (try simp only [List.set_cons_succ]); (try simp only [List.set_cons_zero])
        refine wpAnyH_take (i := 8) (v := .int .i64 x0) rfl (by kernel_rfl) (by kernel_rfl) (by kernel_rfl) (fun _ _ _ h => h) (Or.inl ⟨by rfl, ?_⟩) hH ?_
        · intro w1 hS; (try dsimp only at hS); go_simp
        (try simp only [List.getElem_toArray]); (try simp only [List.getElem_cons_succ]); (try simp only [List.getElem_cons_zero]); (try simp only [Act.put]); (try simp only [List.setIfInBounds_toArray]); (try simp only [List.set_cons_succ]); (try simp only [List.set_cons_zero])
        refine wpAnyH_take (i := 9) (v := .int .i64 x1) rfl (by kernel_rfl) (by kernel_rfl) (by kernel_rfl) (fun _ _ _ h => h) (Or.inl ⟨by rfl, ?_⟩) hH ?_
        · intro w1 hS; (try dsimp only at hS); go_simp
        (try simp only [List.getElem_toArray]); (try simp only [List.getElem_cons_succ]); (try simp only [List.getElem_cons_zero]); (try simp only [Act.put]); (try simp only [List.setIfInBounds_toArray]); (try simp only [List.set_cons_succ]); (try simp only [List.set_cons_zero])
        refine wpAnyH_take (i := 10) (v := .int .i64 x2) rfl (by kernel_rfl) (by kernel_rfl) (by kernel_rfl) (fun _ _ _ h => h) (Or.inl ⟨by rfl, ?_⟩) hH ?_
        · intro w1 hS; (try dsimp only at hS); go_simp
        (try simp only [List.getElem_toArray]); (try simp only [List.getElem_cons_succ]); (try simp only [List.getElem_cons_zero]); (try simp only [Act.put]); (try simp only [List.setIfInBounds_toArray]); (try simp only [List.set_cons_succ]); (try simp only [List.set_cons_zero])
        refine wpAnyH_ready (rs := [12]) (by kernel_rfl) (by simp) (AllReadyH.cons rfl (fun K hK => ?_) AllReadyH.nil)
        have l13 := rowAt_lt R13
        go_simp
        have G13 : rowAt (World.setRow _ w5.heap.size cur) w5.heap.size = some cur := rowAt_setRow_at _ _ _ (congrArg Option.isSome R13)
        refine hK.out _ _ (below_setRow hH NBge _) (fun hG => ?_)
        clear hK K hH
        have hH := hG
        clear hG
        (try simp only [List.getElem_toArray]); (try simp only [List.getElem_cons_succ]); (try simp only [List.getElem_cons_zero]); (try simp only [Act.put]); (try simp only [List.setIfInBounds_toArray]); (try simp only [List.set_cons_succ]); (try simp only [List.set_cons_zero])
        refine wpAnyH_take (i := 13) (v := .int .i64 x0) rfl (by kernel_rfl) (by kernel_rfl) (by kernel_rfl) (fun _ _ _ h => h) (Or.inl ⟨by rfl, ?_⟩) hH ?_
        · intro w1 hS; (try dsimp only at hS); go_simp
        (try simp only [List.getElem_toArray]); (try simp only [List.getElem_cons_succ]); (try simp only [List.getElem_cons_zero]); (try simp only [Act.put]); (try simp only [List.setIfInBounds_toArray]); (try simp only [List.set_cons_succ]); (try simp only [List.set_cons_zero])
        refine wpAnyH_take (i := 14) (v := .int .i64 x1) rfl (by kernel_rfl) (by kernel_rfl) (by kernel_rfl) (fun _ _ _ h => h) (Or.inl ⟨by rfl, ?_⟩) hH ?_
        · intro w1 hS; (try dsimp only at hS); go_simp
        (try simp only [List.getElem_toArray]); (try simp only [List.getElem_cons_succ]); (try simp only [List.getElem_cons_zero]); (try simp only [Act.put]); (try simp only [List.setIfInBounds_toArray]); (try simp only [List.set_cons_succ]); (try simp only [List.set_cons_zero])
        refine wpAnyH_take (i := 15) (v := .int .i64 x2) rfl (by kernel_rfl) (by kernel_rfl) (by kernel_rfl) (fun _ _ _ h => h) (Or.inl ⟨by rfl, ?_⟩) hH ?_
        · intro w1 hS; (try dsimp only at hS); go_simp
        (try simp only [List.getElem_toArray]); (try simp only [List.getElem_cons_succ]); (try simp only [List.getElem_cons_zero]); (try simp only [Act.put]); (try simp only [List.setIfInBounds_toArray]); (try simp only [List.set_cons_succ]); (try simp only [List.set_cons_zero])
        refine wpAnyH_done (by kernel_rfl) ?_ _
        have GB := hH
        clear hH R13 l13
        go_wp2_with fail
        go_meet
        case rel => exact ⟨w5.heap.size, cur, rfl, rfl, rfl, rfl, G13, HI.out, GB⟩

    case rest =>
      obtain ⟨NC, cuv, rfl, rfl, rfl, rfl, Rv_6, hcuv, b6⟩ := hcut
      obtain rfl := hcuv.unique HCUR.out
      clear HD Q_w Q_x
      have H6 := Lib.hid (bnext H5.out b6 H5.out.size)
      have Lig_6 := Lib.hid (Lig_5.out.below b6 (Nat.le_refl _))
      have Lir_6 := Lib.hid (Lir_5.out.below b6 (Nat.le_refl _))
      have Rw_6 := brow b6 Rw_5
      have Rx_6 := brow b6 Rx_5
      clear b6 H5 Lig_5 Lir_5 Rw_5 Rx_5
      clear q5_g n5_g l5_g q5_w n5_w l5_w
      have q6_g := brow H6.out q0_g
      have n6_g := Nat.ne_of_lt (rowAt_lt q6_g)
      have l6_g := rowAt_lt q6_g
      have q6_w := brow H6.out q0_w
      have n6_w := Nat.ne_of_lt (rowAt_lt q6_w)
      have l6_w := rowAt_lt q6_w
      have n6_Rw := Nat.ne_of_lt (rowAt_lt Rw_6)
      have l6_Rw := rowAt_lt Rw_6
      have n6_Rx := Nat.ne_of_lt (rowAt_lt Rx_6)
      have l6_Rx := rowAt_lt Rx_6
      have n6_Rv := Nat.ne_of_lt (rowAt_lt Rv_6)
      have l6_Rv := rowAt_lt Rv_6
      go_wp2_with fail
      refine (eqWater_same _ TT _ HCUR.out).mono ?_
      rintro e w7 ⟨rfl, b7⟩
      have H7 := Lib.hid (bnext H6.out b7 H6.out.size)
      have Lig_7 := Lib.hid (Lig_6.out.below b7 (Nat.le_refl _))
      have Lir_7 := Lib.hid (Lir_6.out.below b7 (Nat.le_refl _))
      have Rw_7 := brow b7 Rw_6
      have Rx_7 := brow b7 Rx_6
      have Rv_7 := brow b7 Rv_6
      clear b7 H6 Lig_6 Lir_6 Rw_6 Rx_6 Rv_6
      clear q6_g n6_g l6_g q6_w n6_w l6_w
      have q7_g := brow H7.out q0_g
      have n7_g := Nat.ne_of_lt (rowAt_lt q7_g)
      have l7_g := rowAt_lt q7_g
      have q7_w := brow H7.out q0_w
      have n7_w := Nat.ne_of_lt (rowAt_lt q7_w)
      have l7_w := rowAt_lt q7_w
      have n7_Rw := Nat.ne_of_lt (rowAt_lt Rw_7)
      have l7_Rw := rowAt_lt Rw_7
      have n7_Rx := Nat.ne_of_lt (rowAt_lt Rx_7)
      have l7_Rx := rowAt_lt Rx_7
      have n7_Rv := Nat.ne_of_lt (rowAt_lt Rv_7)
      have l7_Rv := rowAt_lt Rv_7
      go_wp2_with fail
      refine gen_world fun wD hD => ?_
      have bD := below_of_eqG hD
      clear hD
      have Q_x := brow bD Rx_7
      have XD := Lib.hid (Lig_7.out.below bD (Nat.le_refl _))
      have HD := bnext H7.out bD H7.out.size
      have Q_g := brow HD q0_g
      refine wp_region_held_drew (S := fun w' => Below wD.heap.size wD w') (by kernel_rfl) ((Below.refl _ _).drew) (fun hH => ?_)
      refine wpAnyH_take (i := 0) (v := .agg X_ig) rfl (by kernel_rfl) (by kernel_rfl) (by kernel_rfl) (fun _ _ _ h => h) (Or.inl ⟨by rfl, ?_⟩) hH ?_
      · intro w1 hS; (try dsimp only at hS); have s0 := brow hS Q_x; go_simp
      (try simp only [List.getElem_toArray]); (try simp only [List.getElem_cons_succ]); (try simp only [List.getElem_cons_zero]); (try simp only [Act.put]); (try simp only [List.setIfInBounds_toArray]); (try simp only [List.set_cons_succ]); (try simp only [List.set_cons_zero])
      refine wpAnyH_take (i := 1) (v := .agg c_g) rfl (by kernel_rfl) (by kernel_rfl) (by kernel_rfl) (fun _ _ _ h => h) (Or.inl ⟨by rfl, ?_⟩) hH ?_
      · intro w1 hS; (try dsimp only at hS); have s0 := brow hS Q_g; go_simp
      (try simp only [List.getElem_toArray]); (try simp only [List.getElem_cons_succ]); (try simp only [List.getElem_cons_zero]); (try simp only [Act.put]); (try simp only [List.setIfInBounds_toArray]); (try simp only [List.set_cons_succ]); (try simp only [List.set_cons_zero])
      refine wpAnyH_ready (rs := [2]) (by kernel_rfl) (by simp) (AllReadyH.cons rfl (fun K hK => ?_) AllReadyH.nil)
      go_simp
      refine (toGutter_any c_g g_g _ _ HG_g.out (A_g.out.below (bnext HD hH HD.size) (Nat.le_refl _)) (by omega)).mono ?_
      rintro x wx ⟨u_t, rfl, l_t, bx⟩
      go_simp
      refine hK.out _ _ (bnext hH bx hH.size) (fun hG => ?_)
      clear hK K hH bx
      replace hH := hG
      clear hG
      (try simp only [List.getElem_toArray]); (try simp only [List.getElem_cons_succ]); (try simp only [List.getElem_cons_zero]); (try simp only [Act.put]); (try simp only [List.setIfInBounds_toArray]); (try simp only [List.set_cons_succ]); (try simp only [List.set_cons_zero])
      refine wpAnyH_ready (rs := [3]) (by kernel_rfl) (by simp) (AllReadyH.cons rfl (fun K hK => ?_) AllReadyH.nil)
      go_simp
      refine (eqGutter_same _ _ g_g _ _ _ _ _ is_ig.out (HG_g.out.setP' u_t g_g.m) (XD.out.below hH (Nat.le_refl _)) l_t (by omega)).mono ?_
      rintro x wx ⟨rfl, bx⟩
      go_simp
      refine hK.out _ _ (bnext hH bx hH.size) (fun hG => ?_)
      clear hK K hH bx
      replace hH := hG
      clear hG
      (try simp only [List.getElem_toArray]); (try simp only [List.getElem_cons_succ]); (try simp only [List.getElem_cons_zero]); (try simp only [Act.put]); (try simp only [List.setIfInBounds_toArray]); (try simp only [List.set_cons_succ]); (try simp only [List.set_cons_zero])
      refine wpAnyH_take (i := 4) (v := .bool false) rfl (by kernel_rfl) (by kernel_rfl) (by kernel_rfl) (fun _ _ _ h => h) (Or.inl ⟨by rfl, ?_⟩) hH ?_
      · intro w1 hS; (try dsimp only at hS); go_simp
      (try simp only [List.getElem_toArray]); (try simp only [List.getElem_cons_succ]); (try simp only [List.getElem_cons_zero]); (try simp only [Act.put]); (try simp only [List.setIfInBounds_toArray]); (try simp only [List.set_cons_succ]); (try simp only [List.set_cons_zero])
      refine wpAnyH_done (by kernel_rfl) ?_ _
      have bZ := bD.trans (hH.mono bD.size)
      clear hH bD HD XD l_t Q_x Q_g
      have H8 := Lib.hid (bnext H7.out bZ H7.out.size)
      have Lir_8 := Lib.hid (Lir_7.out.below bZ (Nat.le_refl _))
      clear bZ Lig_7 Lir_7 Rx_7
      go_wp2_with fail
      refine (toInt64S_any _ m_r r _ (A_r.out.below H8.out (Nat.le_refl _)) (by omega)).mono ?_
      rintro e wE ⟨u_e, rfl, k_e, bE⟩
      have HE := Lib.hid (bnext H8.out bE H8.out.size)
      have LE := Lib.hid (Lir_8.out.below bE (Nat.le_refl _))
      have KE := Lib.hid k_e
      clear bE k_e H8 Lir_8
      go_wp2_with fail
      refine (eqI m_r r _ _ _ _ _ LE.out KE.out (by omega)).mono ?_
      rintro e wF ⟨rfl, bF⟩
      have HF := Lib.hid (bnext HE.out bF HE.out.size)
      clear bF
      go_wp2_with fail
      go_ret
      exact ⟨rfl, PB0.out.trans (HF.out.mono PB0.out.size)⟩

namespace LFnExactMinutesAll
open Go.RowKit Go.ChangeShapes Go.WideShapes Go.ChangeAt
theorem own : ownKnob Try.prog.godebug = none := by kernel_rfl
theorem laidOut : laidOutB Try.prog = true := by kernel_rfl
set_option maxRecDepth 100000 in
theorem lifted (os : Os) (started : os.Started) (H : Type) (enc : TypeId × Value → H) :
    ReturnsInHanded {} Try.checked os 4 .any (Rows.fnExactMinutesAllSpec.pre6 enc Try.prog Try.f4 Rows.fnExactMinutesAllRow.domain false) (Rows.fnExactMinutesAllSpec.post enc Try.prog Try.f4 false true false false) := by
  refine returnsInHanded_of_change (C := Try.checked) own started (by kernel_rfl) Try.func4
    (ChangeSpec.witness6 (enc := enc) (C := Try.checked) false ⟨#[], #[.agg (#[.int .i8 0, .int .i16 0] ++ Array.replicate 17 (.int .i8 0) ++ #[.int .u32 0, .slice none 0 0]), .agg (Array.replicate 17 (.int .i32 0)), .slice none 0 0, .int .i64 0], []⟩ 8 (by kernel_rfl) (by kernel_rfl) (by kernel_rfl) (by kernel_rfl)) ?_
  intro W base args ds gs before hval0 hW hcnd _
  have hval : ∀ (j : Nat) t v, Try.f4.params[j]? = some t → args[j]? = some v → Value.okWide Try.prog W .any base t v := hval0
  have hW' := hW
  obtain ⟨p, q, hA0, hV, rfl, hfz, hnd⟩ := hW
  have hA : DataW.TrodAll enc Try.prog W 0 (fun _ => true) true Try.f4.params.toList args.toList ds p := hA0
  rw [Try.params4] at hA hval
  obtain ⟨v0, vs0, d0, ds0, p0, q0, hargs, rfl, rfl, h0, r0⟩ := trodAll_cons hA
  obtain ⟨v1, vs1, d1, ds1, p1, q1, rfl, rfl, rfl, h1, r1⟩ := trodAll_cons r0
  obtain ⟨v2, vs2, d2, ds2, p2, q2, rfl, rfl, rfl, h2, r2⟩ := trodAll_cons r1
  obtain ⟨v3, vs3, d3, ds3, p3, q3, rfl, rfl, rfl, h3, r3⟩ := trodAll_cons r2
  obtain ⟨rfl, rfl, rfl⟩ := trodAll_nil r3
  obtain rfl : args = #[v0, v1, v2, v3] := by cases args; simp_all
  obtain ⟨rfl, rfl⟩ := trodVars_none hV
  have k0 := h0
  have lt0 : ∀ x ∈ p0, x.block < W.heap.size := by obtain ⟨m, hm⟩ := k0; exact DataW.trod_lt m _ _ _ hm
  have k1 := h1
  have lt1 : ∀ x ∈ p1, x.block < W.heap.size := by obtain ⟨m, hm⟩ := k1; exact DataW.trod_lt m _ _ _ hm
  have k2 := h2
  have lt2 : ∀ x ∈ p2, x.block < W.heap.size := by obtain ⟨m, hm⟩ := k2; exact DataW.trod_lt m _ _ _ hm
  obtain ⟨c0, f0, u0, rfl, wf0, hL0, hm0⟩ := open_gut (hval 0 28 v0 rfl rfl) h0
  obtain ⟨c1, f1, rfl, wf1⟩ := open_wat (hval 1 29 v1 rfl rfl) h1
  obtain ⟨len2, cells2, hL2, hm2, hb2⟩ := open_nums (hval 2 30 v2 rfl rfl) h2
  obtain ⟨x3, rfl, rfl, rfl, wx3⟩ := open_int Try.underlying2 (hval 3 2 v3 rfl rfl) h3
  clear hA0 hval0
  refine (law_walk_FnExactMinutesAll wf0 hL0 hm0 wf1 hL2 hm2 hb2 (bounds_i64 wx3)).mono fun e W' ⟨he, bel⟩ => ?_
  subst he
  exact ⟨_, rfl, _, _, _, [], _, [], hW', trodAll_mk1 (shut_bool Try.underlying4 _), (trodAll_cons_mk (Below.trod laidOut (by kernel_rfl) (of_decide_eq_true (by kernel_rfl)) k0 bel lt0) (trodAll_cons_mk (Below.trod laidOut (by kernel_rfl) (of_decide_eq_true (by kernel_rfl)) k1 bel lt1) (trodAll_cons_mk (Below.trod laidOut (by kernel_rfl) (of_decide_eq_true (by kernel_rfl)) k2 bel lt2) (trodAll_cons_mk (shut_int Try.underlying2 wx3) trodAll_mk0)))), rfl, bel.frame _, fun h => by cases h⟩

theorem over : Rows.fnExactMinutesAllRow.holds Try.pinned (OpenSpec.ofChange Rows.fnExactMinutesAllSpec) :=
  OpenClaim.holds_of_wide_leaving 4 Try.f4 rfl rfl rfl rfl rfl rfl rfl ⟨rfl, rfl, rfl, rfl, rfl⟩ rfl rfl rfl rfl rfl (by kernel_rfl) Try.func4 (by kernel_rfl)
    (of_decide_eq_true (by kernel_rfl)) (by unfold Func.isWrapper; first | (rw [if_pos (by decide +kernel)]; kernel_rfl) | (rw [if_neg (by decide +kernel)]; exact ⟨rfl, rfl⟩))
    (fun os started H enc _ => leaving_of_handed (lifted os started H enc))

theorem proved : Rows.FnExactMinutesAllSaid := over
end LFnExactMinutesAll


end Go.Proofs.Ytfdoehakpeddnaa
