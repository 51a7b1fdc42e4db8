/- A list of places of a roof: the program's functions over it. -/
import Derived.Test.YtoibolmippfcgaaDoorMendA
import Derived.Test.YtoibolmippfcgaaDoorErr
import Derived.Test.YtoibolmippfcgaaDoorHasA
import Derived.Deep.RegionHeld3
namespace Go.Proofs.YtoibolmippfcgaaDoor
open Go.RowKit

theorem gen_callsL {P : Program} {f : FuncId} {args : Array Value} {Q : Ending → World → Prop} {w : World} (h : ∀ W, W = w → Calls P f args W Q) : Calls P f args w Q := h w rfl

set_option maxRecDepth 100000 in
set_option maxHeartbeats 1000000 in
theorem mendEach_any (b n : Nat) (c : Array Value) (r : Rf) (f : Nat → Int) (v : Value) (w : World) (hR : IsRoof c r) (ho : r.Ok) (hv : IsList w b v 2 n (fun i => .int .i8 (f i))) (hn : n ≤ 2000000) (hP : r.okP f n) :
    Calls Tryd.prog 50 #[.agg c, v] w fun e w' => e = .returned (.agg (mendC c f n)) ∧ Below w.heap.size w w' := by
  have hc := hR.size
  have hzs := zroof_size
  have HV := Lib.hid hv
  have HP := Lib.hid hP
  obtain ⟨av, cv, rfl⟩ := hv.shape
  clear hv hP
  go_enter Tryd.func50, Tryd.ntmps50
  go_wp2_with fail
  refine gen_world fun W0 hW => ?_
  have p0 : rowAt W0 w.heap.size = some c := by rw [hW]; exact (rowAt_alloc_past _ _ _ (by simp)).trans (rowAt_alloc_at _ _ _ _ rfl)
  have p1 : rowAt W0 (w.heap.size + 1) = some Tryd.zeroCells33 := by rw [hW]; exact rowAt_alloc_at _ _ _ _ (by simp)
  have pB : Below w.heap.size w W0 := by rw [hW]; exact ((Below.refl _ _).alloc (Nat.le_refl _) _).alloc (by simp) _
  have P0 := Lib.hid p0
  have P1 := Lib.hid p1
  have PB := Lib.hid pB
  clear hW p0 p1 pB
  go_loopw [9] (fun i W => ∃ k : Nat, k ≤ n ∧ i = .int .i64 k ∧ rowAt W w.heap.size = some (mendC c f k) ∧ Sole w.heap.size W0 W) (fun i _ => n - (intOf i).toNat)
  case atStart => exact ⟨0, by omega, rfl, P0.out, Sole.refl _ _⟩
  case round =>
    obtain ⟨k, hk, rfl, hrow, hS⟩ := hrel
    have hm := mendC_is hR ho (Rf.okP_le HP.out hk)
    have hms := hm.size
    by_cases hlt : k < n
    · have hL : IsList wr b (.slice av n cv) 2 n (fun i => .int .i8 (f i)) := by
        rcases HV.out with h | ⟨g, cap, cur, e, hg, hr', hs, hf⟩
        · exact .inl h
        · have h1 := rowAt_lt hr'
          exact .inr ⟨g, cap, cur, e, hg, (hS.rows g (by have := rowAt_lt P0.out; omega) (by omega)).trans ((rowAt_below PB.out g h1).trans hr'), hs, hf⟩
      obtain ⟨g, rfl, c0, c1⟩ := hL.pl hlt
      have hin := HP.out k hlt
      obtain ⟨x, hx⟩ := Int.eq_ofNat_of_zero_le hin.1
      obtain ⟨y, hy⟩ := Int.eq_ofNat_of_zero_le hin.2.2.1
      have hx8 : x < 8 := by have := hin.2.1; have := ho.2.2.2.1; omega
      have hy8 : y < 8 := by have := hin.2.2.2; have := ho.2.1; omega
      have hpx : pix f k = x * 8 + y := by unfold pix; rw [hx, hy]; rfl
      rw [hx] at c0
      rw [hy] at c1
      have i0 : 0 ≤ (k : Int) := by omega
      have i1 : (k : Int) < n := by omega
      have lt0 := rowAt_lt hrow
      have HX := Lib.hid hpx
      have HW := Lib.hid hrow
      have HS := Lib.hid hS
      have HM := Lib.hid hm
      clear hin hx hy hpx hS hL hm
      go_wp2_with fail
      refine gen_callsL fun W hW => ?_
      have q0 : rowAt W w.heap.size = some (mendC c f k) := by rw [hW]; exact (rowAt_alloc_past _ _ _ lt0).trans hrow
      have qS : Sole w.heap.size W0 W := by rw [hW]; exact HS.out.alloc (rowAt_lt P0.out) _
      have Q0 := Lib.hid q0
      have QS := Lib.hid qS
      clear hW q0 qS hrow
      refine (mend_any _ _ x y _ HM.out hx8 hy8).mono ?_
      rintro e w2 ⟨rfl, b2⟩
      have s0 := brow b2 Q0.out
      have SS := Lib.hid (QS.out.call (rowAt_lt P0.out) b2)
      have hms2 : ((mendC c f k).setIfInBounds (3 + x * 8 + y) (.int .u8 0)).size = 67 := by simpa using hms
      have hmo2 : Ones ((mendC c f k).setIfInBounds (3 + x * 8 + y) (.int .u8 0)) := by
        have := (HM.out.set (x * 8 + y) (by omega) 0 (by omega)).ones
        rwa [← Nat.add_assoc] at this
      have hE : (mendC c f k).setIfInBounds (3 + x * 8 + y) (.int .u8 0) = mendC c f (k + 1) := by
        show _ = (mendC c f k).setIfInBounds (3 + pix f k) (.int .u8 0)
        rw [HX.out, Nat.add_assoc]
      rw [hE] at hms2 hmo2 ⊢
      have S0 := Lib.hid s0
      have HE := Lib.hid hE
      clear b2 hE c0 c1
      go_wp2_with fail
      refine ⟨⟨k + 1, by omega, by go_num, rowAt_setRow_at _ _ _ (by rw [S0.out]; rfl), ⟨below_setRow SS.out.below (Nat.le_refl _) _, fun m hm hmn => (rowAt_setRow_ne _ _ _ _ hmn).trans (SS.out.rows m hm hmn)⟩⟩, by simp [intOf]; omega⟩
    · obtain rfl : k = n := by omega
      have ho1 := hm.ones
      have s1 : rowAt wr (w.heap.size + 1) = some Tryd.zeroCells33 := (hS.rows _ (by have := rowAt_lt P1.out; omega) (by omega)).trans P1.out
      have hB : Below w.heap.size w wr := PB.out.trans hS.below
      have hne : w.heap.size + 1 ≠ w.heap.size := by omega
      clear hS hm
      go_wp2_with fail
      refine bodyPost_ret (v := .agg (mendC c f k)) (results_row1 rfl _ _ (w.heap.size + 1) _ rfl (by simp [go_sem, s1]) Tryd.underlying33 rfl (by kernel_rfl) hms) rfl ⟨rfl, ?_⟩
      exact below_setRow hB (by omega) _

set_option maxRecDepth 100000 in
set_option maxHeartbeats 1000000 in
theorem dripAfter_any (b n : Nat) (c d : Array Value) (r : Rf) (t f : Nat → Int) (v : Value) (w : World) (hR : IsRoof c r) (hT : IsRain d t) (ho : r.Rains t) (hv : IsList w b v 2 n (fun i => .int .i8 (f i))) (hn : n ≤ 2000000) (hP : r.okP f n) :
    Calls Tryd.prog 31 #[.agg c, .agg d, v] w fun e w' => e = .returned (.int .i64 (r.aft t f n)) ∧ Below w.heap.size w w' := by
  have hc := hR.size
  have hd := hT.size
  have hm := mendC_is hR ho.1 hP
  have hms := hm.size
  have HV := Lib.hid hv
  have CM := fun w hv => mendEach_any b n c r f v w hR ho.1 hv hn hP
  have CD := fun w => dripSum_any _ d _ t w hm hT (Rf.mendL_rains f ho n)
  change ∀ w, Calls _ _ _ w fun e w' => e = .returned (.int .i64 (r.aft t f n)) ∧ _ at CD
  generalize r.aft t f n = s at *
  clear hm hP
  generalize mendC c f n = X at *
  obtain ⟨av, cv, rfl⟩ := hv.shape
  obtain ⟨p0, p1, pB⟩ := two_boxes w c d 33 35
  have hv0 := HV.out.below pB (Nat.le_refl _)
  clear hv
  go_enter Tryd.func31, Tryd.ntmps31
  go_wp2_with fail
  refine gen_world fun W hW => ?_
  rw [← hW] at p0 p1 pB hv0
  clear hW
  refine wp_region_held_drew (S := (fun w' => rowAt w' w.heap.size = some c ∧ rowAt w' (w.heap.size + 1) = some d ∧ IsList w' b (.slice av n cv) 2 n (fun i => .int .i8 (f i)) ∧ Below w.heap.size w w' ∧ w.heap.size ≤ w'.heap.size)) (by kernel_rfl) (⟨p0, p1, hv0, pB.drew, pB.size⟩) (fun hH => ?_)
  refine wpAnyH_take (i := 0) (v := .agg c) rfl (by kernel_rfl) (by kernel_rfl) (by kernel_rfl) (fun _ _ _ h => h) (Or.inl ⟨by rfl, ?_⟩) hH ?_
  · intro w1 hS; (try dsimp only at hS); obtain ⟨s0, s1, _, _⟩ := hS; go_simp
  (try simp only [List.getElem_toArray]); (try simp only [List.getElem_cons_succ]); (try simp only [List.getElem_cons_zero]); (try simp only [Act.put]); (try simp only [List.setIfInBounds_toArray]); (try simp only [List.set_cons_succ]); (try simp only [List.set_cons_zero])
  refine wpAnyH_take (i := 1) (v := .slice av n cv) rfl (by kernel_rfl) (by kernel_rfl) (by kernel_rfl) (fun _ _ _ h => h) (Or.inl ⟨by rfl, ?_⟩) hH ?_
  · intro w1 hS; (try dsimp only at hS); obtain ⟨s0, s1, _, _⟩ := hS; go_simp
  (try simp only [List.getElem_toArray]); (try simp only [List.getElem_cons_succ]); (try simp only [List.getElem_cons_zero]); (try simp only [Act.put]); (try simp only [List.setIfInBounds_toArray]); (try simp only [List.set_cons_succ]); (try simp only [List.set_cons_zero])
  refine wpAnyH_take (i := 3) (v := .agg d) rfl (by kernel_rfl) (by kernel_rfl) (by kernel_rfl) (fun _ _ _ h => h) (Or.inl ⟨by rfl, ?_⟩) hH ?_
  · intro w1 hS; (try dsimp only at hS); obtain ⟨s0, s1, _, _⟩ := hS; go_simp
  (try simp only [List.getElem_toArray]); (try simp only [List.getElem_cons_succ]); (try simp only [List.getElem_cons_zero]); (try simp only [Act.put]); (try simp only [List.setIfInBounds_toArray]); (try simp only [List.set_cons_succ]); (try simp only [List.set_cons_zero])
  refine wpAnyH_ready (rs := [2]) (by kernel_rfl) (by simp) (AllReadyH.cons rfl (fun K hK => ?_) AllReadyH.nil)
  go_simp
  refine (CM _ hH.2.2.1).mono ?_
  rintro x wx ⟨rfl, bx⟩
  go_simp
  refine hK.out _ _ (⟨brow bx hH.1, brow bx hH.2.1, hH.2.2.1.below bx (Nat.le_refl _), bnext hH.2.2.2.1 bx hH.2.2.2.2, Nat.le_trans hH.2.2.2.2 bx.size⟩) (fun hG => ?_)
  clear hK K hH bx
  replace hH := hG
  clear hG
  (try simp only [List.getElem_toArray]); (try simp only [List.getElem_cons_succ]); (try simp only [List.getElem_cons_zero]); (try simp only [Act.put]); (try simp only [List.setIfInBounds_toArray]); (try simp only [List.set_cons_succ]); (try simp only [List.set_cons_zero])
  refine wpAnyH_ready (rs := [4]) (by kernel_rfl) (by simp) (AllReadyH.cons rfl (fun K hK => ?_) AllReadyH.nil)
  go_simp
  refine (CD _).mono ?_
  rintro x wx ⟨rfl, bx⟩
  go_simp
  refine hK.out _ _ (⟨brow bx hH.1, brow bx hH.2.1, hH.2.2.1.below bx (Nat.le_refl _), bnext hH.2.2.2.1 bx hH.2.2.2.2, Nat.le_trans hH.2.2.2.2 bx.size⟩) (fun hG => ?_)
  clear hK K hH bx
  replace hH := hG
  clear hG
  (try simp only [List.getElem_toArray]); (try simp only [List.getElem_cons_succ]); (try simp only [List.getElem_cons_zero]); (try simp only [Act.put]); (try simp only [List.setIfInBounds_toArray]); (try simp only [List.set_cons_succ]); (try simp only [List.set_cons_zero])
  refine wpAnyH_take (i := 5) (v := .int .i64 s) rfl (by kernel_rfl) (by kernel_rfl) (by kernel_rfl) (fun _ _ _ h => h) (Or.inl ⟨by rfl, ?_⟩) hH ?_
  · intro w1 hS; (try dsimp only at hS); go_simp
  (try simp only [List.getElem_toArray]); (try simp only [List.getElem_cons_succ]); (try simp only [List.getElem_cons_zero]); (try simp only [Act.put]); (try simp only [List.setIfInBounds_toArray]); (try simp only [List.set_cons_succ]); (try simp only [List.set_cons_zero])
  refine wpAnyH_done (by kernel_rfl) ?_ _
  go_wp2_with fail
  go_ret
  exact ⟨rfl, hH.2.2.2.1⟩

set_option maxRecDepth 100000 in
set_option maxHeartbeats 1000000 in
theorem checkPlaces_no (a : Nat → Addr) (c d : Array Value) (r : Rf) (t : Nat → Int) (v : Value) (w : World) (hE : Errs a w) (hR : IsRoof c r) (hT : IsRain d t) (ho : ¬ r.Rains t) :
    Calls Tryd.prog 29 #[.agg c, .agg d, v] w fun e w' => e = .returned (errV (a 0)) ∧ Below w.heap.size w w' := by
  have hc := hR.size
  have hd := hT.size
  obtain ⟨p0, p1, pB⟩ := two_boxes w c d 33 35
  have HE := Lib.hid hE
  clear hE
  go_enter Tryd.func29, Tryd.ntmps29
  go_wp2_with fail
  refine (implValidRain_f c d r t _ hR hT ho).mono ?_
  rintro e w1 ⟨rfl, b1⟩
  have B1 := bnext pB b1 pB.size
  have k0 := (HE.out.below B1).v0
  clear b1 p0 p1 pB
  go_wp2_with fail
  go_ret
  exact ⟨rfl, B1⟩

set_option maxRecDepth 100000 in
set_option maxHeartbeats 1000000 in
theorem checkPlaces_ok (a : Nat → Addr) (b n : Nat) (c d : Array Value) (r : Rf) (t f : Nat → Int) (v : Value) (w : World) (hE : Errs a w) (hR : IsRoof c r) (hT : IsRain d t) (ho : r.Rains t)
    (hv : IsList w b v 2 n (fun i => .int .i8 (f i))) (hn : n ≤ 2000000) (hP : r.okP f n) :
    Calls Tryd.prog 29 #[.agg c, .agg d, v] w fun e w' => e = .returned .nilIface ∧ Below w.heap.size w w' := by
  have hc := hR.size
  have hd := hT.size
  obtain ⟨p0, p1, pB⟩ := two_boxes w c d 33 35
  have HE := Lib.hid hE
  have HV := Lib.hid hv
  have CH := fun W H => hasAll_any b n c r v f W hR H hn
  rw [Rf.okB_t hP] at CH
  obtain ⟨av, cv, rfl⟩ := hv.shape
  clear hE hv hP
  go_enter Tryd.func29, Tryd.ntmps29
  go_wp2_with fail
  refine (implValidRain_t c d r t _ hR hT ho).mono ?_
  rintro e w1 ⟨rfl, b1⟩
  have r0 := brow b1 p0
  have B1 := Lib.hid (bnext pB b1 pB.size)
  have HV1 := Lib.hid (HV.out.below B1.out (Nat.le_refl _))
  have HE1 := Lib.hid (HE.out.below B1.out)
  clear b1 p0 p1 pB
  go_wp2_with fail
  refine (CH _ HV1.out).mono ?_
  rintro e w2 ⟨rfl, b2⟩
  have B2 := bnext B1.out b2 B1.out.size
  have k1 := (HE1.out.below b2).v1
  clear b2 r0
  go_wp2_with fail
  go_ret
  exact ⟨rfl, B2⟩
set_option maxRecDepth 100000 in
set_option maxHeartbeats 1000000 in
theorem checkPlaces_bad (a : Nat → Addr) (b n : Nat) (c d : Array Value) (r : Rf) (t f : Nat → Int) (v : Value) (w : World) (hE : Errs a w) (hR : IsRoof c r) (hT : IsRain d t) (ho : r.Rains t)
    (hv : IsList w b v 2 n (fun i => .int .i8 (f i))) (hn : n ≤ 2000000) (hP : ¬ r.okP f n) :
    Calls Tryd.prog 29 #[.agg c, .agg d, v] w fun e w' => e = .returned (errV (a 1)) ∧ Below w.heap.size w w' := by
  have hc := hR.size
  have hd := hT.size
  obtain ⟨p0, p1, pB⟩ := two_boxes w c d 33 35
  have HE := Lib.hid hE
  have HV := Lib.hid hv
  have CH := fun W H => hasAll_any b n c r v f W hR H hn
  rw [Rf.okB_f hP] at CH
  obtain ⟨av, cv, rfl⟩ := hv.shape
  clear hE hv hP
  go_enter Tryd.func29, Tryd.ntmps29
  go_wp2_with fail
  refine (implValidRain_t c d r t _ hR hT ho).mono ?_
  rintro e w1 ⟨rfl, b1⟩
  have r0 := brow b1 p0
  have B1 := Lib.hid (bnext pB b1 pB.size)
  have HV1 := Lib.hid (HV.out.below B1.out (Nat.le_refl _))
  have HE1 := Lib.hid (HE.out.below B1.out)
  clear b1 p0 p1 pB
  go_wp2_with fail
  refine (CH _ HV1.out).mono ?_
  rintro e w2 ⟨rfl, b2⟩
  have B2 := bnext B1.out b2 B1.out.size
  have k1 := (HE1.out.below b2).v1
  clear b2 r0
  go_wp2_with fail
  go_ret
  exact ⟨rfl, B2⟩
end Go.Proofs.YtoibolmippfcgaaDoor
