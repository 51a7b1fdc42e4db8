/- RunDown: the program. -/
import Derived.Test.YtfkcjgeeklngiaaRdown
namespace Go.Proofs.Ytfkcjgeeklngiaa
open Go.RowKit
attribute [local go_sem ↓] Go.wp_at_zero Go.wp_at_succ

set_option maxRecDepth 100000 in
set_option maxHeartbeats 4000000 in
theorem implRunDown_yes (c d : Array Value) (r : Rf) (t : Nat → Int) (w : World) (hR : IsRoof c r) (hT : IsRain d t) (ho : r.Rains t) :
    Calls Try.prog 21 #[.agg c, .agg d] w (RdEnd w (mkI .i32 136 (r.drips t)) (2 * r.w + 1).toNat (r.gut t) 0) := by
  have hc := hR.size
  have hd := hT.size
  obtain ⟨p0, p1, pB⟩ := two_boxes w c d 33 35
  have hz : Try.zeroCells42 = mkI .i32 136 (fun _ => 0) := by kernel_rfl
  have hzs : Try.zeroCells42.size = 136 := by rw [hz]; simp
  have q2 := rowAt_alloc_at ((w.alloc (.cells c 33)).alloc (.cells d 35)) Try.zeroCells42 42 (w.heap.size + 1 + 1) (by simp)
  have hB3 : Below w.heap.size w (((w.alloc (.cells c 33)).alloc (.cells d 35)).alloc (.cells Try.zeroCells42 42)) := pB.alloc (by simp; omega) _
  replace p0 := (rowAt_alloc_past _ (.cells Try.zeroCells42 42) _ (by simp; omega)).trans p0
  replace p1 := (rowAt_alloc_past _ (.cells Try.zeroCells42 42) _ (by simp)).trans p1
  have hw1 := ho.1.1
  have hw8 := ho.1.2.1
  obtain ⟨hh, hhe⟩ := Int.eq_ofNat_of_zero_le (show 0 ≤ r.h by have := ho.1.2.2.1; omega)
  obtain ⟨q, hq⟩ := Int.eq_ofNat_of_zero_le (show 0 ≤ 2 * r.w + 1 by omega)
  have hh8 : hh ≤ 8 := by have := ho.1.2.2.2.1; omega
  have q17 : q ≤ 17 := by omega
  have q1 : 1 ≤ q := by omega
  have CA := fun w => across_any c r w hR
  rw [hq] at CA
  rw [hq, show (q : Int).toNat = q from rfl]
  have hk1 := hR.high (by omega)
  rw [hhe] at hk1
  have CR := fun w => runDown_any c d r t w hR hT ho
  have hF := isFlow_mkF (r.comes t) (r.drips t)
  have hE := hF.dripsK
  have hcom : ∀ i, i < q → (mkF (r.comes t) (r.drips t))[hh * 17 + i]? = some (.int .i64 (r.gut t i)) := fun i hi => by
    rw [hF.comes _ (by omega)]
    unfold Rf.comes Rf.fullG Rf.gut
    rw [hq, show (q : Int).toNat = q from rfl, if_pos ⟨by omega, by omega⟩, show (hh * 17 + i) % 17 = i from by omega, show (hh * 17 + i) / 17 = hh from by omega, hhe]
    rfl
  have hFs := hF.size
  have hFo := hF.ones
  clear hF
  generalize mkF (r.comes t) (r.drips t) = F at *
  have hX := isK_mkI .i32 136 (r.drips t)
  generalize mkI .i32 136 (r.drips t) = X at *
  have hX1 := hX.size
  have hX2 := hX.ones
  have CC := fun nf w hr => clone_any nf (hh * 17) q F (r.gut t) w hr hcom q1 q17
  have HH := Lib.hid hhe
  clear hq hz hhe hcom
  have hh0 : (0 : Int) ≤ hh := by omega
  have hh9 : (hh : Int) < 9 := by omega
  have q0 : (0 : Int) ≤ q := by omega
  have q17' : (q : Int) ≤ 17 := by omega
  go_enter Try.func21, Try.ntmps21
  go_wp2_with fail
  refine (implValidRain_t c d r t _ hR hT ho).mono ?_
  rintro e w1 ⟨rfl, b1⟩
  have s0 := brow b1 p0
  have s1 := brow b1 p1
  have s2 := brow b1 q2
  have B1 := bnext hB3 b1 hB3.size
  clear b1 p0 p1 pB q2 hB3
  go_wp2_with fail
  refine (CR _).mono ?_
  rintro e w2 ⟨rfl, b2⟩
  have u0 := brow b2 s0
  have u2 := brow b2 s2
  have B2 := bnext B1 b2 B1.size
  clear b2 s0 s1 s2 B1
  go_wp2_with fail
  refine gen_world fun W hW => ?_
  have lt0 := rowAt_lt u0
  have lt2 := rowAt_lt u2
  have v0 : rowAt W w.heap.size = some c := by rw [hW]; exact (rowAt_alloc_past _ _ _ lt0).trans u0
  have v2 : rowAt W (w.heap.size + 1 + 1) = some Try.zeroCells42 := by rw [hW]; exact (rowAt_alloc_past _ _ _ lt2).trans u2
  have vF : rowAt W w2.heap.size = some F := by rw [hW]; exact rowAt_alloc_at _ _ _ _ rfl
  have vB : Below w.heap.size w W := by rw [hW]; exact B2.alloc B2.size _
  clear hW u0 u2 B2
  have c1 : W.cell? ⟨w.heap.size, 1, none⟩ = some (.int .i8 hh) := (cell_of_rowAt v0 1).trans (by rw [Array.getElem?_eq_getElem (by omega), hk1])
  go_region_with (first | (go_at_call 61; (with_reducible refine (CA _).mono ?_); rintro x wx ⟨rfl, bx⟩; have g0 := brow bx v0; have g2 := brow bx v2; have gF := brow bx vF; have gB := bnext vB.drew bx vB.size; have gc : wx.cell? ⟨w.heap.size, 1, none⟩ = some (.int .i8 hh) := (cell_of_rowAt g0 1).trans ((cell_of_rowAt v0 1).symm.trans c1); clear bx) | (go_at_call 60; (with_reducible refine (CC w2.heap.size _ gF).mono ?_); rintro x wy ⟨v, rfl, lx, bx⟩; have l2 := rowAt_lt g2; have hsx := gB.size; have g2 := brow bx g2; have gF := brow bx gF; have gB := bnext gB bx gB.size; clear bx))
  all_goals
    go_wp2_with fail
    (try simp only [Act.put, List.getElem_toArray, List.getElem_cons_succ, List.getElem_cons_zero, List.setIfInBounds_toArray, List.set_cons_zero, List.set_cons_succ])
    refine bodyPost_ret (v := .tuple #[.agg X, v, .int .i64 0]) (results_row3 (m := 136) rfl _ _ (w.heap.size + 1 + 1) _ _ _ rfl rfl rfl (rowAt_setRow_at _ _ _ (by rw [g2]; rfl)) Try.underlying42 rfl (by kernel_rfl) hX1) rfl ⟨_, rfl, ?_, ?_⟩
    · exact (lx.of_rows fun g hg => rowAt_setRow_ne _ _ _ _ (by omega)).mono hsx
    · exact below_setRow gB (by omega) _

set_option maxRecDepth 100000 in
set_option maxHeartbeats 1000000 in
theorem implRunDown_no (c d : Array Value) (r : Rf) (t : Nat → Int) (w : World) (hR : IsRoof c r) (hT : IsRain d t) (ho : ¬ r.Rains t) :
    Calls Try.prog 21 #[.agg c, .agg d] w (RdEnd w (mkI .i32 136 fun _ => 0) 0 (r.gut t) 1) := by
  have hc := hR.size
  have hd := hT.size
  obtain ⟨p0, p1, pB⟩ := two_boxes w c d 33 35
  have hz : Try.zeroCells42 = mkI .i32 136 (fun _ => 0) := by kernel_rfl
  have hzs : Try.zeroCells42.size = 136 := by rw [hz]; simp
  have hzo : Ones Try.zeroCells42 := by rw [hz]; exact (isK_mkI _ _ _).ones
  have q2 := rowAt_alloc_at ((w.alloc (.cells c 33)).alloc (.cells d 35)) Try.zeroCells42 42 (w.heap.size + 1 + 1) (by simp)
  have hB3 : Below w.heap.size w (((w.alloc (.cells c 33)).alloc (.cells d 35)).alloc (.cells Try.zeroCells42 42)) := pB.alloc (by simp; omega) _
  replace p0 := (rowAt_alloc_past _ (.cells Try.zeroCells42 42) _ (by simp; omega)).trans p0
  replace p1 := (rowAt_alloc_past _ (.cells Try.zeroCells42 42) _ (by simp)).trans p1
  have HZ := Lib.hid hz
  clear hz
  go_enter Try.func21, Try.ntmps21
  go_wp2_with fail
  refine (implValidRain_f c d r t _ hR hT ho).mono ?_
  rintro e w0 ⟨rfl, b0⟩
  have s2 := brow b0 q2
  have B0 := bnext hB3 b0 hB3.size
  clear b0 p0 p1 pB q2 hB3
  go_wp2_with fail
  refine bodyPost_ret (v := .tuple #[.agg Try.zeroCells42, .slice none 0 0, .int .i64 1]) (results_row3 (m := 136) rfl _ _ (w.heap.size + 1 + 1) _ _ _ rfl rfl rfl (rowAt_setRow_at _ _ _ (by rw [s2]; rfl)) Try.underlying42 rfl (by kernel_rfl) hzs) rfl ⟨_, by rw [HZ.out], .inl ⟨rfl, _, _, rfl⟩, ?_⟩
  exact below_setRow B0 (by omega) _

theorem implRunDown_any (c d : Array Value) (r : Rf) (t : Nat → Int) (w : World) (hR : IsRoof c r) (hT : IsRain d t) :
    Calls Try.prog 21 #[.agg c, .agg d] w (RdEnd w (r.rdA t) (r.rlen t (2 * r.w + 1).toNat) (r.gut t) (r.rcode t)) := by
  by_cases ho : r.Rains t
  · rw [Rf.rcode_t ho, Rf.rlen_t ho, Rf.rdA_t ho]
    exact implRunDown_yes c d r t w hR hT ho
  · rw [Rf.rcode_f ho, Rf.rlen_f ho, Rf.rdA_f ho]
    exact implRunDown_no c d r t w hR hT ho
end Go.Proofs.Ytfkcjgeeklngiaa
