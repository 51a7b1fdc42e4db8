import Derived.Test.YtcopdilmkfmpiaaDoorSight
import Derived.Test.YtcopdilmkfmpiaaDoorDAfter
import Derived.Test.YtcopdilmkfmpiaaDoorEnd
import Derived.RegionTactic
import Derived.Test.YtcopdilmkfmpiaaDoorFirst
import Derived.Test.YtcopdilmkfmpiaaDoorCards
import Derived.Test.YtcopdilmkfmpiaaDoorTie
import Derived.Test.YtcopdilmkfmpiaaDoorLaidN
import Derived.Test.YtcopdilmkfmpiaaDoorErr
import Derived.Test.YtcopdilmkfmpiaaDoorBox

/- What has been seen of a roof: the program's look. -/
namespace Go.Proofs.YtcopdilmkfmpiaaDoor
open Go.RowKit

theorem onesZ_sight : Ones Tryd.zeroCells99 := by
  have h : (Tryd.zeroCells99).toList.all (fun v => v.oneCell') = true := by kernel_rfl
  intro v hv
  exact List.all_eq_true.1 h v (by simpa using hv)

set_option maxRecDepth 100000 in
set_option maxHeartbeats 2000000 in
theorem look_no (a : Nat → Addr) (b n : Nat) (c d X : Array Value) (r : Rf) (t D f : Nat → Int) (v : Value) (w : World) (hE : Errs a w) (hR : IsRoof c r) (hT : IsRain d t) (hX : IsD X D) (hv : IsList w b v 2 n (fun i => .int .i8 (f i))) (_hn : n ≤ 2000000) (ho : ¬ r.Rains t) :
    Calls Tryd.prog 55 #[.agg c, .agg d, .agg X, v] w fun e w' => e = .returned (.tuple #[.agg Tryd.zeroCells99, errV (a 0)]) ∧ Below w.heap.size w w' := by
  have hxs := hX.size
  have hcs := hR.size
  have hds := hT.size
  have hzs := zsight_size
  have hzo : Ones Tryd.zeroCells99 := onesZ_sight
  have ne1 := neqNilE
  have ne0 := neqNil0
  have HE := Lib.hid hE
  have HV := Lib.hid hv
  obtain ⟨av, cv, rfl⟩ := hv.shape
  clear hE hv
  go_enter Tryd.func55, Tryd.ntmps55
  go_wp2_with fail
  refine gen_callsS fun W1 hW => ?_
  have p0 : rowAt W1 w.heap.size = some c := by rw [hW]; exact (rowAt_alloc_past _ _ _ (by first | omega | (simp; done) | (simp; omega))).trans ((rowAt_alloc_past _ _ _ (by first | omega | (simp; done) | (simp; omega))).trans ((rowAt_alloc_past _ _ _ (by simp)).trans (rowAt_alloc_at _ _ _ _ rfl)))
  have p1 : rowAt W1 (w.heap.size + 1) = some d := by rw [hW]; exact (rowAt_alloc_past _ _ _ (by first | omega | (simp; done) | (simp; omega))).trans ((rowAt_alloc_past _ _ _ (by simp)).trans (rowAt_alloc_at _ _ _ _ (by simp)))
  have p2 : rowAt W1 (w.heap.size + 1 + 1) = some X := by rw [hW]; exact (rowAt_alloc_past _ _ _ (by simp)).trans (rowAt_alloc_at _ _ _ _ (by simp))
  have p3 : rowAt W1 (w.heap.size + 1 + 1 + 1) = some Tryd.zeroCells99 := by rw [hW]; exact rowAt_alloc_at _ _ _ _ (by simp)
  have pB : Below w.heap.size w W1 := by rw [hW]; exact ((((Below.refl _ _).alloc (Nat.le_refl _) _).alloc (by simp) _).alloc (by first | omega | (simp; done) | (simp; omega)) _).alloc (by first | omega | (simp; done) | (simp; omega)) _
  have HV1 := Lib.hid (HV.out.below pB (Nat.le_refl _))
  have HE1 := Lib.hid (HE.out.below pB)
  clear hW
  refine (checkPlaces_no a c d r t _ _ HE1.out hR hT ho).mono ?_
  rintro e w2 ⟨rfl, b2⟩
  have s3 := brow b2 p3
  have sB := bnext pB b2 pB.size
  clear b2 p0 p1 p2 p3 pB
  go_wp2_with fail
  refine bodyPost_ret (v := .tuple #[.agg Tryd.zeroCells99, errV (a 0)]) (results_row2 (m := 343) rfl _ _ (w.heap.size + 1 + 1 + 1) _ _ rfl rfl (rowAt_setRow_at _ _ _ (by rw [s3]; rfl)) Tryd.underlying99 rfl (by kernel_rfl) hzs) rfl ⟨rfl, ?_⟩
  exact below_setRow sB (by omega) _

set_option maxRecDepth 100000 in
set_option maxHeartbeats 2000000 in
theorem look_bad (a : Nat → Addr) (b n : Nat) (c d X : Array Value) (r : Rf) (t D f : Nat → Int) (v : Value) (w : World) (hE : Errs a w) (hR : IsRoof c r) (hT : IsRain d t) (hX : IsD X D) (hv : IsList w b v 2 n (fun i => .int .i8 (f i))) (hn : n ≤ 2000000) (ho : r.Rains t) (hP : ¬ r.okP f n) :
    Calls Tryd.prog 55 #[.agg c, .agg d, .agg X, v] w fun e w' => e = .returned (.tuple #[.agg Tryd.zeroCells99, errV (a 1)]) ∧ Below w.heap.size w w' := by
  have hxs := hX.size
  have hcs := hR.size
  have hds := hT.size
  have hzs := zsight_size
  have hzo : Ones Tryd.zeroCells99 := onesZ_sight
  have ne1 := neqNilE
  have ne0 := neqNil0
  have HE := Lib.hid hE
  have HV := Lib.hid hv
  obtain ⟨av, cv, rfl⟩ := hv.shape
  clear hE hv
  go_enter Tryd.func55, Tryd.ntmps55
  go_wp2_with fail
  refine gen_callsS fun W1 hW => ?_
  have p0 : rowAt W1 w.heap.size = some c := by rw [hW]; exact (rowAt_alloc_past _ _ _ (by first | omega | (simp; done) | (simp; omega))).trans ((rowAt_alloc_past _ _ _ (by first | omega | (simp; done) | (simp; omega))).trans ((rowAt_alloc_past _ _ _ (by simp)).trans (rowAt_alloc_at _ _ _ _ rfl)))
  have p1 : rowAt W1 (w.heap.size + 1) = some d := by rw [hW]; exact (rowAt_alloc_past _ _ _ (by first | omega | (simp; done) | (simp; omega))).trans ((rowAt_alloc_past _ _ _ (by simp)).trans (rowAt_alloc_at _ _ _ _ (by simp)))
  have p2 : rowAt W1 (w.heap.size + 1 + 1) = some X := by rw [hW]; exact (rowAt_alloc_past _ _ _ (by simp)).trans (rowAt_alloc_at _ _ _ _ (by simp))
  have p3 : rowAt W1 (w.heap.size + 1 + 1 + 1) = some Tryd.zeroCells99 := by rw [hW]; exact rowAt_alloc_at _ _ _ _ (by simp)
  have pB : Below w.heap.size w W1 := by rw [hW]; exact ((((Below.refl _ _).alloc (Nat.le_refl _) _).alloc (by simp) _).alloc (by first | omega | (simp; done) | (simp; omega)) _).alloc (by first | omega | (simp; done) | (simp; omega)) _
  have HV1 := Lib.hid (HV.out.below pB (Nat.le_refl _))
  have HE1 := Lib.hid (HE.out.below pB)
  clear hW
  refine (checkPlaces_bad a b n c d r t f _ _ HE1.out hR hT ho HV1.out hn hP).mono ?_
  rintro e w2 ⟨rfl, b2⟩
  have s3 := brow b2 p3
  have sB := bnext pB b2 pB.size
  clear b2 p0 p1 p2 p3 pB
  go_wp2_with fail
  refine bodyPost_ret (v := .tuple #[.agg Tryd.zeroCells99, errV (a 1)]) (results_row2 (m := 343) rfl _ _ (w.heap.size + 1 + 1 + 1) _ _ rfl rfl (rowAt_setRow_at _ _ _ (by rw [s3]; rfl)) Tryd.underlying99 rfl (by kernel_rfl) hzs) rfl ⟨rfl, ?_⟩
  exact below_setRow sB (by omega) _

set_option maxRecDepth 100000 in
set_option maxHeartbeats 2000000 in
theorem look_unsound (a : Nat → Addr) (b n : Nat) (c d X : Array Value) (r : Rf) (t D f : Nat → Int) (v : Value) (w : World) (hE : Errs a w) (hR : IsRoof c r) (hT : IsRain d t) (hX : IsD X D) (hv : IsList w b v 2 n (fun i => .int .i8 (f i))) (hn : n ≤ 2000000) (ho : r.Rains t) (hP : r.okP f n) (hs : ¬ r.Sound t D) :
    Calls Tryd.prog 55 #[.agg c, .agg d, .agg X, v] w fun e w' => e = .returned (.tuple #[.agg Tryd.zeroCells99, errV (a 3)]) ∧ Below w.heap.size w w' := by
  have CS := fun w => areSound_any X c d r t D w hX hR hT ho
  rw [Rf.sB_f hs] at CS
  have hxs := hX.size
  have hcs := hR.size
  have hds := hT.size
  have hzs := zsight_size
  have hzo : Ones Tryd.zeroCells99 := onesZ_sight
  have ne1 := neqNilE
  have ne0 := neqNil0
  have HE := Lib.hid hE
  have HV := Lib.hid hv
  obtain ⟨av, cv, rfl⟩ := hv.shape
  clear hE hv
  go_enter Tryd.func55, Tryd.ntmps55
  go_wp2_with fail
  refine gen_callsS fun W1 hW => ?_
  have p0 : rowAt W1 w.heap.size = some c := by rw [hW]; exact (rowAt_alloc_past _ _ _ (by first | omega | (simp; done) | (simp; omega))).trans ((rowAt_alloc_past _ _ _ (by first | omega | (simp; done) | (simp; omega))).trans ((rowAt_alloc_past _ _ _ (by simp)).trans (rowAt_alloc_at _ _ _ _ rfl)))
  have p1 : rowAt W1 (w.heap.size + 1) = some d := by rw [hW]; exact (rowAt_alloc_past _ _ _ (by first | omega | (simp; done) | (simp; omega))).trans ((rowAt_alloc_past _ _ _ (by simp)).trans (rowAt_alloc_at _ _ _ _ (by simp)))
  have p2 : rowAt W1 (w.heap.size + 1 + 1) = some X := by rw [hW]; exact (rowAt_alloc_past _ _ _ (by simp)).trans (rowAt_alloc_at _ _ _ _ (by simp))
  have p3 : rowAt W1 (w.heap.size + 1 + 1 + 1) = some Tryd.zeroCells99 := by rw [hW]; exact rowAt_alloc_at _ _ _ _ (by simp)
  have pB : Below w.heap.size w W1 := by rw [hW]; exact ((((Below.refl _ _).alloc (Nat.le_refl _) _).alloc (by simp) _).alloc (by first | omega | (simp; done) | (simp; omega)) _).alloc (by first | omega | (simp; done) | (simp; omega)) _
  have HV1 := Lib.hid (HV.out.below pB (Nat.le_refl _))
  have HE1 := Lib.hid (HE.out.below pB)
  clear hW
  refine (checkPlaces_ok a b n c d r t f _ _ HE1.out hR hT ho HV1.out hn hP).mono ?_
  rintro e w2 ⟨rfl, b2⟩
  have s0 := brow b2 p0
  have s1 := brow b2 p1
  have s2 := brow b2 p2
  have s3 := brow b2 p3
  have HE2 := Lib.hid (HE1.out.below b2)
  have sB := bnext pB b2 pB.size
  clear b2 p0 p1 p2 p3 pB
  go_wp2_with fail
  refine (CS _).mono ?_
  rintro e w3 ⟨rfl, b3⟩
  have u3 := brow b3 s3
  have uB := bnext sB b3 sB.size
  have k3 := (HE2.out.below b3).v3
  have lt3 := rowAt_lt u3
  have l5 := lt_of_cellE HE.out.v3
  have n5 : 5 ≠ w.heap.size + 1 + 1 + 1 := by simp at l5; omega
  clear b3 s0 s1 s2 s3 sB CS
  go_wp2_with fail
  go_region
  go_wp2_with fail
  refine bodyPost_ret (v := .tuple #[.agg Tryd.zeroCells99, errV (a 3)]) (results_row2 (m := 343) rfl _ _ (w.heap.size + 1 + 1 + 1) _ _ rfl rfl (rowAt_setRow_at _ _ _ (by rw [u3]; rfl)) Tryd.underlying99 rfl (by kernel_rfl) hzs) rfl ⟨rfl, ?_⟩
  exact (below_setRow uB (by omega) _).drew

/-- What look gives where all is well. -/
def LookEnd (w : World) (c X : Array Value) (r : Rf) (t D : Nat → Int) (e : Ending) (w' : World) : Prop :=
  ∃ B2 B3, e = .returned (.tuple #[.agg (sightC (bareC c) (mkI .i32 136 (r.seen t D)) X (dripK B2 B3)), .nilIface]) ∧ rowAt w' B2 = some #[.int .i64 2] ∧ rowAt w' B3 = some #[.int .i64 3] ∧ w.heap.size ≤ B2 ∧ w.heap.size ≤ B3 ∧ Below w.heap.size w w'

set_option maxRecDepth 100000 in
set_option maxHeartbeats 4000000 in
theorem look_ok (a : Nat → Addr) (b n : Nat) (c d X : Array Value) (r : Rf) (t D f : Nat → Int) (v : Value) (w : World) (hE : Errs a w) (hR : IsRoof c r) (hT : IsRain d t) (hX : IsD X D) (hv : IsList w b v 2 n (fun i => .int .i8 (f i))) (hn : n ≤ 2000000) (ho : r.Rains t) (hP : r.okP f n) (hs : r.Sound t D) :
    Calls Tryd.prog 55 #[.agg c, .agg d, .agg X, v] w (LookEnd w c X r t D) := by
  have CS := fun w => areSound_any X c d r t D w hX hR hT ho
  rw [Rf.sB_t hs] at CS
  have CM := fun w => mended_any c r w hR
  have CC := fun w => comesTo_any X c d r t D w hX hR hT ho hs
  have hbs := hR.bare.size
  have hbo := hR.bare.ones
  have hys : (mkI .i32 136 (r.seen t D)).size = 136 := by simp
  have hyo := (isK_mkI .i32 136 (r.seen t D)).ones
  have hxo := hX.ones
  obtain ⟨Y, hY⟩ : ∃ Y, Y = mkI .i32 136 (r.seen t D) := ⟨_, rfl⟩
  obtain ⟨C, hC⟩ : ∃ C, C = bareC c := ⟨_, rfl⟩
  rw [← hY] at CC hys hyo
  rw [← hC] at CM hbs hbo
  have HY := Lib.hid hY
  have HC := Lib.hid hC
  clear hY hC
  have hxs := hX.size
  have hcs := hR.size
  have hds := hT.size
  have hzs := zsight_size
  have hzo : Ones Tryd.zeroCells99 := onesZ_sight
  have ne1 := neqNilE
  have ne0 := neqNil0
  have HE := Lib.hid hE
  have HV := Lib.hid hv
  obtain ⟨av, cv, rfl⟩ := hv.shape
  clear hE hv
  go_enter Tryd.func55, Tryd.ntmps55
  go_wp2_with fail
  refine gen_callsS fun W1 hW => ?_
  have p0 : rowAt W1 w.heap.size = some c := by rw [hW]; exact (rowAt_alloc_past _ _ _ (by first | omega | (simp; done) | (simp; omega))).trans ((rowAt_alloc_past _ _ _ (by first | omega | (simp; done) | (simp; omega))).trans ((rowAt_alloc_past _ _ _ (by simp)).trans (rowAt_alloc_at _ _ _ _ rfl)))
  have p1 : rowAt W1 (w.heap.size + 1) = some d := by rw [hW]; exact (rowAt_alloc_past _ _ _ (by first | omega | (simp; done) | (simp; omega))).trans ((rowAt_alloc_past _ _ _ (by simp)).trans (rowAt_alloc_at _ _ _ _ (by simp)))
  have p2 : rowAt W1 (w.heap.size + 1 + 1) = some X := by rw [hW]; exact (rowAt_alloc_past _ _ _ (by simp)).trans (rowAt_alloc_at _ _ _ _ (by simp))
  have p3 : rowAt W1 (w.heap.size + 1 + 1 + 1) = some Tryd.zeroCells99 := by rw [hW]; exact rowAt_alloc_at _ _ _ _ (by simp)
  have pB : Below w.heap.size w W1 := by rw [hW]; exact ((((Below.refl _ _).alloc (Nat.le_refl _) _).alloc (by simp) _).alloc (by first | omega | (simp; done) | (simp; omega)) _).alloc (by first | omega | (simp; done) | (simp; omega)) _
  have HV1 := Lib.hid (HV.out.below pB (Nat.le_refl _))
  have HE1 := Lib.hid (HE.out.below pB)
  clear hW
  refine (checkPlaces_ok a b n c d r t f _ _ HE1.out hR hT ho HV1.out hn hP).mono ?_
  rintro e w2 ⟨rfl, b2⟩
  have s0 := brow b2 p0
  have s1 := brow b2 p1
  have s2 := brow b2 p2
  have s3 := brow b2 p3
  have sB := bnext pB b2 pB.size
  clear b2 p0 p1 p2 p3 pB
  go_wp2_with fail
  refine (CS _).mono ?_
  rintro e w3 ⟨rfl, b3⟩
  have u0 := brow b3 s0
  have u1 := brow b3 s1
  have u2 := brow b3 s2
  have u3 := brow b3 s3
  have uB := bnext sB b3 sB.size
  have lt3 := rowAt_lt u3
  clear b3 s0 s1 s2 s3 sB CS
  go_wp2_with fail
  refine wp_region_held_drew (S := (fun w' => (rowAt w' w.heap.size = some c ∧ rowAt w' (w.heap.size + 1) = some d ∧ rowAt w' (w.heap.size + 1 + 1) = some X ∧ (∃ Z, rowAt w' (w.heap.size + 1 + 1 + 1) = some Z ∧ Z.size = 343)) ∧ Below w.heap.size w w' ∧ w.heap.size + 1 + 1 + 1 < w'.heap.size)) (by kernel_rfl) (⟨⟨u0, u1, u2, _, u3, hzs⟩, uB.drew, lt3⟩) (fun hH => ?_)
  refine wpAnyH_take (i := 0) (v := .agg c) rfl (by kernel_rfl) (by kernel_rfl) (by kernel_rfl) (fun _ _ _ h => h) (Or.inl ⟨by rfl, ?_⟩) hH ?_
  · intro w1 hS; (try dsimp only at hS); obtain ⟨⟨q0, q1, q2, _⟩, _⟩ := hS; go_simp
  (try simp only [List.getElem_toArray]); (try simp only [List.getElem_cons_succ]); (try simp only [List.getElem_cons_zero]); (try simp only [Act.put]); (try simp only [List.setIfInBounds_toArray]); (try simp only [List.set_cons_succ]); (try simp only [List.set_cons_zero])
  refine wpAnyH_take (i := 2) (v := .agg X) rfl (by kernel_rfl) (by kernel_rfl) (by kernel_rfl) (fun _ _ _ h => h) (Or.inl ⟨by rfl, ?_⟩) hH ?_
  · intro w1 hS; (try dsimp only at hS); obtain ⟨⟨q0, q1, q2, _⟩, _⟩ := hS; go_simp
  (try simp only [List.getElem_toArray]); (try simp only [List.getElem_cons_succ]); (try simp only [List.getElem_cons_zero]); (try simp only [Act.put]); (try simp only [List.setIfInBounds_toArray]); (try simp only [List.set_cons_succ]); (try simp only [List.set_cons_zero])
  refine wpAnyH_take (i := 3) (v := .agg c) rfl (by kernel_rfl) (by kernel_rfl) (by kernel_rfl) (fun _ _ _ h => h) (Or.inl ⟨by rfl, ?_⟩) hH ?_
  · intro w1 hS; (try dsimp only at hS); obtain ⟨⟨q0, q1, q2, _⟩, _⟩ := hS; go_simp
  (try simp only [List.getElem_toArray]); (try simp only [List.getElem_cons_succ]); (try simp only [List.getElem_cons_zero]); (try simp only [Act.put]); (try simp only [List.setIfInBounds_toArray]); (try simp only [List.set_cons_succ]); (try simp only [List.set_cons_zero])
  refine wpAnyH_take (i := 4) (v := .agg d) rfl (by kernel_rfl) (by kernel_rfl) (by kernel_rfl) (fun _ _ _ h => h) (Or.inl ⟨by rfl, ?_⟩) hH ?_
  · intro w1 hS; (try dsimp only at hS); obtain ⟨⟨q0, q1, q2, _⟩, _⟩ := hS; go_simp
  (try simp only [List.getElem_toArray]); (try simp only [List.getElem_cons_succ]); (try simp only [List.getElem_cons_zero]); (try simp only [Act.put]); (try simp only [List.setIfInBounds_toArray]); (try simp only [List.set_cons_succ]); (try simp only [List.set_cons_zero])
  refine wpAnyH_take (i := 6) (v := .agg X) rfl (by kernel_rfl) (by kernel_rfl) (by kernel_rfl) (fun _ _ _ h => h) (Or.inl ⟨by rfl, ?_⟩) hH ?_
  · intro w1 hS; (try dsimp only at hS); obtain ⟨⟨q0, q1, q2, _⟩, _⟩ := hS; go_simp
  (try simp only [List.getElem_toArray]); (try simp only [List.getElem_cons_succ]); (try simp only [List.getElem_cons_zero]); (try simp only [Act.put]); (try simp only [List.setIfInBounds_toArray]); (try simp only [List.set_cons_succ]); (try simp only [List.set_cons_zero])
  refine wpAnyH_ready (rs := [1]) (by kernel_rfl) (by simp) (AllReadyH.cons rfl (fun K hK => ?_) AllReadyH.nil)
  go_simp
  refine (CM _).mono ?_
  rintro x wx ⟨rfl, bx⟩
  go_simp
  refine hK.out _ _ (⟨⟨brow bx hH.1.1, brow bx hH.1.2.1, brow bx hH.1.2.2.1, by obtain ⟨z, hz, hs⟩ := hH.1.2.2.2; exact ⟨z, brow bx hz, hs⟩⟩, bnext hH.2.1 bx hH.2.1.size, Nat.lt_of_lt_of_le hH.2.2 bx.size⟩) (fun hG => ?_)
  clear hK K hH bx
  replace hH := hG
  clear hG
  (try simp only [List.getElem_toArray]); (try simp only [List.getElem_cons_succ]); (try simp only [List.getElem_cons_zero]); (try simp only [Act.put]); (try simp only [List.setIfInBounds_toArray]); (try simp only [List.set_cons_succ]); (try simp only [List.set_cons_zero])
  refine wpAnyH_ready (rs := [5]) (by kernel_rfl) (by simp) (AllReadyH.cons rfl (fun K hK => ?_) AllReadyH.nil)
  go_simp
  refine (CC _).mono ?_
  rintro x wx ⟨rfl, bx⟩
  go_simp
  refine hK.out _ _ (⟨⟨brow bx hH.1.1, brow bx hH.1.2.1, brow bx hH.1.2.2.1, by obtain ⟨z, hz, hs⟩ := hH.1.2.2.2; exact ⟨z, brow bx hz, hs⟩⟩, bnext hH.2.1 bx hH.2.1.size, Nat.lt_of_lt_of_le hH.2.2 bx.size⟩) (fun hG => ?_)
  clear hK K hH bx
  replace hH := hG
  clear hG
  (try simp only [List.getElem_toArray]); (try simp only [List.getElem_cons_succ]); (try simp only [List.getElem_cons_zero]); (try simp only [Act.put]); (try simp only [List.setIfInBounds_toArray]); (try simp only [List.set_cons_succ]); (try simp only [List.set_cons_zero])
  refine wpAnyH_ready (rs := [7]) (by kernel_rfl) (by simp) (AllReadyH.cons rfl (fun K hK => ?_) AllReadyH.nil)
  go_simp
  refine (drippers_any _).mono ?_
  rintro x wx ⟨B2, B3, rfl, e2, e3, g2, g3, bx⟩
  have lx := hH.2.2
  go_simp
  refine hK.out _ _ (⟨⟨brow bx hH.1.1, brow bx hH.1.2.1, brow bx hH.1.2.2.1, by obtain ⟨z, hz, hs⟩ := hH.1.2.2.2; exact ⟨z, brow bx hz, hs⟩⟩, bnext hH.2.1 bx hH.2.1.size, Nat.lt_of_lt_of_le hH.2.2 bx.size⟩) (fun hG => ?_)
  clear hK K hH bx
  replace hH := hG
  clear hG
  (try simp only [List.getElem_toArray]); (try simp only [List.getElem_cons_succ]); (try simp only [List.getElem_cons_zero]); (try simp only [Act.put]); (try simp only [List.setIfInBounds_toArray]); (try simp only [List.set_cons_succ]); (try simp only [List.set_cons_zero])
  have hkl : (dripK B2 B3).size = 4 := rfl
  have hbu := fun w => run_build_sight (w := w) hbs hys hxs hkl
  have hSs := sightC_size hbs hys hxs hkl
  have hSo := sightC_ones hbs hys hxs hkl hbo hyo hxo (ones_dripK B2 B3)
  obtain ⟨S, hS⟩ : ∃ S, S = sightC C Y X (dripK B2 B3) := ⟨_, rfl⟩
  rw [← hS] at hbu hSs hSo
  have HS := Lib.hid hS
  clear hS
  refine wpAnyH_take (i := 8) (v := .agg S) rfl (by kernel_rfl) (by kernel_rfl) (by kernel_rfl) (fun _ _ _ h => h) (Or.inl ⟨by rfl, ?_⟩) hH ?_
  · intro w1 hS; (try dsimp only at hS); go_simp; (first | done | (rw [hbu]; rfl))
  (try simp only [List.getElem_toArray]); (try simp only [List.getElem_cons_succ]); (try simp only [List.getElem_cons_zero]); (try simp only [Act.put]); (try simp only [List.setIfInBounds_toArray]); (try simp only [List.set_cons_succ]); (try simp only [List.set_cons_zero])
  refine wpAnyH_ready (rs := [9]) (by kernel_rfl) (by simp) (AllReadyH.cons rfl (fun K hK => ?_) AllReadyH.nil)
  obtain ⟨Z, hZ, hZs⟩ := hH.1.2.2.2
  go_simp
  refine hK.out _ _ ?_ (fun hG => ?_)
  · exact ⟨⟨(rowAt_setRow_ne _ _ _ _ (by omega)).trans hH.1.1, (rowAt_setRow_ne _ _ _ _ (by omega)).trans hH.1.2.1, (rowAt_setRow_ne _ _ _ _ (by omega)).trans hH.1.2.2.1, ⟨_, rowAt_setRow_at _ _ _ (by rw [hZ]; rfl), hSs⟩⟩, below_setRow hH.2.1 (by omega) _, by simpa using hH.2.2⟩
  clear hK K
  have hH0 := hH
  replace hH := hG
  clear hG
  (try simp only [List.getElem_toArray]); (try simp only [List.getElem_cons_succ]); (try simp only [List.getElem_cons_zero]); (try simp only [Act.put]); (try simp only [List.setIfInBounds_toArray]); (try simp only [List.set_cons_succ]); (try simp only [List.set_cons_zero])
  refine wpAnyH_take (i := 10) (v := .nilIface) rfl (by kernel_rfl) (by kernel_rfl) (by kernel_rfl) (fun _ _ _ h => h) (Or.inl ⟨by rfl, ?_⟩) hH ?_
  · intro w1 hS; (try dsimp only at hS); go_simp
  (try simp only [List.getElem_toArray]); (try simp only [List.getElem_cons_succ]); (try simp only [List.getElem_cons_zero]); (try simp only [Act.put]); (try simp only [List.setIfInBounds_toArray]); (try simp only [List.set_cons_succ]); (try simp only [List.set_cons_zero])
  refine wpAnyH_done (by kernel_rfl) ?_ _
  go_wp2_with fail
  refine bodyPost_ret (v := .tuple #[.agg S, .nilIface]) (results_row2 (m := 343) rfl _ _ (w.heap.size + 1 + 1 + 1) _ _ rfl rfl (rowAt_setRow_at _ _ _ (by rw [hZ]; rfl)) Tryd.underlying99 rfl (by kernel_rfl) hSs) rfl ⟨B2, B3, by rw [HS.out, HY.out, HC.out], (rowAt_setRow_ne _ _ _ _ (by omega)).trans e2, (rowAt_setRow_ne _ _ _ _ (by omega)).trans e3, by omega, by omega, ?_⟩
  exact below_setRow hH0.2.1 (by omega) _
end Go.Proofs.YtcopdilmkfmpiaaDoor

/- The model's code of a roof, rain and drips. -/
namespace Go.Proofs.YtcopdilmkfmpiaaDoor
open Go.RowKit

noncomputable def Rf.acode (r : Rf) (t D : Nat → Int) (fine : Bool) : Int := if r.rok t = true then (if fine = true then (if r.sB t D = true then 0 else 4) else 2) else 1
noncomputable def Rf.seenF (r : Rf) (t D : Nat → Int) (fine : Bool) : Nat → Int := if r.acode t D fine = 0 then r.seen t D else fun _ => 0
noncomputable def Rf.seenA (r : Rf) (t D : Nat → Int) (fine : Bool) : Array Value := mkI .i32 136 (r.seenF t D fine)
theorem Rf.acode_no {r : Rf} {t D : Nat → Int} {fine : Bool} (h : ¬ r.Rains t) : r.acode t D fine = 1 := by unfold Rf.acode; rw [Rf.rok_false h]; rfl
theorem Rf.acode_out {r : Rf} {t D : Nat → Int} (h : r.Rains t) : r.acode t D false = 2 := by unfold Rf.acode; rw [Rf.rok_true h]; rfl
theorem Rf.acode_uns {r : Rf} {t D : Nat → Int} (h : r.Rains t) (hs : ¬ r.Sound t D) : r.acode t D true = 4 := by unfold Rf.acode; rw [Rf.rok_true h, Rf.sB_f hs]; rfl
theorem Rf.acode_in {r : Rf} {t D : Nat → Int} (h : r.Rains t) (hs : r.Sound t D) : r.acode t D true = 0 := by unfold Rf.acode; rw [Rf.rok_true h, Rf.sB_t hs]; rfl
theorem Rf.seenA_no {r : Rf} {t D : Nat → Int} {fine : Bool} (h : r.acode t D fine ≠ 0) : r.seenA t D fine = mkI .i32 136 fun _ => 0 := by unfold Rf.seenA Rf.seenF; rw [if_neg h]
theorem Rf.seenA_in {r : Rf} {t D : Nat → Int} {fine : Bool} (h : r.acode t D fine = 0) : r.seenA t D fine = mkI .i32 136 (r.seen t D) := by unfold Rf.seenA Rf.seenF; rw [if_pos h]

def AskEnd (w : World) (r : Rf) (t D : Nat → Int) (fine : Bool) (e : Ending) (w' : World) : Prop := e = .returned (.tuple #[.agg (r.seenA t D fine), .int .i64 (r.acode t D fine)]) ∧ Below w.heap.size w w'

set_option maxRecDepth 100000 in
set_option maxHeartbeats 2000000 in
theorem l03Asked_any (n0 n1 n2 : Nat) (c d X0 : Array Value) (r : Rf) (t D : Nat → Int) (fine : Bool) (w : World) (hr : rowAt w n0 = some c) (hR : IsRoof c r) (hd : rowAt w n1 = some d) (hT : IsRain d t) (he : rowAt w n2 = some X0) (hD : IsD X0 D) :
    Calls Tryd.prog 53 #[.pointer (some ⟨n0, 0, none⟩), .pointer (some ⟨n1, 0, none⟩), .pointer (some ⟨n2, 0, none⟩), .bool fine] w (AskEnd w r t D fine) := by
  have lt0 := rowAt_lt hr
  have lt1 := rowAt_lt hd
  have lt2 := rowAt_lt he
  have hz : Tryd.zeroCells48 = mkI .i32 136 (fun _ => 0) := by kernel_rfl
  have hzs : Tryd.zeroCells48.size = 136 := by rw [hz]; simp
  have hzo : Ones Tryd.zeroCells48 := by rw [hz]; exact (isK_mkI _ _ _).ones
  have HZ := Lib.hid hz
  have p3 := rowAt_alloc_at w Tryd.zeroCells48 48 w.heap.size rfl
  have pB : Below w.heap.size w (w.alloc (.cells Tryd.zeroCells48 48)) := (Below.refl _ _).alloc (Nat.le_refl _) _
  have p0 := brow pB hr
  have p1 := brow pB hd
  have p2 := brow pB he
  clear hz hr hd he
  by_cases ho : r.Rains t
  · cases fine with
    | false =>
      have hc := Rf.acode_out (D := D) ho
      have HA : Hid (r.acode t D false = 2) := Lib.hid hc
      have HSA : Hid (r.seenA t D false = mkI .i32 136 fun _ => 0) := Lib.hid (Rf.seenA_no (by rw [hc]; decide))
      clear hc
      go_enter Tryd.func53, Tryd.ntmps53
      go_wp2_with fail
      refine (l02Ok_t n0 n1 c d r t _ p0 hR p1 hT ho).mono ?_
      rintro e w1 ⟨rfl, b1⟩
      have s3 := brow b1 p3
      have sB := bnext pB b1 pB.size
      clear b1 p0 p1 p2 p3 pB
      go_wp2_with fail
      refine bodyPost_ret (v := .tuple #[.agg Tryd.zeroCells48, .int .i64 2]) (results_row2 (m := 136) rfl _ _ w.heap.size _ _ rfl rfl (rowAt_setRow_at _ _ _ (by rw [s3]; rfl)) Tryd.underlying48 rfl (by kernel_rfl) hzs) rfl ⟨by rw [HSA.out, HA.out, HZ.out], below_setRow sB (Nat.le_refl _) _⟩
    | true =>
      have CC := fun W h0 h1 h2 => l03Comes_any n0 n1 n2 c d X0 r t D W h0 hR h1 hT h2 hD ho
      by_cases hs : r.Sound t D
      · have hc := Rf.acode_in ho hs
        have HA : Hid (r.acode t D true = 0) := Lib.hid hc
        have HSA : Hid (r.seenA t D true = mkI .i32 136 (r.seen t D)) := Lib.hid (Rf.seenA_in hc)
        have hsb := Rf.sB_t hs
        have HSB := Lib.hid hsb
        clear hc hsb
        go_enter Tryd.func53, Tryd.ntmps53
        go_wp2_with fail
        refine (l02Ok_t n0 n1 c d r t _ p0 hR p1 hT ho).mono ?_
        rintro e w1 ⟨rfl, b1⟩
        have s0 := brow b1 p0
        have s1 := brow b1 p1
        have s2 := brow b1 p2
        have s3 := brow b1 p3
        have sB := bnext pB b1 pB.size
        clear b1 p0 p1 p2 p3 pB
        go_wp2_with fail
        refine (CC _ s0 s1 s2).mono ?_
        rintro e w2 ⟨F, rfl, hF, b2⟩
        have u3 := brow b2 s3
        have uB := bnext sB b2 sB.size
        have lt3 := rowAt_lt u3
        rw [HSB.out, hF hs]
        have hXs : (mkI .i32 136 (r.seen t D)).size = 136 := by simp
        have hXo := (isK_mkI .i32 136 (r.seen t D)).ones
        obtain ⟨X, hX⟩ : ∃ X, X = mkI .i32 136 (r.seen t D) := ⟨_, rfl⟩
        rw [← hX] at hXs hXo ⊢
        have HX := Lib.hid hX
        have hne : w2.heap.size ≠ w.heap.size := by omega
        clear b2 s0 s1 s2 s3 sB hX hF CC
        go_wp2_with fail
        refine bodyPost_ret (v := .tuple #[.agg X, .int .i64 0]) (results_row2 (m := 136) rfl _ _ w.heap.size _ _ rfl rfl ((rowAt_alloc_past _ _ _ (by simpa using lt3)).trans (rowAt_setRow_at _ _ _ (by rw [u3]; rfl))) Tryd.underlying48 rfl (by kernel_rfl) hXs) rfl ⟨by rw [HSA.out, HA.out, HX.out], ?_⟩
        exact (below_setRow uB (Nat.le_refl _) _).alloc (by simpa using uB.size) _
      · have hc := Rf.acode_uns ho hs
        have HA : Hid (r.acode t D true = 4) := Lib.hid hc
        have HSA : Hid (r.seenA t D true = mkI .i32 136 fun _ => 0) := Lib.hid (Rf.seenA_no (by rw [hc]; decide))
        have hsb := Rf.sB_f hs
        have HSB := Lib.hid hsb
        clear hc hsb
        go_enter Tryd.func53, Tryd.ntmps53
        go_wp2_with fail
        refine (l02Ok_t n0 n1 c d r t _ p0 hR p1 hT ho).mono ?_
        rintro e w1 ⟨rfl, b1⟩
        have s0 := brow b1 p0
        have s1 := brow b1 p1
        have s2 := brow b1 p2
        have s3 := brow b1 p3
        have sB := bnext pB b1 pB.size
        clear b1 p0 p1 p2 p3 pB
        go_wp2_with fail
        refine (CC _ s0 s1 s2).mono ?_
        rintro e w2 ⟨F, rfl, hF, b2⟩
        have u3 := brow b2 s3
        have uB := bnext sB b2 sB.size
        have lt3 := rowAt_lt u3
        rw [HSB.out]
        have hXs : (mkI .i32 136 F).size = 136 := by simp
        have hXo := (isK_mkI .i32 136 F).ones
        generalize mkI .i32 136 F = X at *
        have hne : w2.heap.size ≠ w.heap.size := by omega
        clear b2 s0 s1 s2 s3 sB hF CC
        go_wp2_with fail
        refine bodyPost_ret (v := .tuple #[.agg Tryd.zeroCells48, .int .i64 4]) (results_row2 (m := 136) rfl _ _ w.heap.size _ _ rfl rfl ((rowAt_alloc_past _ _ _ (by simpa using lt3)).trans (rowAt_setRow_at _ _ _ (by rw [u3]; rfl))) Tryd.underlying48 rfl (by kernel_rfl) hzs) rfl ⟨by rw [HSA.out, HA.out, HZ.out], ?_⟩
        exact (below_setRow uB (Nat.le_refl _) _).alloc (by simpa using uB.size) _
  · have hc := Rf.acode_no (D := D) (fine := fine) ho
    have HA : Hid (r.acode t D fine = 1) := Lib.hid hc
    have HSA : Hid (r.seenA t D fine = mkI .i32 136 fun _ => 0) := Lib.hid (Rf.seenA_no (by rw [hc]; decide))
    clear hc
    go_enter Tryd.func53, Tryd.ntmps53
    go_wp2_with fail
    refine (l02Ok_f n0 n1 c d r t _ p0 hR p1 hT ho).mono ?_
    rintro e w1 ⟨rfl, b1⟩
    have s3 := brow b1 p3
    have sB := bnext pB b1 pB.size
    clear b1 p0 p1 p2 p3 pB
    go_wp2_with fail
    refine bodyPost_ret (v := .tuple #[.agg Tryd.zeroCells48, .int .i64 1]) (results_row2 (m := 136) rfl _ _ w.heap.size _ _ rfl rfl (rowAt_setRow_at _ _ _ (by rw [s3]; rfl)) Tryd.underlying48 rfl (by kernel_rfl) hzs) rfl ⟨by rw [HSA.out, HA.out, HZ.out], below_setRow sB (Nat.le_refl _) _⟩
end Go.Proofs.YtcopdilmkfmpiaaDoor

/- ComesTo, Explains: contracts of both sides. -/
namespace Go.Proofs.YtcopdilmkfmpiaaDoor
open Go.RowKit

set_option maxRecDepth 100000 in
set_option maxHeartbeats 2000000 in
theorem specComesTo_any (c d X : Array Value) (r : Rf) (t D : Nat → Int) (w : World) (hR : IsRoof c r) (hT : IsRain d t) (hX : IsD X D) :
    Calls Tryd.prog 22 #[.agg c, .agg d, .agg X] w fun e w' => e = .returned (.tuple #[.agg (r.seenA t D true), .int .i64 (r.acode t D true)]) ∧ Below w.heap.size w w' := by
  have hz : Tryd.zeroCells48 = mkI .i32 136 (fun _ => 0) := by kernel_rfl
  have hzs : Tryd.zeroCells48.size = 136 := by rw [hz]; simp
  have hzo : Ones Tryd.zeroCells48 := by rw [hz]; exact (isK_mkI _ _ _).ones
  have HZ := Lib.hid hz
  clear hz
  have hAs : (r.seenA t D true).size = 136 := by simp [Rf.seenA]
  have hAo : Ones (r.seenA t D true) := (isK_mkI _ _ _).ones
  obtain ⟨cd, hcd⟩ : ∃ cd, cd = r.acode t D true := ⟨_, rfl⟩
  have CA := fun W h0 h1 h2 => l03Asked_any w.heap.size (w.heap.size + 1) (w.heap.size + 1 + 1) c d X r t D true W h0 hR h1 hT h2 hX
  unfold AskEnd at CA
  have hno := Rf.seenA_no (r := r) (t := t) (D := D) (fine := true)
  rw [← hcd] at CA hno
  obtain ⟨A, hA⟩ : ∃ A, A = r.seenA t D true := ⟨_, rfl⟩
  rw [← hA] at CA hAs hAo hno
  have HA := Lib.hid hA
  have HC := Lib.hid hcd
  have HN := Lib.hid hno
  clear hA hcd hno
  by_cases hz0 : cd = 0
  · subst hz0
    go_enter Tryd.func22, Tryd.ntmps22
    go_wp2_with fail
    refine gen_callsS fun W1 hW => ?_
    have p0 : rowAt W1 (w.heap.size) = some c := by rw [hW]; exact (rowAt_alloc_past _ _ _ (by first | omega | (simp; done) | (simp; omega))).trans ((rowAt_alloc_past _ _ _ (by first | omega | (simp; done) | (simp; omega))).trans ((rowAt_alloc_past _ _ _ (by first | omega | (simp; done) | (simp; omega))).trans (rowAt_alloc_at _ _ _ _ rfl)))
    have p1 : rowAt W1 (w.heap.size + 1) = some d := by rw [hW]; exact (rowAt_alloc_past _ _ _ (by first | omega | (simp; done) | (simp; omega))).trans ((rowAt_alloc_past _ _ _ (by first | omega | (simp; done) | (simp; omega))).trans (rowAt_alloc_at _ _ _ _ (by simp)))
    have p2 : rowAt W1 (w.heap.size + 1 + 1) = some X := by rw [hW]; exact (rowAt_alloc_past _ _ _ (by first | omega | (simp; done) | (simp; omega))).trans (rowAt_alloc_at _ _ _ _ (by simp))
    have p3 : rowAt W1 (w.heap.size + 1 + 1 + 1) = some Tryd.zeroCells48 := by rw [hW]; exact rowAt_alloc_at _ _ _ _ (by simp)
    have pB : Below w.heap.size w W1 := by rw [hW]; exact ((((Below.refl _ _).alloc (Nat.le_refl _) _).alloc (by first | omega | (simp; done) | (simp; omega)) _).alloc (by first | omega | (simp; done) | (simp; omega)) _).alloc (by first | omega | (simp; done) | (simp; omega)) _
    clear hW
    refine (CA _ p0 p1 p2).mono ?_
    rintro e w2 ⟨rfl, b2⟩
    have u3 := brow b2 p3
    have uB := bnext pB b2 pB.size
    have lt3 := rowAt_lt u3
    have hne : w2.heap.size ≠ w.heap.size + 1 + 1 + 1 := by omega
    clear b2 p0 p1 p2 p3 pB CA
    go_wp2_with fail
    refine bodyPost_ret (v := .tuple #[.agg A, .int .i64 0]) (results_row2 (m := 136) rfl _ _ (w.heap.size + 1 + 1 + 1) _ _ rfl rfl ((rowAt_alloc_past _ _ _ (by simpa using lt3)).trans (rowAt_setRow_at _ _ _ (by rw [u3]; rfl))) Tryd.underlying48 rfl (by kernel_rfl) hAs) rfl ⟨by rw [HA.out, ← HC.out], ?_⟩
    exact (below_setRow uB (by omega) _).alloc (by simpa using uB.size) _
  · have hc0 : (cd != 0) = true := by simpa using hz0
    have HAz := Lib.hid (HN.out hz0)
    clear hz0
    go_enter Tryd.func22, Tryd.ntmps22
    go_wp2_with fail
    refine gen_callsS fun W1 hW => ?_
    have p0 : rowAt W1 (w.heap.size) = some c := by rw [hW]; exact (rowAt_alloc_past _ _ _ (by first | omega | (simp; done) | (simp; omega))).trans ((rowAt_alloc_past _ _ _ (by first | omega | (simp; done) | (simp; omega))).trans ((rowAt_alloc_past _ _ _ (by first | omega | (simp; done) | (simp; omega))).trans (rowAt_alloc_at _ _ _ _ rfl)))
    have p1 : rowAt W1 (w.heap.size + 1) = some d := by rw [hW]; exact (rowAt_alloc_past _ _ _ (by first | omega | (simp; done) | (simp; omega))).trans ((rowAt_alloc_past _ _ _ (by first | omega | (simp; done) | (simp; omega))).trans (rowAt_alloc_at _ _ _ _ (by simp)))
    have p2 : rowAt W1 (w.heap.size + 1 + 1) = some X := by rw [hW]; exact (rowAt_alloc_past _ _ _ (by first | omega | (simp; done) | (simp; omega))).trans (rowAt_alloc_at _ _ _ _ (by simp))
    have p3 : rowAt W1 (w.heap.size + 1 + 1 + 1) = some Tryd.zeroCells48 := by rw [hW]; exact rowAt_alloc_at _ _ _ _ (by simp)
    have pB : Below w.heap.size w W1 := by rw [hW]; exact ((((Below.refl _ _).alloc (Nat.le_refl _) _).alloc (by first | omega | (simp; done) | (simp; omega)) _).alloc (by first | omega | (simp; done) | (simp; omega)) _).alloc (by first | omega | (simp; done) | (simp; omega)) _
    clear hW
    refine (CA _ p0 p1 p2).mono ?_
    rintro e w2 ⟨rfl, b2⟩
    have u3 := brow b2 p3
    have uB := bnext pB b2 pB.size
    have lt3 := rowAt_lt u3
    have hne : w2.heap.size ≠ w.heap.size + 1 + 1 + 1 := by omega
    clear b2 p0 p1 p2 p3 pB CA
    go_wp2_with fail
    refine bodyPost_ret (v := .tuple #[.agg Tryd.zeroCells48, .int .i64 cd]) (results_row2 (m := 136) rfl _ _ (w.heap.size + 1 + 1 + 1) _ _ rfl rfl ((rowAt_alloc_past _ _ _ (by simpa using lt3)).trans (rowAt_setRow_at _ _ _ (by rw [u3]; rfl))) Tryd.underlying48 rfl (by kernel_rfl) hzs) rfl ⟨by rw [← HA.out, HAz.out, HZ.out, HC.out], ?_⟩
    exact (below_setRow uB (by omega) _).alloc (by simpa using uB.size) _

/-- What look's code says where there are no places. -/
theorem Rf.look_code {r : Rf} {t D : Nat → Int} : (¬ r.Rains t ∧ r.acode t D true = 1) ∨ (r.Rains t ∧ ¬ r.Sound t D ∧ r.acode t D true = 4) ∨ (r.Rains t ∧ r.Sound t D ∧ r.acode t D true = 0) := by
  by_cases ho : r.Rains t
  · by_cases hs : r.Sound t D
    · exact .inr (.inr ⟨ho, hs, Rf.acode_in ho hs⟩)
    · exact .inr (.inl ⟨ho, hs, Rf.acode_uns ho hs⟩)
  · exact .inl ⟨ho, Rf.acode_no ho⟩
theorem isList_nil (w : World) (b : Nat) (f : Nat → Value) : IsList w b (.slice none 0 0) 2 0 f := .inl ⟨rfl, none, 0, rfl⟩
/-- look without places: an error with its code. -/
theorem look0_err {a : Nat → Addr} {c d X : Array Value} {r : Rf} {t D : Nat → Int} (hR : IsRoof c r) (hT : IsRain d t) (hX : IsD X D) (hz : r.acode t D true ≠ 0) :
    ∃ i, i < 6 ∧ ecode i = r.acode t D true ∧ ∀ w, Errs a w → Calls Tryd.prog 55 #[.agg c, .agg d, .agg X, .slice none 0 0] w fun e w' => e = .returned (.tuple #[.agg Tryd.zeroCells99, errV (a i)]) ∧ Below w.heap.size w w' := by
  rcases Rf.look_code (r := r) (t := t) (D := D) with ⟨ho, hc⟩ | ⟨ho, hs, hc⟩ | ⟨ho, hs, hc⟩
  · exact ⟨0, by omega, by rw [hc]; rfl, fun w hE => look_no a 0 0 c d X r t D (fun _ => 0) _ w hE hR hT hX (isList_nil _ _ _) (by omega) ho⟩
  · exact ⟨3, by omega, by rw [hc]; rfl, fun w hE => look_unsound a 0 0 c d X r t D (fun _ => 0) _ w hE hR hT hX (isList_nil _ _ _) (by omega) ho (r.okP_zero _) hs⟩
  · exact absurd hc hz
theorem look0_ok {a : Nat → Addr} {c d X : Array Value} {r : Rf} {t D : Nat → Int} (hR : IsRoof c r) (hT : IsRain d t) (hX : IsD X D) (hz : r.acode t D true = 0) (w : World) (hE : Errs a w) :
    Calls Tryd.prog 55 #[.agg c, .agg d, .agg X, .slice none 0 0] w (LookEnd w c X r t D) := by
  rcases Rf.look_code (r := r) (t := t) (D := D) with ⟨ho, hc⟩ | ⟨ho, hs, hc⟩ | ⟨ho, hs, hc⟩
  · omega
  · omega
  · exact look_ok a 0 0 c d X r t D (fun _ => 0) _ w hE hR hT hX (isList_nil _ _ _) (by omega) ho (r.okP_zero _) hs

set_option maxRecDepth 100000 in
set_option maxHeartbeats 2000000 in
theorem implComesTo_any (a : Nat → Addr) (c d X : Array Value) (r : Rf) (t D : Nat → Int) (w : World) (hR : IsRoof c r) (hT : IsRain d t) (hX : IsD X D) (hE : Errs a w) :
    Calls Tryd.prog 24 #[.agg c, .agg d, .agg X] w fun e w' => e = .returned (.tuple #[.agg (r.seenA t D true), .int .i64 (r.acode t D true)]) ∧ Below w.heap.size w w' := by
  have hxs := hX.size
  have hcs := hR.size
  have hds := hT.size
  have ne1 := neqNilE
  have ne0 := neqNil0
  have hss := zsight_size
  have hso := onesZ_sight
  have hz : Tryd.zeroCells48 = mkI .i32 136 (fun _ => 0) := by kernel_rfl
  have hzs : Tryd.zeroCells48.size = 136 := by rw [hz]; simp
  have hzo : Ones Tryd.zeroCells48 := by rw [hz]; exact (isK_mkI _ _ _).ones
  have HZ := Lib.hid hz
  clear hz
  have HE := Lib.hid hE
  clear hE
  by_cases hz0 : r.acode t D true = 0
  · have CL := fun w hE => look0_ok (a := a) hR hT hX hz0 w hE
    unfold LookEnd at CL
    have hYs : (mkI .i32 136 (r.seen t D)).size = 136 := by simp
    have hYo := (isK_mkI .i32 136 (r.seen t D)).ones
    have hSA := Rf.seenA_in hz0
    obtain ⟨Y, hY⟩ : ∃ Y, Y = mkI .i32 136 (r.seen t D) := ⟨_, rfl⟩
    rw [← hY] at CL hYs hYo hSA
    have HA := Lib.hid hSA
    have HC := Lib.hid hz0
    clear hSA hz0 hY
    go_enter Tryd.func24, Tryd.ntmps24
    go_wp2_with fail
    refine gen_callsS fun W1 hW => ?_
    have p0 : rowAt W1 (w.heap.size) = some c := by rw [hW]; exact (rowAt_alloc_past _ _ _ (by first | omega | (simp; done) | (simp; omega))).trans ((rowAt_alloc_past _ _ _ (by first | omega | (simp; done) | (simp; omega))).trans ((rowAt_alloc_past _ _ _ (by first | omega | (simp; done) | (simp; omega))).trans (rowAt_alloc_at _ _ _ _ rfl)))
    have p1 : rowAt W1 (w.heap.size + 1) = some d := by rw [hW]; exact (rowAt_alloc_past _ _ _ (by first | omega | (simp; done) | (simp; omega))).trans ((rowAt_alloc_past _ _ _ (by first | omega | (simp; done) | (simp; omega))).trans (rowAt_alloc_at _ _ _ _ (by simp)))
    have p2 : rowAt W1 (w.heap.size + 1 + 1) = some X := by rw [hW]; exact (rowAt_alloc_past _ _ _ (by first | omega | (simp; done) | (simp; omega))).trans (rowAt_alloc_at _ _ _ _ (by simp))
    have p3 : rowAt W1 (w.heap.size + 1 + 1 + 1) = some Tryd.zeroCells48 := by rw [hW]; exact rowAt_alloc_at _ _ _ _ (by simp)
    have pB : Below w.heap.size w W1 := by rw [hW]; exact ((((Below.refl _ _).alloc (Nat.le_refl _) _).alloc (by first | omega | (simp; done) | (simp; omega)) _).alloc (by first | omega | (simp; done) | (simp; omega)) _).alloc (by first | omega | (simp; done) | (simp; omega)) _
    clear hW
    refine (CL _ (HE.out.below pB)).mono ?_
    rintro e w2 ⟨B2, B3, rfl, _, _, _, _, b2⟩
    have hbs := hR.bare.size
    have hSs := sightC_size hbs hYs hxs (show (dripK B2 B3).size = 4 from rfl)
    have hSo := sightC_ones hbs hYs hxs (show (dripK B2 B3).size = 4 from rfl) hR.bare.ones hYo hX.ones (ones_dripK B2 B3)
    have hSc := sightC_comes hbs hYs hxs (show (dripK B2 B3).size = 4 from rfl)
    generalize sightC (bareC c) Y X (dripK B2 B3) = S at *
    have u3 := brow b2 p3
    have uB := bnext pB b2 pB.size
    have lt3 := rowAt_lt u3
    have hne : w2.heap.size ≠ w.heap.size + 1 + 1 + 1 := by omega
    clear b2 p0 p1 p2 p3 pB CL
    go_wp2_with fail
    refine bodyPost_ret (v := .tuple #[.agg Y, .int .i64 0]) (results_row2 (m := 136) rfl _ _ (w.heap.size + 1 + 1 + 1) _ _ rfl rfl ((rowAt_alloc_past _ _ _ (by simpa using lt3)).trans (rowAt_setRow_at _ _ _ (by rw [u3]; rfl))) Tryd.underlying48 rfl (by kernel_rfl) hYs) rfl ⟨by rw [HA.out, HC.out], ?_⟩
    exact (below_setRow uB (by omega) _).alloc (by simpa using uB.size) _
  · obtain ⟨i, hi, he, CL⟩ := look0_err (a := a) hR hT hX hz0
    have HAz := Lib.hid (Rf.seenA_no hz0)
    have HI := Lib.hid he
    have CLH := Lib.hid CL
    clear hz0 he CL
    go_enter Tryd.func24, Tryd.ntmps24
    go_wp2_with fail
    refine gen_callsS fun W1 hW => ?_
    have p0 : rowAt W1 (w.heap.size) = some c := by rw [hW]; exact (rowAt_alloc_past _ _ _ (by first | omega | (simp; done) | (simp; omega))).trans ((rowAt_alloc_past _ _ _ (by first | omega | (simp; done) | (simp; omega))).trans ((rowAt_alloc_past _ _ _ (by first | omega | (simp; done) | (simp; omega))).trans (rowAt_alloc_at _ _ _ _ rfl)))
    have p1 : rowAt W1 (w.heap.size + 1) = some d := by rw [hW]; exact (rowAt_alloc_past _ _ _ (by first | omega | (simp; done) | (simp; omega))).trans ((rowAt_alloc_past _ _ _ (by first | omega | (simp; done) | (simp; omega))).trans (rowAt_alloc_at _ _ _ _ (by simp)))
    have p2 : rowAt W1 (w.heap.size + 1 + 1) = some X := by rw [hW]; exact (rowAt_alloc_past _ _ _ (by first | omega | (simp; done) | (simp; omega))).trans (rowAt_alloc_at _ _ _ _ (by simp))
    have p3 : rowAt W1 (w.heap.size + 1 + 1 + 1) = some Tryd.zeroCells48 := by rw [hW]; exact rowAt_alloc_at _ _ _ _ (by simp)
    have pB : Below w.heap.size w W1 := by rw [hW]; exact ((((Below.refl _ _).alloc (Nat.le_refl _) _).alloc (by first | omega | (simp; done) | (simp; omega)) _).alloc (by first | omega | (simp; done) | (simp; omega)) _).alloc (by first | omega | (simp; done) | (simp; omega)) _
    clear hW
    refine (CLH.out _ (HE.out.below pB)).mono ?_
    rintro e w2 ⟨rfl, b2⟩
    have HE2 := Lib.hid ((HE.out.below pB).below b2)
    have u3 := brow b2 p3
    have uB := bnext pB b2 pB.size
    have lt3 := rowAt_lt u3
    have hne : w2.heap.size ≠ w.heap.size + 1 + 1 + 1 := by omega
    clear b2 p0 p1 p2 p3 pB
    go_wp2_with fail
    refine gen_callsS fun W3 hW => ?_
    have v3 : rowAt W3 (w.heap.size + 1 + 1 + 1) = some Tryd.zeroCells48 := by rw [hW]; exact (rowAt_alloc_past _ _ _ lt3).trans u3
    have vB : Below w.heap.size w W3 := by rw [hW]; exact uB.alloc uB.size _
    have HE3 := Lib.hid (show Errs a W3 by rw [hW]; exact HE2.out.below ((Below.refl _ _).alloc (Nat.le_refl _) _))
    clear hW u3 uB
    refine (leakCode_any a i _ HE3.out hi).mono ?_
    rintro e w4 ⟨rfl, rfl⟩
    go_wp2_with fail
    refine bodyPost_ret (v := .tuple #[.agg Tryd.zeroCells48, .int .i64 (ecode i)]) (results_row2 (m := 136) rfl _ _ (w.heap.size + 1 + 1 + 1) _ _ rfl rfl (rowAt_setRow_at _ _ _ (by rw [v3]; rfl)) Tryd.underlying48 rfl (by kernel_rfl) hzs) rfl ⟨by rw [HAz.out, HZ.out, HI.out], ?_⟩
    exact below_setRow vB (by omega) _
end Go.Proofs.YtcopdilmkfmpiaaDoor

/- Explains: contracts of both sides. -/
namespace Go.Proofs.YtcopdilmkfmpiaaDoor
open Go.RowKit

open Classical in
/-- Whether a roof has just these drips. -/
noncomputable def Rf.exB (r : Rf) (t D : Nat → Int) : Bool := decide (∀ i, i < 136 → r.drips t i = D i)
noncomputable def Rf.exV (r : Rf) (t D : Nat → Int) : Bool := if r.acode t D true = 0 then r.exB t D else false
set_option maxRecDepth 100000 in
theorem run_eq_ex {r : Rf} {t D : Nat → Int} {Y X : Array Value} (hY : IsK .i32 Y 136 (r.drips t)) (hX : IsD X D) (w : World) : (Op.equalIn 10000 48 (.agg Y) (.agg X)).run Tryd.prog w = .ok (r.exB t D) w := by
  obtain ⟨b, hb, hi⟩ := run_eq_drips Y X _ _ hY hX.isK w
  have hbe : b = r.exB t D := by
    rw [Bool.eq_iff_iff, hi]
    simp [Rf.exB]
  rw [← hbe]
  exact hb

set_option maxRecDepth 100000 in
set_option maxHeartbeats 2000000 in
theorem l03Explains_any (n0 n1 n2 : Nat) (c d X : Array Value) (r : Rf) (t D : Nat → Int) (w : World) (hr : rowAt w n0 = some c) (hR : IsRoof c r) (hd : rowAt w n1 = some d) (hT : IsRain d t) (he : rowAt w n2 = some X) (hX : IsD X D) (ho : r.Rains t) :
    Calls Tryd.prog 57 #[.pointer (some ⟨n0, 0, none⟩), .pointer (some ⟨n1, 0, none⟩), .pointer (some ⟨n2, 0, none⟩)] w fun e w' => e = .returned (.bool (r.exB t D)) ∧ Below w.heap.size w w' := by
  have lt2 := rowAt_lt he
  have hxs := hX.size
  have hz : Tryd.zeroCells48 = mkI .i32 136 (fun _ => 0) := by kernel_rfl
  have hzs : Tryd.zeroCells48.size = 136 := by rw [hz]; simp
  have hzo : Ones Tryd.zeroCells48 := by rw [hz]; exact (isK_mkI _ _ _).ones
  clear hz
  go_enter Tryd.func57, Tryd.ntmps57
  go_wp2_with fail
  refine (l02Run_any n0 n1 c d r t _ hr hR hd hT ho).mono ?_
  rintro e w1 ⟨v, rfl, hl, b1⟩
  have z2 : (mkI .i32 136 (r.drips t)).size = 136 := by simp
  have z3 : (mkI .i32 136 (r.comeAll t)).size = 136 := by simp
  have o2 := (isK_mkI .i32 136 (r.drips t)).ones
  have o3 := (isK_mkI .i32 136 (r.comeAll t)).ones
  have hYK := isK_mkI .i32 136 (r.drips t)
  generalize mkI .i32 136 (r.drips t) = Y at *
  generalize mkI .i32 136 (r.comeAll t) = Y2 at *
  have r2 := brow b1 he
  clear hl
  go_wp2_with fail
  refine gen_world fun W hW => ?_
  have q0 : rowAt W w1.heap.size = some Y := by rw [hW]; exact specRun2 _ _ _ _ _
  have q1 : rowAt W n2 = some X := by rw [hW]; exact (rowAt_alloc_past _ _ _ (by have := rowAt_lt r2; simp; omega)).trans ((rowAt_alloc_past _ _ _ (rowAt_lt r2)).trans r2)
  have qB : Below w.heap.size w W := by rw [hW]; exact (b1.alloc b1.size _).alloc (by have := b1.size; simp; omega) _
  have heq := fun W : World => run_eq_ex hYK hX W
  clear hW b1 o2 o3 z3 hzs hzo r2
  refine wp_region_held_drew (S := (fun w' => rowAt w' w1.heap.size = some Y ∧ rowAt w' n2 = some X ∧ Below w.heap.size w w' ∧ w.heap.size ≤ w'.heap.size)) (by kernel_rfl) (⟨q0, q1, qB.drew, qB.size⟩) (fun hH => ?_)
  refine wpAnyH_take (i := 0) (v := .agg Y) rfl (by kernel_rfl) (by kernel_rfl) (by kernel_rfl) (fun _ _ _ h => h) (Or.inl ⟨by rfl, ?_⟩) hH ?_
  · intro w1 hS; (try dsimp only at hS); obtain ⟨s0, s1, _, _⟩ := hS; go_simp
  (try simp only [List.getElem_toArray]); (try simp only [List.getElem_cons_succ]); (try simp only [List.getElem_cons_zero]); (try simp only [Act.put]); (try simp only [List.setIfInBounds_toArray]); (try simp only [List.set_cons_succ]); (try simp only [List.set_cons_zero])
  refine wpAnyH_take (i := 1) (v := .pointer (some ⟨n2, 0, none⟩)) rfl (by kernel_rfl) (by kernel_rfl) (by kernel_rfl) (fun _ _ _ h => h) (Or.inl ⟨by rfl, ?_⟩) hH ?_
  · intro w1 hS; (try dsimp only at hS); obtain ⟨s0, s1, _, _⟩ := hS; go_simp
  (try simp only [List.getElem_toArray]); (try simp only [List.getElem_cons_succ]); (try simp only [List.getElem_cons_zero]); (try simp only [Act.put]); (try simp only [List.setIfInBounds_toArray]); (try simp only [List.set_cons_succ]); (try simp only [List.set_cons_zero])
  refine wpAnyH_take (i := 2) (v := .pointer (some ⟨n2, 0, none⟩)) rfl (by kernel_rfl) (by kernel_rfl) (by kernel_rfl) (fun _ _ _ h => h) (Or.inl ⟨by rfl, ?_⟩) hH ?_
  · intro w1 hS; (try dsimp only at hS); obtain ⟨s0, s1, _, _⟩ := hS; go_simp
  (try simp only [List.getElem_toArray]); (try simp only [List.getElem_cons_succ]); (try simp only [List.getElem_cons_zero]); (try simp only [Act.put]); (try simp only [List.setIfInBounds_toArray]); (try simp only [List.set_cons_succ]); (try simp only [List.set_cons_zero])
  refine wpAnyH_take (i := 3) (v := .agg X) rfl (by kernel_rfl) (by kernel_rfl) (by kernel_rfl) (fun _ _ _ h => h) (Or.inl ⟨by rfl, ?_⟩) hH ?_
  · intro w1 hS; (try dsimp only at hS); obtain ⟨s0, s1, _, _⟩ := hS; go_simp
  (try simp only [List.getElem_toArray]); (try simp only [List.getElem_cons_succ]); (try simp only [List.getElem_cons_zero]); (try simp only [Act.put]); (try simp only [List.setIfInBounds_toArray]); (try simp only [List.set_cons_succ]); (try simp only [List.set_cons_zero])
  refine wpAnyH_take (i := 4) (v := .bool (r.exB t D)) rfl (by kernel_rfl) (by kernel_rfl) (by kernel_rfl) (fun _ _ _ h => h) (Or.inl ⟨by rfl, ?_⟩) hH ?_
  · intro w1 hS; (try dsimp only at hS); go_simp
  (try simp only [List.getElem_toArray]); (try simp only [List.getElem_cons_succ]); (try simp only [List.getElem_cons_zero]); (try simp only [Act.put]); (try simp only [List.setIfInBounds_toArray]); (try simp only [List.set_cons_succ]); (try simp only [List.set_cons_zero])
  refine wpAnyH_take (i := 5) (v := .bool (r.exB t D)) rfl (by kernel_rfl) (by kernel_rfl) (by kernel_rfl) (fun _ _ _ h => h) (Or.inl ⟨by rfl, ?_⟩) hH ?_
  · intro w1 hS; (try dsimp only at hS); go_simp
  (try simp only [List.getElem_toArray]); (try simp only [List.getElem_cons_succ]); (try simp only [List.getElem_cons_zero]); (try simp only [Act.put]); (try simp only [List.setIfInBounds_toArray]); (try simp only [List.set_cons_succ]); (try simp only [List.set_cons_zero])
  refine wpAnyH_done (by kernel_rfl) ?_ _
  go_wp2_with fail
  go_ret
  exact ⟨rfl, hH.2.2.1⟩

set_option maxRecDepth 100000 in
set_option maxHeartbeats 2000000 in
theorem specExplains_any (c d X : Array Value) (r : Rf) (t D : Nat → Int) (w : World) (hR : IsRoof c r) (hT : IsRain d t) (hX : IsD X D) :
    Calls Tryd.prog 26 #[.agg c, .agg d, .agg X] w fun e w' => e = .returned (.tuple #[.bool (r.exV t D), .int .i64 (r.acode t D true)]) ∧ Below w.heap.size w w' := by
  have hz : Tryd.zeroCells48 = mkI .i32 136 (fun _ => 0) := by kernel_rfl
  have hzs : Tryd.zeroCells48.size = 136 := by rw [hz]; simp
  have hzo : Ones Tryd.zeroCells48 := by rw [hz]; exact (isK_mkI _ _ _).ones
  clear hz
  have hAs : (r.seenA t D true).size = 136 := by simp [Rf.seenA]
  have hAo : Ones (r.seenA t D true) := (isK_mkI _ _ _).ones
  have hpos : r.acode t D true = 0 → r.Rains t := fun h => by
    rcases Rf.look_code (r := r) (t := t) (D := D) with ⟨_, hc⟩ | ⟨_, _, hc⟩ | ⟨ho, _, _⟩
    · omega
    · omega
    · exact ho
  obtain ⟨cd, hcd⟩ : ∃ cd, cd = r.acode t D true := ⟨_, rfl⟩
  have CA := fun W h0 h1 h2 => l03Asked_any w.heap.size (w.heap.size + 1) (w.heap.size + 1 + 1) c d X r t D true W h0 hR h1 hT h2 hX
  unfold AskEnd at CA
  rw [← hcd] at CA hpos
  generalize r.seenA t D true = A at *
  have HC := Lib.hid hcd
  by_cases hz0 : cd = 0
  · have ho := hpos hz0
    have HV : Hid (r.exV t D = r.exB t D) := Lib.hid (if_pos (by omega))
    have CX := fun W h0 h1 h2 => l03Explains_any w.heap.size (w.heap.size + 1) (w.heap.size + 1 + 1) c d X r t D W h0 hR h1 hT h2 hX ho
    subst hz0
    clear hcd hpos
    go_enter Tryd.func26, Tryd.ntmps26
    go_wp2_with fail
    refine gen_callsS fun W1 hW => ?_
    have p0 : rowAt W1 (w.heap.size) = some c := by rw [hW]; exact (rowAt_alloc_past _ _ _ (by first | omega | (simp; done) | (simp; omega))).trans ((rowAt_alloc_past _ _ _ (by first | omega | (simp; done) | (simp; omega))).trans (rowAt_alloc_at _ _ _ _ rfl))
    have p1 : rowAt W1 (w.heap.size + 1) = some d := by rw [hW]; exact (rowAt_alloc_past _ _ _ (by first | omega | (simp; done) | (simp; omega))).trans (rowAt_alloc_at _ _ _ _ (by simp))
    have p2 : rowAt W1 (w.heap.size + 1 + 1) = some X := by rw [hW]; exact rowAt_alloc_at _ _ _ _ (by simp)
    have pB : Below w.heap.size w W1 := by rw [hW]; exact (((Below.refl _ _).alloc (Nat.le_refl _) _).alloc (by first | omega | (simp; done) | (simp; omega)) _).alloc (by first | omega | (simp; done) | (simp; omega)) _
    clear hW
    refine (CA _ p0 p1 p2).mono ?_
    rintro e w2 ⟨rfl, b2⟩
    have u0 := brow b2 p0
    have u1 := brow b2 p1
    have u2 := brow b2 p2
    have uB := bnext pB b2 pB.size
    clear b2 p0 p1 p2 pB CA
    go_wp2_with fail
    refine gen_callsS fun W3 hW => ?_
    have v0 : rowAt W3 w.heap.size = some c := by rw [hW]; exact (rowAt_alloc_past _ _ _ (rowAt_lt u0)).trans u0
    have v1 : rowAt W3 (w.heap.size + 1) = some d := by rw [hW]; exact (rowAt_alloc_past _ _ _ (rowAt_lt u1)).trans u1
    have v2 : rowAt W3 (w.heap.size + 1 + 1) = some X := by rw [hW]; exact (rowAt_alloc_past _ _ _ (rowAt_lt u2)).trans u2
    have vB : Below w.heap.size w W3 := by rw [hW]; exact uB.alloc uB.size _
    clear hW u0 u1 u2 uB
    refine (CX _ v0 v1 v2).mono ?_
    rintro e w4 ⟨rfl, b4⟩
    have B4 := bnext vB b4 vB.size
    clear b4 v0 v1 v2 vB CX
    go_wp2_with fail
    go_ret2
    exact ⟨by rw [HV.out, ← HC.out]; rfl, B4⟩
  · have HV : Hid (r.exV t D = false) := Lib.hid (if_neg (by omega))
    have hc0 : (cd != 0) = true := by simpa using hz0
    clear hcd hz0 hpos
    go_enter Tryd.func26, Tryd.ntmps26
    go_wp2_with fail
    refine gen_callsS fun W1 hW => ?_
    have p0 : rowAt W1 (w.heap.size) = some c := by rw [hW]; exact (rowAt_alloc_past _ _ _ (by first | omega | (simp; done) | (simp; omega))).trans ((rowAt_alloc_past _ _ _ (by first | omega | (simp; done) | (simp; omega))).trans (rowAt_alloc_at _ _ _ _ rfl))
    have p1 : rowAt W1 (w.heap.size + 1) = some d := by rw [hW]; exact (rowAt_alloc_past _ _ _ (by first | omega | (simp; done) | (simp; omega))).trans (rowAt_alloc_at _ _ _ _ (by simp))
    have p2 : rowAt W1 (w.heap.size + 1 + 1) = some X := by rw [hW]; exact rowAt_alloc_at _ _ _ _ (by simp)
    have pB : Below w.heap.size w W1 := by rw [hW]; exact (((Below.refl _ _).alloc (Nat.le_refl _) _).alloc (by first | omega | (simp; done) | (simp; omega)) _).alloc (by first | omega | (simp; done) | (simp; omega)) _
    clear hW
    refine (CA _ p0 p1 p2).mono ?_
    rintro e w2 ⟨rfl, b2⟩
    have uB := bnext pB b2 pB.size
    clear b2 p0 p1 p2 pB CA
    go_wp2_with fail
    go_ret2
    exact ⟨by rw [HV.out, ← HC.out]; rfl, uB.alloc uB.size _⟩

set_option maxRecDepth 100000 in
set_option maxHeartbeats 2000000 in
theorem implExplains_any (a : Nat → Addr) (c d X : Array Value) (r : Rf) (t D : Nat → Int) (w : World) (hR : IsRoof c r) (hT : IsRain d t) (hX : IsD X D) (hE : Errs a w) :
    Calls Tryd.prog 27 #[.agg c, .agg d, .agg X] w fun e w' => e = .returned (.tuple #[.bool (r.exV t D), .int .i64 (r.acode t D true)]) ∧ Below w.heap.size w w' := by
  have hxs := hX.size
  have hcs := hR.size
  have hds := hT.size
  have ne1 := neqNilE
  have ne0 := neqNil0
  have hss := zsight_size
  have hso := onesZ_sight
  have HE := Lib.hid hE
  clear hE
  by_cases hz0 : r.acode t D true = 0
  · have ho : r.Rains t := by
      rcases Rf.look_code (r := r) (t := t) (D := D) with ⟨_, hc⟩ | ⟨_, _, hc⟩ | ⟨ho, _, _⟩
      · omega
      · omega
      · exact ho
    have CL := fun w hE => look0_ok (a := a) hR hT hX hz0 w hE
    unfold LookEnd at CL
    have hYs : (mkI .i32 136 (r.seen t D)).size = 136 := by simp
    have hYo := (isK_mkI .i32 136 (r.seen t D)).ones
    have HV : Hid (r.exV t D = r.exB t D) := Lib.hid (if_pos hz0)
    have HC := Lib.hid hz0
    have CR := fun w => runDown_any c d r t w hR hT ho
    have hF := isFlow_mkF (r.comes t) (r.drips t)
    have hFe := hF.dripsK
    have hFs := hF.size
    have hYK := isK_mkI .i32 136 (r.drips t)
    clear hF
    generalize mkF (r.comes t) (r.drips t) = F at *
    generalize mkI .i32 136 (r.seen t D) = Y0 at *
    generalize mkI .i32 136 (r.drips t) = Y at *
    have heq := fun W : World => run_eq_ex hYK hX W
    clear hz0
    go_enter Tryd.func27, Tryd.ntmps27
    go_wp2_with fail
    refine gen_callsS fun W1 hW => ?_
    have p0 : rowAt W1 (w.heap.size) = some c := by rw [hW]; exact (rowAt_alloc_past _ _ _ (by first | omega | (simp; done) | (simp; omega))).trans ((rowAt_alloc_past _ _ _ (by first | omega | (simp; done) | (simp; omega))).trans (rowAt_alloc_at _ _ _ _ rfl))
    have p1 : rowAt W1 (w.heap.size + 1) = some d := by rw [hW]; exact (rowAt_alloc_past _ _ _ (by first | omega | (simp; done) | (simp; omega))).trans (rowAt_alloc_at _ _ _ _ (by simp))
    have p2 : rowAt W1 (w.heap.size + 1 + 1) = some X := by rw [hW]; exact rowAt_alloc_at _ _ _ _ (by simp)
    have pB : Below w.heap.size w W1 := by rw [hW]; exact (((Below.refl _ _).alloc (Nat.le_refl _) _).alloc (by first | omega | (simp; done) | (simp; omega)) _).alloc (by first | omega | (simp; done) | (simp; omega)) _
    clear hW
    refine (CL _ (HE.out.below pB)).mono ?_
    rintro e w2 ⟨B2, B3, rfl, _, _, _, _, b2⟩
    have hbs := hR.bare.size
    have hSs := sightC_size hbs hYs hxs (show (dripK B2 B3).size = 4 from rfl)
    have hSo := sightC_ones hbs hYs hxs (show (dripK B2 B3).size = 4 from rfl) hR.bare.ones hYo hX.ones (ones_dripK B2 B3)
    generalize sightC (bareC c) Y0 X (dripK B2 B3) = S at *
    have u0 := brow b2 p0
    have u1 := brow b2 p1
    have u2 := brow b2 p2
    have uB := bnext pB b2 pB.size
    clear b2 p0 p1 p2 pB CL
    go_wp2_with fail
    refine gen_world fun W3 hW => ?_
    have v0 : rowAt W3 w.heap.size = some c := by rw [hW]; exact (rowAt_alloc_past _ _ _ (rowAt_lt u0)).trans u0
    have v1 : rowAt W3 (w.heap.size + 1) = some d := by rw [hW]; exact (rowAt_alloc_past _ _ _ (rowAt_lt u1)).trans u1
    have v2 : rowAt W3 (w.heap.size + 1 + 1) = some X := by rw [hW]; exact (rowAt_alloc_past _ _ _ (rowAt_lt u2)).trans u2
    have vB : Below w.heap.size w W3 := by rw [hW]; exact uB.alloc uB.size _
    clear hW u0 u1 u2 uB hSs hSo
    refine wp_region_held_drew (S := (fun w' => rowAt w' w.heap.size = some c ∧ rowAt w' (w.heap.size + 1) = some d ∧ rowAt w' (w.heap.size + 1 + 1) = some X ∧ Below w.heap.size w w' ∧ w.heap.size ≤ w'.heap.size)) (by kernel_rfl) (⟨v0, v1, v2, vB.drew, vB.size⟩) (fun hH => ?_)
    refine wpAnyH_take (i := 0) (v := .agg c) rfl (by kernel_rfl) (by kernel_rfl) (by kernel_rfl) (fun _ _ _ h => h) (Or.inl ⟨by rfl, ?_⟩) hH ?_
    · intro w1 hS; (try dsimp only at hS); obtain ⟨u0, u1, u2, _⟩ := hS; go_simp
    (try simp only [List.getElem_toArray]); (try simp only [List.getElem_cons_succ]); (try simp only [List.getElem_cons_zero]); (try simp only [Act.put]); (try simp only [List.setIfInBounds_toArray]); (try simp only [List.set_cons_succ]); (try simp only [List.set_cons_zero])
    refine wpAnyH_take (i := 1) (v := .agg d) rfl (by kernel_rfl) (by kernel_rfl) (by kernel_rfl) (fun _ _ _ h => h) (Or.inl ⟨by rfl, ?_⟩) hH ?_
    · intro w1 hS; (try dsimp only at hS); obtain ⟨u0, u1, u2, _⟩ := hS; go_simp
    (try simp only [List.getElem_toArray]); (try simp only [List.getElem_cons_succ]); (try simp only [List.getElem_cons_zero]); (try simp only [Act.put]); (try simp only [List.setIfInBounds_toArray]); (try simp only [List.set_cons_succ]); (try simp only [List.set_cons_zero])
    refine wpAnyH_take (i := 4) (v := .agg X) rfl (by kernel_rfl) (by kernel_rfl) (by kernel_rfl) (fun _ _ _ h => h) (Or.inl ⟨by rfl, ?_⟩) hH ?_
    · intro w1 hS; (try dsimp only at hS); obtain ⟨u0, u1, u2, _⟩ := hS; go_simp
    (try simp only [List.getElem_toArray]); (try simp only [List.getElem_cons_succ]); (try simp only [List.getElem_cons_zero]); (try simp only [Act.put]); (try simp only [List.setIfInBounds_toArray]); (try simp only [List.set_cons_succ]); (try simp only [List.set_cons_zero])
    refine wpAnyH_ready (rs := [2]) (by kernel_rfl) (by simp) (AllReadyH.cons rfl (fun K hK => ?_) AllReadyH.nil)
    go_simp
    refine (CR _).mono ?_
    rintro x wx ⟨rfl, bx⟩
    go_simp
    refine hK.out _ _ (keep3 bx hH) (fun hG => ?_)
    clear hK K hH bx
    replace hH := hG
    clear hG
    (try simp only [List.getElem_toArray]); (try simp only [List.getElem_cons_succ]); (try simp only [List.getElem_cons_zero]); (try simp only [Act.put]); (try simp only [List.setIfInBounds_toArray]); (try simp only [List.set_cons_succ]); (try simp only [List.set_cons_zero])
    refine wpAnyH_take (i := 3) (v := .agg Y) rfl (by kernel_rfl) (by kernel_rfl) (by kernel_rfl) (fun _ _ _ h => h) (Or.inl ⟨by rfl, ?_⟩) hH ?_
    · intro w1 hS; (try dsimp only at hS); go_simp; (try rw [hFe])
    (try simp only [List.getElem_toArray]); (try simp only [List.getElem_cons_succ]); (try simp only [List.getElem_cons_zero]); (try simp only [Act.put]); (try simp only [List.setIfInBounds_toArray]); (try simp only [List.set_cons_succ]); (try simp only [List.set_cons_zero])
    refine wpAnyH_take (i := 5) (v := .bool (r.exB t D)) rfl (by kernel_rfl) (by kernel_rfl) (by kernel_rfl) (fun _ _ _ h => h) (Or.inl ⟨by rfl, ?_⟩) hH ?_
    · intro w1 hS; (try dsimp only at hS); go_simp
    (try simp only [List.getElem_toArray]); (try simp only [List.getElem_cons_succ]); (try simp only [List.getElem_cons_zero]); (try simp only [Act.put]); (try simp only [List.setIfInBounds_toArray]); (try simp only [List.set_cons_succ]); (try simp only [List.set_cons_zero])
    refine wpAnyH_take (i := 6) (v := .bool (r.exB t D)) rfl (by kernel_rfl) (by kernel_rfl) (by kernel_rfl) (fun _ _ _ h => h) (Or.inl ⟨by rfl, ?_⟩) hH ?_
    · intro w1 hS; (try dsimp only at hS); go_simp
    (try simp only [List.getElem_toArray]); (try simp only [List.getElem_cons_succ]); (try simp only [List.getElem_cons_zero]); (try simp only [Act.put]); (try simp only [List.setIfInBounds_toArray]); (try simp only [List.set_cons_succ]); (try simp only [List.set_cons_zero])
    refine wpAnyH_take (i := 7) (v := .int .i64 0) rfl (by kernel_rfl) (by kernel_rfl) (by kernel_rfl) (fun _ _ _ h => h) (Or.inl ⟨by rfl, ?_⟩) hH ?_
    · intro w1 hS; (try dsimp only at hS); go_simp
    (try simp only [List.getElem_toArray]); (try simp only [List.getElem_cons_succ]); (try simp only [List.getElem_cons_zero]); (try simp only [Act.put]); (try simp only [List.setIfInBounds_toArray]); (try simp only [List.set_cons_succ]); (try simp only [List.set_cons_zero])
    refine wpAnyH_done (by kernel_rfl) ?_ _
    go_wp2_with fail
    go_ret2
    exact ⟨by rw [HV.out, HC.out]; rfl, hH.2.2.2.1⟩
  · obtain ⟨i, hi, he, CL⟩ := look0_err (a := a) hR hT hX hz0
    have HV : Hid (r.exV t D = false) := Lib.hid (if_neg hz0)
    have HI := Lib.hid he
    have CLH := Lib.hid CL
    clear hz0 he CL
    go_enter Tryd.func27, Tryd.ntmps27
    go_wp2_with fail
    refine gen_callsS fun W1 hW => ?_
    have p0 : rowAt W1 (w.heap.size) = some c := by rw [hW]; exact (rowAt_alloc_past _ _ _ (by first | omega | (simp; done) | (simp; omega))).trans ((rowAt_alloc_past _ _ _ (by first | omega | (simp; done) | (simp; omega))).trans (rowAt_alloc_at _ _ _ _ rfl))
    have p1 : rowAt W1 (w.heap.size + 1) = some d := by rw [hW]; exact (rowAt_alloc_past _ _ _ (by first | omega | (simp; done) | (simp; omega))).trans (rowAt_alloc_at _ _ _ _ (by simp))
    have p2 : rowAt W1 (w.heap.size + 1 + 1) = some X := by rw [hW]; exact rowAt_alloc_at _ _ _ _ (by simp)
    have pB : Below w.heap.size w W1 := by rw [hW]; exact (((Below.refl _ _).alloc (Nat.le_refl _) _).alloc (by first | omega | (simp; done) | (simp; omega)) _).alloc (by first | omega | (simp; done) | (simp; omega)) _
    clear hW
    refine (CLH.out _ (HE.out.below pB)).mono ?_
    rintro e w2 ⟨rfl, b2⟩
    have HE2 := Lib.hid ((HE.out.below pB).below b2)
    have uB := bnext pB b2 pB.size
    clear b2 p0 p1 p2 pB
    go_wp2_with fail
    refine gen_callsS fun W3 hW => ?_
    have vB : Below w.heap.size w W3 := by rw [hW]; exact uB.alloc uB.size _
    have HE3 := Lib.hid (show Errs a W3 by rw [hW]; exact HE2.out.below ((Below.refl _ _).alloc (Nat.le_refl _) _))
    clear hW uB
    refine (leakCode_any a i _ HE3.out hi).mono ?_
    rintro e w4 ⟨rfl, rfl⟩
    go_wp2_with fail
    go_ret2
    exact ⟨by rw [HV.out, ← HI.out]; rfl, vB⟩
end Go.Proofs.YtcopdilmkfmpiaaDoor

/- laws.FnExactExplains returns true for every roof, rain and drips, and leaves them as they were. The sentinels stand in package-level variables: they are listed, and tied by the card. -/
namespace Go.Proofs.YtcopdilmkfmpiaaDoor
open Go.RowKit

set_option maxRecDepth 100000 in
set_option maxHeartbeats 4000000 in
theorem law_walk_FnExactExplains (a : Nat → Addr) {w : World} {c : Array Value} {r : Rf} (hR : IsRoof c r) {d : Array Value} {t : Nat → Int} (hT : IsRain d t) {X : Array Value} {D : Nat → Int} (hX : IsD X D) (hE : Errs a w) :
    Calls Tryd.prog 7 #[.agg c, .agg d, .agg X] w fun e w' => e = .returned (.bool true) ∧ Below w.heap.size w w' := by
  have pb := boxes3 w c d X 28 30 47
  have hc := hR.size
  have hd := hT.size
  have hxs := hX.size
  have HE := Lib.hid hE
  clear hE
  have CS := fun W => specExplains_any c d X r t D W hR hT hX
  have CI := fun W hE => implExplains_any a c d X r t D W hR hT hX hE
  have hne0 : (r.exV t D != r.exV t D) = false := by simp
  have hne1 : (r.acode t D true != r.acode t D true) = false := by simp
  generalize r.exV t D = v0 at *
  generalize r.acode t D true = v1 at *
  go_enter Tryd.func7, Tryd.ntmps7
  go_wp2_with fail
  refine gen_world fun W hW => ?_
  rw [← hW] at pb
  clear hW
  refine wp_region_held_drew (S := (fun w' => Boxes (w.heap.size + 1 + 1 + 1) w [(w.heap.size + 1 + 1, X), (w.heap.size + 1, d), (w.heap.size, c)] w')) (by kernel_rfl) (pb.drew) (fun hH => ?_)
  refine wpAnyH_take (i := 0) (v := .agg c) rfl (by kernel_rfl) (by kernel_rfl) (by kernel_rfl) (fun _ _ _ h => h) (Or.inl ⟨by rfl, ?_⟩) hH ?_
  · intro w1 hS; (try dsimp only at hS); have s0 := hS.rows (w.heap.size, c) (by simp); have s1 := hS.rows (w.heap.size + 1, d) (by simp); have s2 := hS.rows (w.heap.size + 1 + 1, X) (by simp); dsimp only at s0 s1 s2; go_simp
  (try simp only [List.getElem_toArray]); (try simp only [List.getElem_cons_succ]); (try simp only [List.getElem_cons_zero]); (try simp only [Act.put]); (try simp only [List.setIfInBounds_toArray]); (try simp only [List.set_cons_succ]); (try simp only [List.set_cons_zero])
  refine wpAnyH_take (i := 2) (v := .agg d) rfl (by kernel_rfl) (by kernel_rfl) (by kernel_rfl) (fun _ _ _ h => h) (Or.inl ⟨by rfl, ?_⟩) hH ?_
  · intro w1 hS; (try dsimp only at hS); have s0 := hS.rows (w.heap.size, c) (by simp); have s1 := hS.rows (w.heap.size + 1, d) (by simp); have s2 := hS.rows (w.heap.size + 1 + 1, X) (by simp); dsimp only at s0 s1 s2; go_simp
  (try simp only [List.getElem_toArray]); (try simp only [List.getElem_cons_succ]); (try simp only [List.getElem_cons_zero]); (try simp only [Act.put]); (try simp only [List.setIfInBounds_toArray]); (try simp only [List.set_cons_succ]); (try simp only [List.set_cons_zero])
  refine wpAnyH_take (i := 4) (v := .agg X) rfl (by kernel_rfl) (by kernel_rfl) (by kernel_rfl) (fun _ _ _ h => h) (Or.inl ⟨by rfl, ?_⟩) hH ?_
  · intro w1 hS; (try dsimp only at hS); have s0 := hS.rows (w.heap.size, c) (by simp); have s1 := hS.rows (w.heap.size + 1, d) (by simp); have s2 := hS.rows (w.heap.size + 1 + 1, X) (by simp); dsimp only at s0 s1 s2; go_simp
  (try simp only [List.getElem_toArray]); (try simp only [List.getElem_cons_succ]); (try simp only [List.getElem_cons_zero]); (try simp only [Act.put]); (try simp only [List.setIfInBounds_toArray]); (try simp only [List.set_cons_succ]); (try simp only [List.set_cons_zero])
  refine wpAnyH_ready (rs := [1]) (by kernel_rfl) (by simp) (AllReadyH.cons rfl (fun K hK => ?_) AllReadyH.nil)
  go_simp
  refine (toRoof_any c r _ hR).mono ?_
  rintro x wx ⟨rfl, bx⟩
  go_simp
  refine hK.out _ _ (hH.call bx) (fun hG => ?_)
  clear hK K hH bx
  replace hH := hG
  clear hG
  (try simp only [List.getElem_toArray]); (try simp only [List.getElem_cons_succ]); (try simp only [List.getElem_cons_zero]); (try simp only [Act.put]); (try simp only [List.setIfInBounds_toArray]); (try simp only [List.set_cons_succ]); (try simp only [List.set_cons_zero])
  refine wpAnyH_ready (rs := [3]) (by kernel_rfl) (by simp) (AllReadyH.cons rfl (fun K hK => ?_) AllReadyH.nil)
  go_simp
  refine (toRain_any d t _ hT).mono ?_
  rintro x wx ⟨rfl, bx⟩
  go_simp
  refine hK.out _ _ (hH.call bx) (fun hG => ?_)
  clear hK K hH bx
  replace hH := hG
  clear hG
  (try simp only [List.getElem_toArray]); (try simp only [List.getElem_cons_succ]); (try simp only [List.getElem_cons_zero]); (try simp only [Act.put]); (try simp only [List.setIfInBounds_toArray]); (try simp only [List.set_cons_succ]); (try simp only [List.set_cons_zero])
  refine wpAnyH_ready (rs := [5]) (by kernel_rfl) (by simp) (AllReadyH.cons rfl (fun K hK => ?_) AllReadyH.nil)
  go_simp
  refine (toDrips_any X D _ hX).mono ?_
  rintro x wx ⟨rfl, bx⟩
  go_simp
  refine hK.out _ _ (hH.call bx) (fun hG => ?_)
  clear hK K hH bx
  replace hH := hG
  clear hG
  (try simp only [List.getElem_toArray]); (try simp only [List.getElem_cons_succ]); (try simp only [List.getElem_cons_zero]); (try simp only [Act.put]); (try simp only [List.setIfInBounds_toArray]); (try simp only [List.set_cons_succ]); (try simp only [List.set_cons_zero])
  refine wpAnyH_ready (rs := [6]) (by kernel_rfl) (by simp) (AllReadyH.cons rfl (fun K hK => ?_) AllReadyH.nil)
  go_simp
  refine (CS _).mono ?_
  rintro x wx ⟨rfl, bx⟩
  go_simp
  refine hK.out _ _ (hH.call bx) (fun hG => ?_)
  clear hK K hH bx
  replace hH := hG
  clear hG
  (try simp only [List.getElem_toArray]); (try simp only [List.getElem_cons_succ]); (try simp only [List.getElem_cons_zero]); (try simp only [Act.put]); (try simp only [List.setIfInBounds_toArray]); (try simp only [List.set_cons_succ]); (try simp only [List.set_cons_zero])
  refine wpAnyH_take (i := 7) (v := .tuple #[.bool v0, .int .i64 v1]) rfl (by kernel_rfl) (by kernel_rfl) (by kernel_rfl) (fun _ _ _ h => h) (Or.inl ⟨by rfl, ?_⟩) hH ?_
  · intro w1 hS; (try dsimp only at hS); go_simp
  (try simp only [List.getElem_toArray]); (try simp only [List.getElem_cons_succ]); (try simp only [List.getElem_cons_zero]); (try simp only [Act.put]); (try simp only [List.setIfInBounds_toArray]); (try simp only [List.set_cons_succ]); (try simp only [List.set_cons_zero])
  refine wpAnyH_take (i := 8) (v := .bool v0) rfl (by kernel_rfl) (by kernel_rfl) (by kernel_rfl) (fun _ _ _ h => h) (Or.inl ⟨by rfl, ?_⟩) hH ?_
  · intro w1 hS; (try dsimp only at hS); go_simp
  (try simp only [List.getElem_toArray]); (try simp only [List.getElem_cons_succ]); (try simp only [List.getElem_cons_zero]); (try simp only [Act.put]); (try simp only [List.setIfInBounds_toArray]); (try simp only [List.set_cons_succ]); (try simp only [List.set_cons_zero])
  refine wpAnyH_take (i := 9) (v := .int .i64 v1) rfl (by kernel_rfl) (by kernel_rfl) (by kernel_rfl) (fun _ _ _ h => h) (Or.inl ⟨by rfl, ?_⟩) hH ?_
  · intro w1 hS; (try dsimp only at hS); go_simp
  (try simp only [List.getElem_toArray]); (try simp only [List.getElem_cons_succ]); (try simp only [List.getElem_cons_zero]); (try simp only [Act.put]); (try simp only [List.setIfInBounds_toArray]); (try simp only [List.set_cons_succ]); (try simp only [List.set_cons_zero])
  refine wpAnyH_take (i := 10) (v := .bool v0) rfl (by kernel_rfl) (by kernel_rfl) (by kernel_rfl) (fun _ _ _ h => h) (Or.inl ⟨by rfl, ?_⟩) hH ?_
  · intro w1 hS; (try dsimp only at hS); go_simp
  (try simp only [List.getElem_toArray]); (try simp only [List.getElem_cons_succ]); (try simp only [List.getElem_cons_zero]); (try simp only [Act.put]); (try simp only [List.setIfInBounds_toArray]); (try simp only [List.set_cons_succ]); (try simp only [List.set_cons_zero])
  refine wpAnyH_take (i := 11) (v := .int .i64 v1) rfl (by kernel_rfl) (by kernel_rfl) (by kernel_rfl) (fun _ _ _ h => h) (Or.inl ⟨by rfl, ?_⟩) hH ?_
  · intro w1 hS; (try dsimp only at hS); go_simp
  (try simp only [List.getElem_toArray]); (try simp only [List.getElem_cons_succ]); (try simp only [List.getElem_cons_zero]); (try simp only [Act.put]); (try simp only [List.setIfInBounds_toArray]); (try simp only [List.set_cons_succ]); (try simp only [List.set_cons_zero])
  refine wpAnyH_done (by kernel_rfl) ?_ _
  have HH := Lib.hid hH
  clear hH pb CS
  go_wp2_with fail
  refine wp_region_held_drew (S := (fun w' => Boxes (w.heap.size + 1 + 1 + 1) w [(w.heap.size + 1 + 1, X), (w.heap.size + 1, d), (w.heap.size, c)] w')) (by kernel_rfl) (HH.out.drew) (fun hH => ?_)
  refine wpAnyH_take (i := 0) (v := .agg c) rfl (by kernel_rfl) (by kernel_rfl) (by kernel_rfl) (fun _ _ _ h => h) (Or.inl ⟨by rfl, ?_⟩) hH ?_
  · intro w1 hS; (try dsimp only at hS); have s0 := hS.rows (w.heap.size, c) (by simp); have s1 := hS.rows (w.heap.size + 1, d) (by simp); have s2 := hS.rows (w.heap.size + 1 + 1, X) (by simp); dsimp only at s0 s1 s2; go_simp
  (try simp only [List.getElem_toArray]); (try simp only [List.getElem_cons_succ]); (try simp only [List.getElem_cons_zero]); (try simp only [Act.put]); (try simp only [List.setIfInBounds_toArray]); (try simp only [List.set_cons_succ]); (try simp only [List.set_cons_zero])
  refine wpAnyH_take (i := 2) (v := .agg d) rfl (by kernel_rfl) (by kernel_rfl) (by kernel_rfl) (fun _ _ _ h => h) (Or.inl ⟨by rfl, ?_⟩) hH ?_
  · intro w1 hS; (try dsimp only at hS); have s0 := hS.rows (w.heap.size, c) (by simp); have s1 := hS.rows (w.heap.size + 1, d) (by simp); have s2 := hS.rows (w.heap.size + 1 + 1, X) (by simp); dsimp only at s0 s1 s2; go_simp
  (try simp only [List.getElem_toArray]); (try simp only [List.getElem_cons_succ]); (try simp only [List.getElem_cons_zero]); (try simp only [Act.put]); (try simp only [List.setIfInBounds_toArray]); (try simp only [List.set_cons_succ]); (try simp only [List.set_cons_zero])
  refine wpAnyH_take (i := 4) (v := .agg X) rfl (by kernel_rfl) (by kernel_rfl) (by kernel_rfl) (fun _ _ _ h => h) (Or.inl ⟨by rfl, ?_⟩) hH ?_
  · intro w1 hS; (try dsimp only at hS); have s0 := hS.rows (w.heap.size, c) (by simp); have s1 := hS.rows (w.heap.size + 1, d) (by simp); have s2 := hS.rows (w.heap.size + 1 + 1, X) (by simp); dsimp only at s0 s1 s2; go_simp
  (try simp only [List.getElem_toArray]); (try simp only [List.getElem_cons_succ]); (try simp only [List.getElem_cons_zero]); (try simp only [Act.put]); (try simp only [List.setIfInBounds_toArray]); (try simp only [List.set_cons_succ]); (try simp only [List.set_cons_zero])
  refine wpAnyH_ready (rs := [1]) (by kernel_rfl) (by simp) (AllReadyH.cons rfl (fun K hK => ?_) AllReadyH.nil)
  go_simp
  refine (toRoof_any c r _ hR).mono ?_
  rintro x wx ⟨rfl, bx⟩
  go_simp
  refine hK.out _ _ (hH.call bx) (fun hG => ?_)
  clear hK K hH bx
  replace hH := hG
  clear hG
  (try simp only [List.getElem_toArray]); (try simp only [List.getElem_cons_succ]); (try simp only [List.getElem_cons_zero]); (try simp only [Act.put]); (try simp only [List.setIfInBounds_toArray]); (try simp only [List.set_cons_succ]); (try simp only [List.set_cons_zero])
  refine wpAnyH_ready (rs := [3]) (by kernel_rfl) (by simp) (AllReadyH.cons rfl (fun K hK => ?_) AllReadyH.nil)
  go_simp
  refine (toRain_any d t _ hT).mono ?_
  rintro x wx ⟨rfl, bx⟩
  go_simp
  refine hK.out _ _ (hH.call bx) (fun hG => ?_)
  clear hK K hH bx
  replace hH := hG
  clear hG
  (try simp only [List.getElem_toArray]); (try simp only [List.getElem_cons_succ]); (try simp only [List.getElem_cons_zero]); (try simp only [Act.put]); (try simp only [List.setIfInBounds_toArray]); (try simp only [List.set_cons_succ]); (try simp only [List.set_cons_zero])
  refine wpAnyH_ready (rs := [5]) (by kernel_rfl) (by simp) (AllReadyH.cons rfl (fun K hK => ?_) AllReadyH.nil)
  go_simp
  refine (toDrips_any X D _ hX).mono ?_
  rintro x wx ⟨rfl, bx⟩
  go_simp
  refine hK.out _ _ (hH.call bx) (fun hG => ?_)
  clear hK K hH bx
  replace hH := hG
  clear hG
  (try simp only [List.getElem_toArray]); (try simp only [List.getElem_cons_succ]); (try simp only [List.getElem_cons_zero]); (try simp only [Act.put]); (try simp only [List.setIfInBounds_toArray]); (try simp only [List.set_cons_succ]); (try simp only [List.set_cons_zero])
  refine wpAnyH_ready (rs := [6]) (by kernel_rfl) (by simp) (AllReadyH.cons rfl (fun K hK => ?_) AllReadyH.nil)
  go_simp
  refine (CI _ (HE.out.below hH.bel)).mono ?_
  rintro x wx ⟨rfl, bx⟩
  go_simp
  refine hK.out _ _ (hH.call bx) (fun hG => ?_)
  clear hK K hH bx
  replace hH := hG
  clear hG
  (try simp only [List.getElem_toArray]); (try simp only [List.getElem_cons_succ]); (try simp only [List.getElem_cons_zero]); (try simp only [Act.put]); (try simp only [List.setIfInBounds_toArray]); (try simp only [List.set_cons_succ]); (try simp only [List.set_cons_zero])
  refine wpAnyH_take (i := 7) (v := .tuple #[.bool v0, .int .i64 v1]) rfl (by kernel_rfl) (by kernel_rfl) (by kernel_rfl) (fun _ _ _ h => h) (Or.inl ⟨by rfl, ?_⟩) hH ?_
  · intro w1 hS; (try dsimp only at hS); go_simp
  (try simp only [List.getElem_toArray]); (try simp only [List.getElem_cons_succ]); (try simp only [List.getElem_cons_zero]); (try simp only [Act.put]); (try simp only [List.setIfInBounds_toArray]); (try simp only [List.set_cons_succ]); (try simp only [List.set_cons_zero])
  refine wpAnyH_take (i := 8) (v := .bool v0) rfl (by kernel_rfl) (by kernel_rfl) (by kernel_rfl) (fun _ _ _ h => h) (Or.inl ⟨by rfl, ?_⟩) hH ?_
  · intro w1 hS; (try dsimp only at hS); go_simp
  (try simp only [List.getElem_toArray]); (try simp only [List.getElem_cons_succ]); (try simp only [List.getElem_cons_zero]); (try simp only [Act.put]); (try simp only [List.setIfInBounds_toArray]); (try simp only [List.set_cons_succ]); (try simp only [List.set_cons_zero])
  refine wpAnyH_take (i := 9) (v := .int .i64 v1) rfl (by kernel_rfl) (by kernel_rfl) (by kernel_rfl) (fun _ _ _ h => h) (Or.inl ⟨by rfl, ?_⟩) hH ?_
  · intro w1 hS; (try dsimp only at hS); go_simp
  (try simp only [List.getElem_toArray]); (try simp only [List.getElem_cons_succ]); (try simp only [List.getElem_cons_zero]); (try simp only [Act.put]); (try simp only [List.setIfInBounds_toArray]); (try simp only [List.set_cons_succ]); (try simp only [List.set_cons_zero])
  refine wpAnyH_take (i := 10) (v := .bool v0) rfl (by kernel_rfl) (by kernel_rfl) (by kernel_rfl) (fun _ _ _ h => h) (Or.inl ⟨by rfl, ?_⟩) hH ?_
  · intro w1 hS; (try dsimp only at hS); go_simp
  (try simp only [List.getElem_toArray]); (try simp only [List.getElem_cons_succ]); (try simp only [List.getElem_cons_zero]); (try simp only [Act.put]); (try simp only [List.setIfInBounds_toArray]); (try simp only [List.set_cons_succ]); (try simp only [List.set_cons_zero])
  refine wpAnyH_take (i := 11) (v := .int .i64 v1) rfl (by kernel_rfl) (by kernel_rfl) (by kernel_rfl) (fun _ _ _ h => h) (Or.inl ⟨by rfl, ?_⟩) hH ?_
  · intro w1 hS; (try dsimp only at hS); go_simp
  (try simp only [List.getElem_toArray]); (try simp only [List.getElem_cons_succ]); (try simp only [List.getElem_cons_zero]); (try simp only [Act.put]); (try simp only [List.setIfInBounds_toArray]); (try simp only [List.set_cons_succ]); (try simp only [List.set_cons_zero])
  refine wpAnyH_done (by kernel_rfl) ?_ _
  have HH2 := Lib.hid hH
  clear hH HH CI
  go_wp2_with fail
  go_ret
  exact ⟨rfl, HH2.out.bel⟩

namespace LFnExactExplains
open Go.RowKit Go.ChangeShapes Go.WideShapes Go.ChangeAt
theorem own : ownKnob Tryd.prog.godebug = none := by kernel_rfl
theorem laidOut : laidOutB Tryd.prog = true := by kernel_rfl
theorem door_met (os : Os) (args : Array Value) : laidMetH Tryd.prog Rows.fnExactExplainsRow.laid ((World.doorLaid Tryd.prog 400 os).forCall (fun _ _ => 0) ⟨#[], args, []⟩).memory :=
  laidMetH_of_parts3 (fuel := 8) (laidMet_of_run' 8 (by kernel_rfl) (by kernel_rfl)) (by kernel_rfl) (by kernel_rfl)
set_option maxRecDepth 100000 in
theorem lifted (os : Os) (started : os.Started) (H : Type) (enc : TypeId × Value → H) :
    ReturnsInHanded {} Tryd.checked os 7 .any (fun w args => (Rows.fnExactExplainsSpec.pre enc Tryd.prog Tryd.f7 [] false w args ∧ laidMetH Tryd.prog Rows.fnExactExplainsRow.laid w) ∧ sizedMet enc Tryd.prog Tryd.f7 (OpenSpec.ofChange Rows.fnExactExplainsSpec) false w args)
      (Rows.fnExactExplainsSpec.post enc Tryd.prog Tryd.f7 false true false false) := by
  refine returnsInHanded_of_change_and (C := Tryd.checked) (X := fun w _ => laidMetH Tryd.prog Rows.fnExactExplainsRow.laid w) (fun _ _ _ hh h => h.of_heap hh) own started (by kernel_rfl) Tryd.func7
    (ChangeSpec.witness_shaped (enc := enc) (C := Tryd.checked) (os := os) (X := fun w _ => laidMetH Tryd.prog Rows.fnExactExplainsRow.laid w) false (World.doorLaid Tryd.prog 400 os) #[.agg Tryd.zeroCells28, .agg (Array.replicate 17 (.int .i16 0)), .agg (Array.replicate 136 (.int .i32 0))] 8 rfl (World.shaped_of_RefB (by kernel_rfl) (by kernel_rfl)) (by kernel_rfl) (by kernel_rfl) (by kernel_rfl) (door_met os _)) ?_
  intro W base args ds gs before hval0 hW _ _ hL _
  have hval : ∀ (j : Nat) t v, Tryd.f7.params[j]? = some t → args[j]? = some v → Value.okWide Tryd.prog W .any base t v := hval0
  have hW' := hW
  obtain ⟨p, q, hA0, hV, rfl, hfz, hnd⟩ := hW
  have hA : DataW.TrodAll enc Tryd.prog W 0 (fun _ => true) true Tryd.f7.params.toList args.toList ds p := hA0
  rw [Tryd.params7] at hA hval
  obtain ⟨v0, vs0, d0, ds0, p0, q0, hargs, rfl, rfl, h0, r0⟩ := trodAll_cons hA
  obtain ⟨v1, vs1, d1, ds1, p1, q1, rfl, rfl, rfl, h1, r1⟩ := trodAll_cons r0
  obtain ⟨v2, vs2, d2, ds2, p2, q2, rfl, rfl, rfl, h2, r2⟩ := trodAll_cons r1
  obtain ⟨rfl, rfl, rfl⟩ := trodAll_nil r2
  obtain rfl : args = #[v0, v1, v2] := by cases args; simp_all
  obtain ⟨g0, g1, g2, g3, g4, g5, rfl⟩ := len6 (trodVars_len hV)
  have k0 := h0
  have lt0 : ∀ x ∈ p0, x.block < W.heap.size := by obtain ⟨m, hm⟩ := k0; exact DataW.trod_lt m _ _ _ hm
  have k1 := h1
  have lt1 : ∀ x ∈ p1, x.block < W.heap.size := by obtain ⟨m, hm⟩ := k1; exact DataW.trod_lt m _ _ _ hm
  have k2 := h2
  have lt2 : ∀ x ∈ p2, x.block < W.heap.size := by obtain ⟨m, hm⟩ := k2; exact DataW.trod_lt m _ _ _ hm
  obtain ⟨c0, f0, rfl, wf0⟩ := open_roof (hval 0 28 v0 rfl rfl) h0
  obtain ⟨c1, f1, rfl, wf1⟩ := open_rain (hval 1 30 v1 rfl rfl) h1
  obtain ⟨c2, f2, rfl, wf2⟩ := open_drips (hval 2 47 v2 rfl rfl) h2
  clear hA0 hval0
  obtain ⟨a, hE⟩ := errs_of hL
  refine ((law_walk_FnExactExplains a wf0 wf1 wf2 hE)).mono fun e W' ⟨he, bel⟩ => ?_
  subst he
  exact ⟨_, rfl, _, _, _, [], _, _, hW', trodAll_mk1 (shut_bool Tryd.underlying4 _), (trodAll_cons_mk (Below.trod laidOut (by kernel_rfl) (of_decide_eq_true (by kernel_rfl)) k0 bel lt0) (trodAll_cons_mk (Below.trod laidOut (by kernel_rfl) (of_decide_eq_true (by kernel_rfl)) k1 bel lt1) (trodAll_cons_mk (Below.trod laidOut (by kernel_rfl) (of_decide_eq_true (by kernel_rfl)) k2 bel lt2) trodAll_mk0))), Below.trodVars laidOut bel (by kernel_rfl) hV, bel.frame _, fun h => by cases h⟩

theorem over : Rows.FnExactExplainsSaid :=
  OpenClaim.holds_of_wide 7 Tryd.f7 rfl rfl rfl rfl rfl rfl rfl ⟨rfl, rfl, rfl, rfl, rfl⟩ rfl rfl rfl rfl rfl (by kernel_rfl) Tryd.func7 (by kernel_rfl)
    (of_decide_eq_true (by kernel_rfl)) (by unfold Func.isWrapper; first | (rw [if_pos (by decide +kernel)]; kernel_rfl) | (rw [if_neg (by decide +kernel)]; exact ⟨rfl, rfl⟩))
    (fun os started H enc _ => lifted os started H enc)

theorem proved : Rows.FnExactExplainsCardSaid :=
  Claim7.holds_tied_plain_at .later [] Rows.fnExactExplainsCard.laidKinds true Rows.fnExactExplainsCard.stood.harness Rows.fnExactExplainsCard.stood.looks
    over (fun _ h => by cases h) (by kernel_rfl) (fun _ h => by cases h) fnExactExplains_row_tie rfl ⟨rfl, rfl⟩ (by kernel_rfl) rfl
    (fun f fn hf hfn => by
      obtain rfl : f = 7 := Option.some.inj ((show Tryd.prog.funcNamed "loop.example/g01376/laws.FnExactExplains" = some 7 by kernel_rfl).symm.trans hf) |>.symm
      obtain rfl : fn = Tryd.f7 := (Option.some.inj (Tryd.func7.symm.trans hfn)).symm
      exact ⟨by kernel_rfl, fun j t ht => by
        rw [Tryd.params7] at ht
        have hm : t ∈ [28, 30, 47] := by simpa using Array.mem_of_getElem? ht
        have hall : ([28, 30, 47].all fun u => !Tryd.prog.wantsStandIn u) = true := by kernel_rfl
        exact (show Tryd.prog.wantsStandIn t = false by simpa using List.all_eq_true.1 hall t hm)⟩)
    (by kernel_rfl)
end LFnExactExplains

end Go.Proofs.YtcopdilmkfmpiaaDoor
