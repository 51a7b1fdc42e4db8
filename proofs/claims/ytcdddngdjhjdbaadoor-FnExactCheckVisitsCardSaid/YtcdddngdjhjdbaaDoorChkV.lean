/- CheckVisits: both sides. -/
import Derived.Test.YtcdddngdjhjdbaaDoorChkA
import Derived.Test.YtcdddngdjhjdbaaDoorVisF
import Derived.Deep.QuietTactic
import Derived.BigQuiet
namespace Go.Proofs.YtcdddngdjhjdbaaDoor
open Go.RowKit

/-- The code of a roof, ages, numbers and as many visits; whether these are enough. -/
noncomputable def Rf.chkC (r : Rf) (t : Nat → Int) (y z : Int) (n : Nat) : Int := if r.ageC t (inB y 1 100 && inB z 0 200) = 0 then (if 200 < n then 3 else 0) else r.ageC t (inB y 1 100 && inB z 0 200)
noncomputable def Rf.chkV (r : Rf) (t : Nat → Int) (y z : Int) (vis : Nat → Int) (n : Nat) : Bool := if r.chkC t y z n = 0 then chkB (r.oldV t) y z vis n else false
theorem Rf.chk_age {r : Rf} {t : Nat → Int} {y z : Int} {vis : Nat → Int} {n : Nat} {k : Int} (h : r.ageC t (inB y 1 100 && inB z 0 200) = k) (hk : k ≠ 0) : r.chkC t y z n = k ∧ r.chkV t y z vis n = false := by
  have e : r.chkC t y z n = k := by unfold Rf.chkC; rw [h, if_neg hk]
  exact ⟨e, by unfold Rf.chkV; rw [e, if_neg hk]⟩
theorem Rf.chk_many {r : Rf} {t : Nat → Int} {y z : Int} {vis : Nat → Int} {n : Nat} (h : r.ageC t (inB y 1 100 && inB z 0 200) = 0) (hn : 200 < n) : r.chkC t y z n = 3 ∧ r.chkV t y z vis n = false := by
  have e : r.chkC t y z n = 3 := by unfold Rf.chkC; rw [if_pos h, if_pos hn]
  exact ⟨e, by unfold Rf.chkV; rw [e, if_neg (by decide)]⟩
theorem Rf.chk_ok {r : Rf} {t : Nat → Int} {y z : Int} {vis : Nat → Int} {n : Nat} (h : r.ageC t (inB y 1 100 && inB z 0 200) = 0) (hn : ¬ 200 < n) : r.chkC t y z n = 0 ∧ r.chkV t y z vis n = chkB (r.oldV t) y z vis n := by
  have e : r.chkC t y z n = 0 := by unfold Rf.chkC; rw [if_pos h, if_neg hn]
  exact ⟨e, by unfold Rf.chkV; rw [e, if_pos rfl]⟩

set_option maxRecDepth 100000 in
set_option maxHeartbeats 4000000 in
theorem implCheckVisits_any (b m : Nat) (u : Value) (vis : Nat → Int) (c d : Array Value) (r : Rf) (t : Nat → Int) (y z : Int) (w : World) (hR : IsRoof c r) (hA : IsU8 d 64 t) (hu : IsList w b u 1 m (fun i => .int .i64 (vis i))) (hb : ∀ i, i < m → -9223372036854775808 ≤ vis i ∧ vis i ≤ 9223372036854775807) (hm : m ≤ 2000000) (hT : ErrT w) :
    Calls Tryd.prog 19 #[.agg c, .agg d, .int .i64 y, .int .i64 z, u] w fun e w' => e = .returned (.tuple #[.bool (r.chkV t y z vis m), .int .i64 (r.chkC t y z m)]) ∧ Below w.heap.size w w' := by
  obtain ⟨q0, q1, pB⟩ := two_boxes w c d 30 32
  have hc := hR.size
  have hd := hA.size
  have HU := Lib.hid hu
  have HBV := Lib.hid hb
  obtain ⟨au, cu, rfl⟩ := hu.shape
  clear hu hb
  have hn0 := fun w => run_neq_nil_nil_at (P := Tryd.prog) (w := w) 83 (by kernel_rfl)
  have hnv := fun w => run_neq_iface_nil (P := Tryd.prog) (w := w) 83 (by kernel_rfl) 133 (.agg #[])
  have hnr := fun w => run_neq_iface_nil (P := Tryd.prog) (w := w) 83 (by kernel_rfl) 134 (.agg #[])
  by_cases ha : r.Aged t
  · cases hf : (inB y 1 100 && inB z 0 200) with
    | true =>
      have hcd : r.ageC t (inB y 1 100 && inB z 0 200) = 0 := Rf.ageC_ok ha hf
      have hfine : fineB (bn6 y 1 100 z 0 200) 2 = true := by rw [fineB_bn6]; exact hf
      have CK := fun W v h0 => checkAges_ok 0 2 c d r t v (bn6 y 1 100 z 0 200) W hR hA ha h0 (by omega) hfine
      obtain ⟨yb, zb⟩ := inB_and hf
      by_cases hmany : 200 < m
      · obtain ⟨e1, e2⟩ := Rf.chk_many (vis := vis) hcd hmany
        rw [e1, e2]
        have hmi : (200 : Int) < m := by omega
        clear hcd hf hfine e1 e2 hmany
        go_enter Tryd.func19, Tryd.ntmps19
        go_wp2_with fail
        refine gen_world fun W hW => ?_
        rw [← hW] at q0 q1 pB
        clear hW
        refine wp_region_held_drew (S := fun w' => Below W.heap.size W w') (by kernel_rfl) ((Below.refl _ _).drew) (fun hH => ?_)
        refine wpAnyH_take (i := 0) (v := .agg c) rfl (by kernel_rfl) (by kernel_rfl) (by kernel_rfl) (fun _ _ _ h => h) (Or.inl ⟨by rfl, ?_⟩) hH ?_
        · intro w1 hS; (try dsimp only at hS); have s0 := brow hS q0; go_simp
        (try simp only [List.getElem_toArray]); (try simp only [List.getElem_cons_succ]); (try simp only [List.getElem_cons_zero]); (try simp only [Act.put]); (try simp only [List.setIfInBounds_toArray]); (try simp only [List.set_cons_succ]); (try simp only [List.set_cons_zero])
        refine wpAnyH_take (i := 1) (v := .agg d) rfl (by kernel_rfl) (by kernel_rfl) (by kernel_rfl) (fun _ _ _ h => h) (Or.inl ⟨by rfl, ?_⟩) hH ?_
        · intro w1 hS; (try dsimp only at hS); have s1 := brow hS q1; go_simp
        (try simp only [List.getElem_toArray]); (try simp only [List.getElem_cons_succ]); (try simp only [List.getElem_cons_zero]); (try simp only [Act.put]); (try simp only [List.setIfInBounds_toArray]); (try simp only [List.set_cons_succ]); (try simp only [List.set_cons_zero])
        refine wpAnyH_take (i := 2) (v := .int .i64 y) rfl (by kernel_rfl) (by kernel_rfl) (by kernel_rfl) (fun _ _ _ h => h) (Or.inl ⟨by rfl, ?_⟩) hH ?_
        · intro w1 hS; (try dsimp only at hS); go_simp
        (try simp only [List.getElem_toArray]); (try simp only [List.getElem_cons_succ]); (try simp only [List.getElem_cons_zero]); (try simp only [Act.put]); (try simp only [List.setIfInBounds_toArray]); (try simp only [List.set_cons_succ]); (try simp only [List.set_cons_zero])
        refine wpAnyH_take (i := 4) (v := .int .i64 z) rfl (by kernel_rfl) (by kernel_rfl) (by kernel_rfl) (fun _ _ _ h => h) (Or.inl ⟨by rfl, ?_⟩) hH ?_
        · intro w1 hS; (try dsimp only at hS); go_simp
        (try simp only [List.getElem_toArray]); (try simp only [List.getElem_cons_succ]); (try simp only [List.getElem_cons_zero]); (try simp only [Act.put]); (try simp only [List.setIfInBounds_toArray]); (try simp only [List.set_cons_succ]); (try simp only [List.set_cons_zero])
        refine wpAnyH_ready (rs := [3]) (by kernel_rfl) (by simp) (AllReadyH.cons rfl (fun K hK => ?_) AllReadyH.nil)
        go_simp
        refine (lived_any y _).mono ?_
        rintro x wx ⟨rfl, bx⟩
        go_simp
        refine hK.out _ _ (bnext hH bx hH.size) (fun hG => ?_)
        clear hK K hH bx
        replace hH := hG
        clear hG
        (try simp only [List.getElem_toArray]); (try simp only [List.getElem_cons_succ]); (try simp only [List.getElem_cons_zero]); (try simp only [Act.put]); (try simp only [List.setIfInBounds_toArray]); (try simp only [List.set_cons_succ]); (try simp only [List.set_cons_zero])
        refine wpAnyH_ready (rs := [5]) (by kernel_rfl) (by simp) (AllReadyH.cons rfl (fun K hK => ?_) AllReadyH.nil)
        go_simp
        refine (gone_any z _).mono ?_
        rintro x wx ⟨rfl, bx⟩
        go_simp
        refine hK.out _ _ (bnext hH bx hH.size) (fun hG => ?_)
        clear hK K hH bx
        replace hH := hG
        clear hG
        (try simp only [List.getElem_toArray]); (try simp only [List.getElem_cons_succ]); (try simp only [List.getElem_cons_zero]); (try simp only [Act.put]); (try simp only [List.setIfInBounds_toArray]); (try simp only [List.set_cons_succ]); (try simp only [List.set_cons_zero])
        refine wpAnyH_ready (rs := [6]) (by kernel_rfl) (by simp) (AllReadyH.cons rfl (fun K hK => ?_) AllReadyH.nil)
        go_simp
        refine hK.out _ _ (hH.alloc hH.size _) (fun hG => ?_)
        clear hK K hH
        replace hH := hG
        clear hG
        (try simp only [List.getElem_toArray]); (try simp only [List.getElem_cons_succ]); (try simp only [List.getElem_cons_zero]); (try simp only [Act.put]); (try simp only [List.setIfInBounds_toArray]); (try simp only [List.set_cons_succ]); (try simp only [List.set_cons_zero])
        refine wpAnyH_ready (rs := [7]) (by kernel_rfl) (by simp) (AllReadyH.cons rfl (fun K hK => ?_) AllReadyH.nil)
        go_simp
        refine (CK _ _ (IsList.li6 (rowAt_alloc_at _ _ _ _ rfl) (Nat.zero_le _))).mono ?_
        rintro x wx ⟨rfl, bx⟩
        go_simp
        refine hK.out _ _ (bnext hH bx hH.size) (fun hG => ?_)
        clear hK K hH bx
        replace hH := hG
        clear hG
        (try simp only [List.getElem_toArray]); (try simp only [List.getElem_cons_succ]); (try simp only [List.getElem_cons_zero]); (try simp only [Act.put]); (try simp only [List.setIfInBounds_toArray]); (try simp only [List.set_cons_succ]); (try simp only [List.set_cons_zero])
        refine wpAnyH_take (i := 8) (v := .nilIface) rfl (by kernel_rfl) (by kernel_rfl) (by kernel_rfl) (fun _ _ _ h => h) (Or.inl ⟨by rfl, ?_⟩) hH ?_
        · intro w1 hS; (try dsimp only at hS); go_simp
        (try simp only [List.getElem_toArray]); (try simp only [List.getElem_cons_succ]); (try simp only [List.getElem_cons_zero]); (try simp only [Act.put]); (try simp only [List.setIfInBounds_toArray]); (try simp only [List.set_cons_succ]); (try simp only [List.set_cons_zero])
        refine wpAnyH_done (by kernel_rfl) ?_ _
        have B1 := bnext pB hH pB.size
        clear hH q0 q1 pB CK
        go_wp2_with fail
        go_ret2
        exact ⟨rfl, B1⟩
      · obtain ⟨e1, e2⟩ := Rf.chk_ok (vis := vis) hcd hmany
        rw [e1, e2]
        have hmi : ¬ (200 : Int) < m := by omega
        have CO := fun W => oldest_ok c d r t W hR hA ha.1
        have vb := Rf.oldV_bd ha hA.lo
        have CE := fun W (hv : IsList W b (.slice au m cu) 1 m (fun i => .int .i64 (vis i))) => areEnough_any b m (.slice au m cu) vis (r.oldV t) y z W hv HBV.out vb yb zb (by omega)
        generalize chkB (r.oldV t) y z vis m = bb at *
        generalize r.oldV t = v at *
        generalize (r.oldAt t).1 = p1 at *
        generalize (r.oldAt t).2 = p2 at *
        clear hcd hf hfine e1 e2 hmany
        go_enter Tryd.func19, Tryd.ntmps19
        go_wp2_with fail
        refine gen_world fun W hW => ?_
        rw [← hW] at q0 q1 pB
        clear hW
        refine wp_region_held_drew (S := fun w' => Below W.heap.size W w') (by kernel_rfl) ((Below.refl _ _).drew) (fun hH => ?_)
        refine wpAnyH_take (i := 0) (v := .agg c) rfl (by kernel_rfl) (by kernel_rfl) (by kernel_rfl) (fun _ _ _ h => h) (Or.inl ⟨by rfl, ?_⟩) hH ?_
        · intro w1 hS; (try dsimp only at hS); have s0 := brow hS q0; go_simp
        (try simp only [List.getElem_toArray]); (try simp only [List.getElem_cons_succ]); (try simp only [List.getElem_cons_zero]); (try simp only [Act.put]); (try simp only [List.setIfInBounds_toArray]); (try simp only [List.set_cons_succ]); (try simp only [List.set_cons_zero])
        refine wpAnyH_take (i := 1) (v := .agg d) rfl (by kernel_rfl) (by kernel_rfl) (by kernel_rfl) (fun _ _ _ h => h) (Or.inl ⟨by rfl, ?_⟩) hH ?_
        · intro w1 hS; (try dsimp only at hS); have s1 := brow hS q1; go_simp
        (try simp only [List.getElem_toArray]); (try simp only [List.getElem_cons_succ]); (try simp only [List.getElem_cons_zero]); (try simp only [Act.put]); (try simp only [List.setIfInBounds_toArray]); (try simp only [List.set_cons_succ]); (try simp only [List.set_cons_zero])
        refine wpAnyH_take (i := 2) (v := .int .i64 y) rfl (by kernel_rfl) (by kernel_rfl) (by kernel_rfl) (fun _ _ _ h => h) (Or.inl ⟨by rfl, ?_⟩) hH ?_
        · intro w1 hS; (try dsimp only at hS); go_simp
        (try simp only [List.getElem_toArray]); (try simp only [List.getElem_cons_succ]); (try simp only [List.getElem_cons_zero]); (try simp only [Act.put]); (try simp only [List.setIfInBounds_toArray]); (try simp only [List.set_cons_succ]); (try simp only [List.set_cons_zero])
        refine wpAnyH_take (i := 4) (v := .int .i64 z) rfl (by kernel_rfl) (by kernel_rfl) (by kernel_rfl) (fun _ _ _ h => h) (Or.inl ⟨by rfl, ?_⟩) hH ?_
        · intro w1 hS; (try dsimp only at hS); go_simp
        (try simp only [List.getElem_toArray]); (try simp only [List.getElem_cons_succ]); (try simp only [List.getElem_cons_zero]); (try simp only [Act.put]); (try simp only [List.setIfInBounds_toArray]); (try simp only [List.set_cons_succ]); (try simp only [List.set_cons_zero])
        refine wpAnyH_ready (rs := [3]) (by kernel_rfl) (by simp) (AllReadyH.cons rfl (fun K hK => ?_) AllReadyH.nil)
        go_simp
        refine (lived_any y _).mono ?_
        rintro x wx ⟨rfl, bx⟩
        go_simp
        refine hK.out _ _ (bnext hH bx hH.size) (fun hG => ?_)
        clear hK K hH bx
        replace hH := hG
        clear hG
        (try simp only [List.getElem_toArray]); (try simp only [List.getElem_cons_succ]); (try simp only [List.getElem_cons_zero]); (try simp only [Act.put]); (try simp only [List.setIfInBounds_toArray]); (try simp only [List.set_cons_succ]); (try simp only [List.set_cons_zero])
        refine wpAnyH_ready (rs := [5]) (by kernel_rfl) (by simp) (AllReadyH.cons rfl (fun K hK => ?_) AllReadyH.nil)
        go_simp
        refine (gone_any z _).mono ?_
        rintro x wx ⟨rfl, bx⟩
        go_simp
        refine hK.out _ _ (bnext hH bx hH.size) (fun hG => ?_)
        clear hK K hH bx
        replace hH := hG
        clear hG
        (try simp only [List.getElem_toArray]); (try simp only [List.getElem_cons_succ]); (try simp only [List.getElem_cons_zero]); (try simp only [Act.put]); (try simp only [List.setIfInBounds_toArray]); (try simp only [List.set_cons_succ]); (try simp only [List.set_cons_zero])
        refine wpAnyH_ready (rs := [6]) (by kernel_rfl) (by simp) (AllReadyH.cons rfl (fun K hK => ?_) AllReadyH.nil)
        go_simp
        refine hK.out _ _ (hH.alloc hH.size _) (fun hG => ?_)
        clear hK K hH
        replace hH := hG
        clear hG
        (try simp only [List.getElem_toArray]); (try simp only [List.getElem_cons_succ]); (try simp only [List.getElem_cons_zero]); (try simp only [Act.put]); (try simp only [List.setIfInBounds_toArray]); (try simp only [List.set_cons_succ]); (try simp only [List.set_cons_zero])
        refine wpAnyH_ready (rs := [7]) (by kernel_rfl) (by simp) (AllReadyH.cons rfl (fun K hK => ?_) AllReadyH.nil)
        go_simp
        refine (CK _ _ (IsList.li6 (rowAt_alloc_at _ _ _ _ rfl) (Nat.zero_le _))).mono ?_
        rintro x wx ⟨rfl, bx⟩
        go_simp
        refine hK.out _ _ (bnext hH bx hH.size) (fun hG => ?_)
        clear hK K hH bx
        replace hH := hG
        clear hG
        (try simp only [List.getElem_toArray]); (try simp only [List.getElem_cons_succ]); (try simp only [List.getElem_cons_zero]); (try simp only [Act.put]); (try simp only [List.setIfInBounds_toArray]); (try simp only [List.set_cons_succ]); (try simp only [List.set_cons_zero])
        refine wpAnyH_take (i := 8) (v := .nilIface) rfl (by kernel_rfl) (by kernel_rfl) (by kernel_rfl) (fun _ _ _ h => h) (Or.inl ⟨by rfl, ?_⟩) hH ?_
        · intro w1 hS; (try dsimp only at hS); go_simp
        (try simp only [List.getElem_toArray]); (try simp only [List.getElem_cons_succ]); (try simp only [List.getElem_cons_zero]); (try simp only [Act.put]); (try simp only [List.setIfInBounds_toArray]); (try simp only [List.set_cons_succ]); (try simp only [List.set_cons_zero])
        refine wpAnyH_done (by kernel_rfl) ?_ _
        have B1 := bnext pB hH pB.size
        have p0 := brow hH q0
        have p1 := brow hH q1
        clear hH q0 q1 pB CK
        go_wp2_with fail
        refine (CO _).mono ?_
        rintro e w1 ⟨rfl, b1⟩
        have B2 := bnext B1 b1 B1.size
        clear b1 B1 p0 p1 CO
        go_wp2_with fail
        refine gen_callsW fun V hV => ?_
        have B3 : Below w.heap.size w V := by rw [hV]; go_simp; exact B2.alloc B2.size _
        clear hV B2
        refine (CE V (HU.out.below B3 (Nat.le_refl _))).mono ?_
        rintro e w2 ⟨rfl, b2⟩
        have B4 := bnext B3 b2 B3.size
        clear b2 B3 CE
        go_wp2_with fail
        go_ret2
        exact ⟨rfl, B4⟩
    | false =>
      obtain ⟨e1, e2⟩ := Rf.chk_age (vis := vis) (n := m) (show r.ageC t (inB y 1 100 && inB z 0 200) = 2 from Rf.ageC_r ha hf) (by decide)
      have hfine : fineB (bn6 y 1 100 z 0 200) 2 = false := by rw [fineB_bn6]; exact hf
      rw [e1, e2]
      have CK := fun W v h0 => checkAges_r 0 2 c d r t v (bn6 y 1 100 z 0 200) W hR hA ha h0 (by omega) hfine
      clear hf hfine e1 e2
      go_enter Tryd.func19, Tryd.ntmps19
      go_wp2_with fail
      refine gen_world fun W hW => ?_
      rw [← hW] at q0 q1 pB
      clear hW
      refine wp_region_held_drew (S := fun w' => Below W.heap.size W w') (by kernel_rfl) ((Below.refl _ _).drew) (fun hH => ?_)
      refine wpAnyH_take (i := 0) (v := .agg c) rfl (by kernel_rfl) (by kernel_rfl) (by kernel_rfl) (fun _ _ _ h => h) (Or.inl ⟨by rfl, ?_⟩) hH ?_
      · intro w1 hS; (try dsimp only at hS); have s0 := brow hS q0; go_simp
      (try simp only [List.getElem_toArray]); (try simp only [List.getElem_cons_succ]); (try simp only [List.getElem_cons_zero]); (try simp only [Act.put]); (try simp only [List.setIfInBounds_toArray]); (try simp only [List.set_cons_succ]); (try simp only [List.set_cons_zero])
      refine wpAnyH_take (i := 1) (v := .agg d) rfl (by kernel_rfl) (by kernel_rfl) (by kernel_rfl) (fun _ _ _ h => h) (Or.inl ⟨by rfl, ?_⟩) hH ?_
      · intro w1 hS; (try dsimp only at hS); have s1 := brow hS q1; go_simp
      (try simp only [List.getElem_toArray]); (try simp only [List.getElem_cons_succ]); (try simp only [List.getElem_cons_zero]); (try simp only [Act.put]); (try simp only [List.setIfInBounds_toArray]); (try simp only [List.set_cons_succ]); (try simp only [List.set_cons_zero])
      refine wpAnyH_take (i := 2) (v := .int .i64 y) rfl (by kernel_rfl) (by kernel_rfl) (by kernel_rfl) (fun _ _ _ h => h) (Or.inl ⟨by rfl, ?_⟩) hH ?_
      · intro w1 hS; (try dsimp only at hS); go_simp
      (try simp only [List.getElem_toArray]); (try simp only [List.getElem_cons_succ]); (try simp only [List.getElem_cons_zero]); (try simp only [Act.put]); (try simp only [List.setIfInBounds_toArray]); (try simp only [List.set_cons_succ]); (try simp only [List.set_cons_zero])
      refine wpAnyH_take (i := 4) (v := .int .i64 z) rfl (by kernel_rfl) (by kernel_rfl) (by kernel_rfl) (fun _ _ _ h => h) (Or.inl ⟨by rfl, ?_⟩) hH ?_
      · intro w1 hS; (try dsimp only at hS); go_simp
      (try simp only [List.getElem_toArray]); (try simp only [List.getElem_cons_succ]); (try simp only [List.getElem_cons_zero]); (try simp only [Act.put]); (try simp only [List.setIfInBounds_toArray]); (try simp only [List.set_cons_succ]); (try simp only [List.set_cons_zero])
      refine wpAnyH_ready (rs := [3]) (by kernel_rfl) (by simp) (AllReadyH.cons rfl (fun K hK => ?_) AllReadyH.nil)
      go_simp
      refine (lived_any y _).mono ?_
      rintro x wx ⟨rfl, bx⟩
      go_simp
      refine hK.out _ _ (bnext hH bx hH.size) (fun hG => ?_)
      clear hK K hH bx
      replace hH := hG
      clear hG
      (try simp only [List.getElem_toArray]); (try simp only [List.getElem_cons_succ]); (try simp only [List.getElem_cons_zero]); (try simp only [Act.put]); (try simp only [List.setIfInBounds_toArray]); (try simp only [List.set_cons_succ]); (try simp only [List.set_cons_zero])
      refine wpAnyH_ready (rs := [5]) (by kernel_rfl) (by simp) (AllReadyH.cons rfl (fun K hK => ?_) AllReadyH.nil)
      go_simp
      refine (gone_any z _).mono ?_
      rintro x wx ⟨rfl, bx⟩
      go_simp
      refine hK.out _ _ (bnext hH bx hH.size) (fun hG => ?_)
      clear hK K hH bx
      replace hH := hG
      clear hG
      (try simp only [List.getElem_toArray]); (try simp only [List.getElem_cons_succ]); (try simp only [List.getElem_cons_zero]); (try simp only [Act.put]); (try simp only [List.setIfInBounds_toArray]); (try simp only [List.set_cons_succ]); (try simp only [List.set_cons_zero])
      refine wpAnyH_ready (rs := [6]) (by kernel_rfl) (by simp) (AllReadyH.cons rfl (fun K hK => ?_) AllReadyH.nil)
      go_simp
      refine hK.out _ _ (hH.alloc hH.size _) (fun hG => ?_)
      clear hK K hH
      replace hH := hG
      clear hG
      (try simp only [List.getElem_toArray]); (try simp only [List.getElem_cons_succ]); (try simp only [List.getElem_cons_zero]); (try simp only [Act.put]); (try simp only [List.setIfInBounds_toArray]); (try simp only [List.set_cons_succ]); (try simp only [List.set_cons_zero])
      refine wpAnyH_ready (rs := [7]) (by kernel_rfl) (by simp) (AllReadyH.cons rfl (fun K hK => ?_) AllReadyH.nil)
      go_simp
      refine (CK _ _ (IsList.li6 (rowAt_alloc_at _ _ _ _ rfl) (Nat.zero_le _))).mono ?_
      rintro x wx ⟨rfl, bx⟩
      go_simp
      refine hK.out _ _ (bnext hH bx hH.size) (fun hG => ?_)
      clear hK K hH bx
      replace hH := hG
      clear hG
      (try simp only [List.getElem_toArray]); (try simp only [List.getElem_cons_succ]); (try simp only [List.getElem_cons_zero]); (try simp only [Act.put]); (try simp only [List.setIfInBounds_toArray]); (try simp only [List.set_cons_succ]); (try simp only [List.set_cons_zero])
      refine wpAnyH_take (i := 8) (v := .iface 134 (.agg #[])) rfl (by kernel_rfl) (by kernel_rfl) (by kernel_rfl) (fun _ _ _ h => h) (Or.inl ⟨by rfl, ?_⟩) hH ?_
      · intro w1 hS; (try dsimp only at hS); go_simp
      (try simp only [List.getElem_toArray]); (try simp only [List.getElem_cons_succ]); (try simp only [List.getElem_cons_zero]); (try simp only [Act.put]); (try simp only [List.setIfInBounds_toArray]); (try simp only [List.set_cons_succ]); (try simp only [List.set_cons_zero])
      refine wpAnyH_done (by kernel_rfl) ?_ _
      have B1 := bnext pB hH pB.size
      have T1 := hT.below B1
      clear hH q0 q1 pB CK
      go_wp2_with fail
      refine (yearCode_R _ T1).mono ?_
      rintro e w1 ⟨rfl, b1⟩
      have B2 := bnext B1 b1 B1.size
      clear b1 B1 T1
      go_wp2_with fail
      go_ret2
      exact ⟨rfl, B2⟩
  · obtain ⟨e1, e2⟩ := Rf.chk_age (y := y) (z := z) (vis := vis) (n := m) (Rf.ageC_v ha) (by decide)
    rw [e1, e2]
    have CV := fun W v => checkAges_v c d r t v W hR hA ha
    clear e1 e2
    go_enter Tryd.func19, Tryd.ntmps19
    go_wp2_with fail
    refine gen_world fun W hW => ?_
    rw [← hW] at q0 q1 pB
    clear hW
    refine wp_region_held_drew (S := fun w' => Below W.heap.size W w') (by kernel_rfl) ((Below.refl _ _).drew) (fun hH => ?_)
    refine wpAnyH_take (i := 0) (v := .agg c) rfl (by kernel_rfl) (by kernel_rfl) (by kernel_rfl) (fun _ _ _ h => h) (Or.inl ⟨by rfl, ?_⟩) hH ?_
    · intro w1 hS; (try dsimp only at hS); have s0 := brow hS q0; go_simp
    (try simp only [List.getElem_toArray]); (try simp only [List.getElem_cons_succ]); (try simp only [List.getElem_cons_zero]); (try simp only [Act.put]); (try simp only [List.setIfInBounds_toArray]); (try simp only [List.set_cons_succ]); (try simp only [List.set_cons_zero])
    refine wpAnyH_take (i := 1) (v := .agg d) rfl (by kernel_rfl) (by kernel_rfl) (by kernel_rfl) (fun _ _ _ h => h) (Or.inl ⟨by rfl, ?_⟩) hH ?_
    · intro w1 hS; (try dsimp only at hS); have s1 := brow hS q1; go_simp
    (try simp only [List.getElem_toArray]); (try simp only [List.getElem_cons_succ]); (try simp only [List.getElem_cons_zero]); (try simp only [Act.put]); (try simp only [List.setIfInBounds_toArray]); (try simp only [List.set_cons_succ]); (try simp only [List.set_cons_zero])
    refine wpAnyH_take (i := 2) (v := .int .i64 y) rfl (by kernel_rfl) (by kernel_rfl) (by kernel_rfl) (fun _ _ _ h => h) (Or.inl ⟨by rfl, ?_⟩) hH ?_
    · intro w1 hS; (try dsimp only at hS); go_simp
    (try simp only [List.getElem_toArray]); (try simp only [List.getElem_cons_succ]); (try simp only [List.getElem_cons_zero]); (try simp only [Act.put]); (try simp only [List.setIfInBounds_toArray]); (try simp only [List.set_cons_succ]); (try simp only [List.set_cons_zero])
    refine wpAnyH_take (i := 4) (v := .int .i64 z) rfl (by kernel_rfl) (by kernel_rfl) (by kernel_rfl) (fun _ _ _ h => h) (Or.inl ⟨by rfl, ?_⟩) hH ?_
    · intro w1 hS; (try dsimp only at hS); go_simp
    (try simp only [List.getElem_toArray]); (try simp only [List.getElem_cons_succ]); (try simp only [List.getElem_cons_zero]); (try simp only [Act.put]); (try simp only [List.setIfInBounds_toArray]); (try simp only [List.set_cons_succ]); (try simp only [List.set_cons_zero])
    refine wpAnyH_ready (rs := [3]) (by kernel_rfl) (by simp) (AllReadyH.cons rfl (fun K hK => ?_) AllReadyH.nil)
    go_simp
    refine (lived_any y _).mono ?_
    rintro x wx ⟨rfl, bx⟩
    go_simp
    refine hK.out _ _ (bnext hH bx hH.size) (fun hG => ?_)
    clear hK K hH bx
    replace hH := hG
    clear hG
    (try simp only [List.getElem_toArray]); (try simp only [List.getElem_cons_succ]); (try simp only [List.getElem_cons_zero]); (try simp only [Act.put]); (try simp only [List.setIfInBounds_toArray]); (try simp only [List.set_cons_succ]); (try simp only [List.set_cons_zero])
    refine wpAnyH_ready (rs := [5]) (by kernel_rfl) (by simp) (AllReadyH.cons rfl (fun K hK => ?_) AllReadyH.nil)
    go_simp
    refine (gone_any z _).mono ?_
    rintro x wx ⟨rfl, bx⟩
    go_simp
    refine hK.out _ _ (bnext hH bx hH.size) (fun hG => ?_)
    clear hK K hH bx
    replace hH := hG
    clear hG
    (try simp only [List.getElem_toArray]); (try simp only [List.getElem_cons_succ]); (try simp only [List.getElem_cons_zero]); (try simp only [Act.put]); (try simp only [List.setIfInBounds_toArray]); (try simp only [List.set_cons_succ]); (try simp only [List.set_cons_zero])
    refine wpAnyH_ready (rs := [6]) (by kernel_rfl) (by simp) (AllReadyH.cons rfl (fun K hK => ?_) AllReadyH.nil)
    go_simp
    refine hK.out _ _ (hH.alloc hH.size _) (fun hG => ?_)
    clear hK K hH
    replace hH := hG
    clear hG
    (try simp only [List.getElem_toArray]); (try simp only [List.getElem_cons_succ]); (try simp only [List.getElem_cons_zero]); (try simp only [Act.put]); (try simp only [List.setIfInBounds_toArray]); (try simp only [List.set_cons_succ]); (try simp only [List.set_cons_zero])
    refine wpAnyH_ready (rs := [7]) (by kernel_rfl) (by simp) (AllReadyH.cons rfl (fun K hK => ?_) AllReadyH.nil)
    go_simp
    refine (CV _ _).mono ?_
    rintro x wx ⟨rfl, bx⟩
    go_simp
    refine hK.out _ _ (bnext hH bx hH.size) (fun hG => ?_)
    clear hK K hH bx
    replace hH := hG
    clear hG
    (try simp only [List.getElem_toArray]); (try simp only [List.getElem_cons_succ]); (try simp only [List.getElem_cons_zero]); (try simp only [Act.put]); (try simp only [List.setIfInBounds_toArray]); (try simp only [List.set_cons_succ]); (try simp only [List.set_cons_zero])
    refine wpAnyH_take (i := 8) (v := .iface 133 (.agg #[])) rfl (by kernel_rfl) (by kernel_rfl) (by kernel_rfl) (fun _ _ _ h => h) (Or.inl ⟨by rfl, ?_⟩) hH ?_
    · intro w1 hS; (try dsimp only at hS); go_simp
    (try simp only [List.getElem_toArray]); (try simp only [List.getElem_cons_succ]); (try simp only [List.getElem_cons_zero]); (try simp only [Act.put]); (try simp only [List.setIfInBounds_toArray]); (try simp only [List.set_cons_succ]); (try simp only [List.set_cons_zero])
    refine wpAnyH_done (by kernel_rfl) ?_ _
    have B1 := bnext pB hH pB.size
    have T1 := hT.below B1
    clear hH q0 q1 pB CV
    go_wp2_with fail
    refine (yearCode_V _ T1).mono ?_
    rintro e w1 ⟨rfl, b1⟩
    have B2 := bnext B1 b1 B1.size
    clear b1 B1 T1
    go_wp2_with fail
    go_ret2
    exact ⟨rfl, B2⟩

set_option maxRecDepth 100000 in
set_option maxHeartbeats 4000000 in
theorem specCheckVisits_any (b m : Nat) (u : Value) (vis : Nat → Int) (c d : Array Value) (r : Rf) (t : Nat → Int) (y z : Int) (w : World) (hR : IsRoof c r) (hA : IsU8 d 64 t) (hu : IsList w b u 1 m (fun i => .int .i64 (vis i))) (hb : ∀ i, i < m → -9223372036854775808 ≤ vis i ∧ vis i ≤ 9223372036854775807) (hm : m ≤ 2000000) :
    Calls Tryd.prog 17 #[.agg c, .agg d, .int .i64 y, .int .i64 z, u] w fun e w' => e = .returned (.tuple #[.bool (r.chkV t y z vis m), .int .i64 (r.chkC t y z m)]) ∧ Below w.heap.size w w' := by
  obtain ⟨p0, p1, pB⟩ := two_boxes w c d 30 32
  have HU := Lib.hid hu
  have HBV := Lib.hid hb
  obtain ⟨au, cu, rfl⟩ := hu.shape
  clear hu hb
  have CL := fun W => l07Life_any y W
  have CY := fun W => l07Years_any z W
  have CA := fun W h0 h1 => l07Asked_any w.heap.size (w.heap.size + 1) c d r t (inB y 1 100 && inB z 0 200) W h0 hR h1 hA
  by_cases hz : r.ageC t (inB y 1 100 && inB z 0 200) = 0
  · have hzb : (r.ageC t (inB y 1 100 && inB z 0 200) == 0) = true := by simp [hz]
    obtain ⟨ha, hf⟩ := Rf.ageC_zeroV hz
    obtain ⟨yb, zb⟩ := inB_and hf
    have h1 : inB y 1 100 = true := inB_true yb
    have h2 : inB z 0 200 = true := inB_true zb
    by_cases hmany : 200 < m
    · obtain ⟨e1, e2⟩ := Rf.chk_many (vis := vis) hz hmany
      rw [e1, e2]
      rw [hz, hf] at CA
      rw [h1] at CL
      rw [h2] at CY
      have hmi : (200 : Int) < m := by omega
      have hmd : decide ((200 : Int) < m) = true := by simpa using hmi
      clear hz hzb hf h1 h2 e1 e2 hmany
      go_enter Tryd.func17, Tryd.ntmps17
      go_wp2_with fail
      refine (CL _).mono ?_
      rintro e w1 ⟨rfl, rfl⟩
      go_wp2_with fail
      refine (CY _).mono ?_
      rintro e w1 ⟨rfl, rfl⟩
      go_wp2_with fail
      refine (CA _ p0 p1).mono ?_
      rintro e w1 ⟨rfl, b1⟩
      have r0 := brow b1 p0
      have r1 := brow b1 p1
      have B1 := bnext pB b1 pB.size
      clear b1 p0 p1 pB CA CL CY
      go_wp2_with fail
      go_ret2
      exact ⟨rfl, B1⟩

    · obtain ⟨e1, e2⟩ := Rf.chk_ok (vis := vis) hz hmany
      rw [e1, e2]
      rw [hz, hf] at CA
      rw [h1] at CL
      rw [h2] at CY
      have hmi : ¬ (200 : Int) < m := by omega
      have hmd : decide ((200 : Int) < m) = false := by simpa using hmi
      have CO := fun W h0 h1 => l07Oldest_ok w.heap.size (w.heap.size + 1) c d r t W h0 hR h1 hA ha.1
      have vb := Rf.oldV_bd ha hA.lo
      generalize r.oldV t = v at *
      generalize (r.oldAt t).1 = a1 at *
      generalize (r.oldAt t).2 = a2 at *
      have HEND := Lib.hid (fun h => chk_end (v := v) (y := y) (z := z) (vis := vis) (n := m) h)
      have HNO := Lib.hid (fun k hk h => chk_no (v := v) (y := y) (z := z) (vis := vis) (n := m) (k := k) hk h)
      have HBD := Lib.hid (fun k h => chk_bd2 (y := y) (vis := vis) vb zb k h)
      clear hz hzb hf h1 h2 e1 e2 hmany
      go_enter Tryd.func17, Tryd.ntmps17
      go_wp2_with fail
      refine (CL _).mono ?_
      rintro e w1 ⟨rfl, rfl⟩
      go_wp2_with fail
      refine (CY _).mono ?_
      rintro e w1 ⟨rfl, rfl⟩
      go_wp2_with fail
      refine (CA _ p0 p1).mono ?_
      rintro e w1 ⟨rfl, b1⟩
      have r0 := brow b1 p0
      have r1 := brow b1 p1
      have B1 := bnext pB b1 pB.size
      clear b1 p0 p1 pB CA CL CY
      go_wp2_with fail
      refine (CO _ r0 r1).mono ?_
      rintro e w2 ⟨rfl, b2⟩
      have B2 := bnext B1 b2 B1.size
      clear b2 B1 r0 r1 CO
      go_wp2_with fail
      refine gen_world fun V hV => ?_
      have B3 : Below w.heap.size w V := by rw [hV]; go_simp; exact B2.alloc B2.size _
      clear hV B2
      go_loopw [15, 16] (fun a i W' => ∃ k : Nat, k ≤ m ∧ i = .int .i64 k ∧ a = .int .i64 (chkLast v vis k) ∧ Hid (∀ j, j < k → chkStep v y z vis j = true) ∧ Below w.heap.size w W') (fun _ i _ => m - (intOf i).toNat)
      case atStart => exact ⟨0, by omega, rfl, rfl, Lib.hid (fun j hj => by omega), B3⟩
      case round =>
        clear B3
        obtain ⟨k, hk, rfl, rfl, hF, hB⟩ := hrel
        obtain ⟨⟨p0, p1⟩, l0, l1⟩ := HBD.out k hF.out
        by_cases hlt : k < m
        · obtain ⟨g, cap', cur, rfl, hgr, hgf⟩ : ∃ g cap' cur, au = some ⟨g, 0, none⟩ ∧ rowAt wr g = some cur ∧ ∀ i, i < m → cur[i]? = some (.int .i64 (vis i)) ∧ cap' = 0 := by
            rcases (HU.out.below hB (Nat.le_refl _)) with ⟨h0, _⟩ | ⟨g', cap', cur', e, hg, hr', hs', hf'⟩
            · omega
            · cases e
              exact ⟨g', 0, cur', rfl, hr', fun i hi => ⟨hf' _ (by omega), rfl⟩⟩
          have c0 : wr.cell? ⟨g, k, none⟩ = some (.int .i64 (vis k)) := (cell_of_rowAt hgr _).trans (hgf k hlt).1
          have k0 : 0 ≤ (k : Int) := by omega
          have k1 : (k : Int) < m := by omega
          obtain ⟨x0, x1⟩ := HBV.out k hlt
          have HL := Lib.hid (show chkLast v vis (k + 1) = vis k from rfl)
          have HY := Lib.hid (fun h => chk_step (v := v) (y := y) (z := z) (vis := vis) (k := k) |>.2 h)
          have HN := Lib.hid (fun h => HNO.out k hlt (chk_stepF (v := v) (y := y) (z := z) (vis := vis) (k := k) h))
          rcases Nat.eq_zero_or_pos k with hk0 | hk0
          · subst hk0
            have HP : chkPrev vis 0 = -1 := rfl
            rw [HP] at HY HN p0 p1
            have hkz : decide ((0 : Int) < ((0 : Nat) : Int)) = false := by decide
            clear HP hgf hgr
            generalize vis 0 = x at *
            generalize chkLast v vis 0 = a at *
            by_cases hin : 0 ≤ x ∧ x ≤ z
            · have ey : IntKind.i64.wrap (x - a) = x - a := IntWalk.i64_in _ (by omega)
              by_cases hl : y < x - a
              · have HS := Lib.hid (HN.out (by omega))
                have hdl : decide (y < x - a) = true := by simpa using hl
                go_wp2_with fail
                go_quiet ((go_at_call 53; exact Calls.quiet_of_same (l00In_tq _ _ _ _ hin)))
                go_wp2_with fail
                go_ret2
                exact ⟨by first | (rw [HS.out]; done) | (rw [HS.out]; rfl), below_drewN hB _⟩
              · have HS := Lib.hid (HY.out (by omega))
                have hdl : decide (y < x - a) = false := by simpa using hl
                go_wp2_with fail
                go_quiet ((go_at_call 53; exact Calls.quiet_of_same (l00In_tq _ _ _ _ hin)))
                go_wp2_with fail
                refine ⟨⟨0 + 1, by omega, by go_num, by rw [HL.out], Lib.hid (fun i hi => ?_), below_drewN hB _⟩, by simp [intOf]; omega⟩
                by_cases ej : i < 0
                · exact hF.out i ej
                · obtain rfl : i = 0 := by omega
                  exact HS.out
            · have HS := Lib.hid (HN.out (by omega))
              go_wp2_with fail
              go_quiet ((go_at_call 53; exact Calls.quiet_of_same (l00In_fq _ _ _ _ hin)))
              go_wp2_with fail
              go_ret2
              exact ⟨by first | (rw [HS.out]; done) | (rw [HS.out]; rfl), below_drewN hB _⟩
          · obtain ⟨j, rfl⟩ : ∃ j, k = j + 1 := ⟨k - 1, by omega⟩
            have c1 : wr.cell? ⟨g, j, none⟩ = some (.int .i64 (vis j)) := (cell_of_rowAt hgr _).trans (hgf j (by omega)).1
            have HP : chkPrev vis (j + 1) = vis j := rfl
            rw [HP] at HY HN p0 p1
            have pz : 0 ≤ vis j := by have := (chk_bd (v := v) (y := y) (z := z) (vis := vis) (j + 1) hF.out).2 (by omega); rw [HP] at this; exact this.1
            clear HP hgf hgr
            generalize vis (j + 1) = x at *
            generalize vis j = p at *
            generalize chkLast v vis (j + 1) = a at *
            by_cases hin : 0 ≤ x ∧ x ≤ z
            · have ey : IntKind.i64.wrap (x - a) = x - a := IntWalk.i64_in _ (by omega)
              by_cases hpx : x ≤ p
              · have HS := Lib.hid (HN.out (by omega))
                have hdp : decide (x ≤ p) = true := by simpa using hpx
                clear ey
                go_wp2_with fail
                go_quiet ((go_at_call 53; exact Calls.quiet_of_same (l00In_tq _ _ _ _ hin)))
                go_wp2_with fail
                go_ret2
                exact ⟨by first | (rw [HS.out]; done) | (rw [HS.out]; rfl), below_drewN hB _⟩
              · have hdp : decide (x ≤ p) = false := by simpa using hpx
                by_cases hl : y < x - a
                · have HS := Lib.hid (HN.out (by omega))
                  have hdl : decide (y < x - a) = true := by simpa using hl
                  go_wp2_with fail
                  go_quiet ((go_at_call 53; exact Calls.quiet_of_same (l00In_tq _ _ _ _ hin)))
                  go_wp2_with fail
                  go_ret2
                  exact ⟨by first | (rw [HS.out]; done) | (rw [HS.out]; rfl), below_drewN hB _⟩
                · have HS := Lib.hid (HY.out (by omega))
                  have hdl : decide (y < x - a) = false := by simpa using hl
                  go_wp2_with fail
                  go_quiet ((go_at_call 53; exact Calls.quiet_of_same (l00In_tq _ _ _ _ hin)))
                  go_wp2_with fail
                  refine ⟨⟨j + 1 + 1, by omega, by go_num, by rw [HL.out], Lib.hid (fun i hi => ?_), below_drewN hB _⟩, by simp [intOf]; omega⟩
                  by_cases ej : i < j + 1
                  · exact hF.out i ej
                  · obtain rfl : i = j + 1 := by omega
                    exact HS.out
            · have HS := Lib.hid (HN.out (by omega))
              go_wp2_with fail
              go_quiet ((go_at_call 53; exact Calls.quiet_of_same (l00In_fq _ _ _ _ hin)))
              go_wp2_with fail
              go_ret2
              exact ⟨by first | (rw [HS.out]; done) | (rw [HS.out]; rfl), below_drewN hB _⟩
        · obtain rfl : k = m := by omega
          have HE := Lib.hid (HEND.out hF.out)
          have ez : IntKind.i64.wrap (z - chkLast v vis k) = z - chkLast v vis k := IntWalk.i64_in _ (by omega)
          generalize chkLast v vis k = a at *
          clear ez
          go_wp2_with fail
          go_ret2
          exact ⟨by first | (rw [HE.out]; done) | (rw [HE.out]; rfl), hB⟩

  · obtain ⟨e1, e2⟩ := Rf.chk_age (vis := vis) (n := m) rfl hz
    have hzb : (r.ageC t (inB y 1 100 && inB z 0 200) == 0) = false := by simp [hz]
    have hzn : (r.ageC t (inB y 1 100 && inB z 0 200) != 0) = true := by simp [hz]
    rw [e1, e2]
    generalize r.ageC t (inB y 1 100 && inB z 0 200) = k at *
    clear e1 e2 hz
    cases h1 : inB y 1 100 with
    | true =>
      rw [h1] at CL CA
      rw [Bool.true_and] at CA
      clear h1
      generalize inB z 0 200 = fb at *
      go_enter Tryd.func17, Tryd.ntmps17
      go_wp2_with fail
      refine (CL _).mono ?_
      rintro e w1 ⟨rfl, rfl⟩
      go_wp2_with fail
      refine (CY _).mono ?_
      rintro e w1 ⟨rfl, rfl⟩
      go_wp2_with fail
      refine (CA _ p0 p1).mono ?_
      rintro e w1 ⟨rfl, b1⟩
      have r0 := brow b1 p0
      have r1 := brow b1 p1
      have B1 := bnext pB b1 pB.size
      clear b1 p0 p1 pB CA CL CY
      go_wp2_with fail
      go_ret2
      exact ⟨rfl, B1⟩

    | false =>
      rw [h1] at CL CA
      rw [Bool.false_and] at CA
      clear h1 CY
      go_enter Tryd.func17, Tryd.ntmps17
      go_wp2_with fail
      refine (CL _).mono ?_
      rintro e w1 ⟨rfl, rfl⟩
      go_wp2_with fail
      refine (CA _ p0 p1).mono ?_
      rintro e w1 ⟨rfl, b1⟩
      have r0 := brow b1 p0
      have r1 := brow b1 p1
      have B1 := bnext pB b1 pB.size
      clear b1 p0 p1 pB CA CL
      go_wp2_with fail
      go_ret2
      exact ⟨rfl, B1⟩

end Go.Proofs.YtcdddngdjhjdbaaDoor
