/- The check of lives; the visits: both sides. -/
import Derived.Test.YtcdddngdjhjdbaaDoorFstB
import Derived.Test.YtcdddngdjhjdbaaDoorAll
import Derived.Test.YtcdddngdjhjdbaaDoorIntsV
import Derived.Maps.AppendAt
import Derived.Deep.RegionHeld3
namespace Go.Proofs.YtcdddngdjhjdbaaDoor
open Go.RowKit

/-- The code of ages, life and years, where no tile may be too old now. -/
noncomputable def Rf.livC (r : Rf) (t : Nat → Int) (y z : Int) : Int := if r.ageC t (inB y 1 100 && inB z 0 200) = 0 then (if y < r.oldV t then 6 else 0) else r.ageC t (inB y 1 100 && inB z 0 200)

set_option maxRecDepth 100000 in
set_option maxHeartbeats 2000000 in
theorem checkLives_v (c d : Array Value) (r : Rf) (t : Nat → Int) (y z : Int) (w : World) (hR : IsRoof c r) (hA : IsU8 d 64 t) (ha : ¬ r.Aged t) :
    Calls Tryd.prog 48 #[.agg c, .agg d, .int .i64 y, .int .i64 z] w fun e w' => e = .returned (.iface 133 (.agg #[])) ∧ Below w.heap.size w w' := by
  obtain ⟨q0, q1, pB⟩ := two_boxes w c d 30 32
  have hc := hR.size
  have hd := hA.size
  have hnv := fun w => run_neq_iface_nil (P := Tryd.prog) (w := w) 83 (by kernel_rfl) 133 (.agg #[])
  have CV := fun W v => checkAges_v c d r t v W hR hA ha
  go_enter Tryd.func48, Tryd.ntmps48
  go_wp2_with fail
  refine gen_world fun W hW => ?_
  rw [← hW] at q0 q1 pB
  clear hW
  refine wp_region_held_drew (S := fun w' => Below W.heap.size W w') (by kernel_rfl) ((Below.refl _ _).drew) (fun hH => ?_)
  refine wpAnyH_take (i := 0) (v := .agg c) rfl (by kernel_rfl) (by kernel_rfl) (by kernel_rfl) (fun _ _ _ h => h) (Or.inl ⟨by rfl, ?_⟩) hH ?_
  · intro w1 hS; (try dsimp only at hS); have s0 := brow hS q0; go_simp
  (try simp only [List.getElem_toArray]); (try simp only [List.getElem_cons_succ]); (try simp only [List.getElem_cons_zero]); (try simp only [Act.put]); (try simp only [List.setIfInBounds_toArray]); (try simp only [List.set_cons_succ]); (try simp only [List.set_cons_zero])
  refine wpAnyH_take (i := 1) (v := .agg d) rfl (by kernel_rfl) (by kernel_rfl) (by kernel_rfl) (fun _ _ _ h => h) (Or.inl ⟨by rfl, ?_⟩) hH ?_
  · intro w1 hS; (try dsimp only at hS); have s1 := brow hS q1; go_simp
  (try simp only [List.getElem_toArray]); (try simp only [List.getElem_cons_succ]); (try simp only [List.getElem_cons_zero]); (try simp only [Act.put]); (try simp only [List.setIfInBounds_toArray]); (try simp only [List.set_cons_succ]); (try simp only [List.set_cons_zero])
  refine wpAnyH_take (i := 2) (v := .int .i64 y) rfl (by kernel_rfl) (by kernel_rfl) (by kernel_rfl) (fun _ _ _ h => h) (Or.inl ⟨by rfl, ?_⟩) hH ?_
  · intro w1 hS; (try dsimp only at hS); go_simp
  (try simp only [List.getElem_toArray]); (try simp only [List.getElem_cons_succ]); (try simp only [List.getElem_cons_zero]); (try simp only [Act.put]); (try simp only [List.setIfInBounds_toArray]); (try simp only [List.set_cons_succ]); (try simp only [List.set_cons_zero])
  refine wpAnyH_take (i := 4) (v := .int .i64 z) rfl (by kernel_rfl) (by kernel_rfl) (by kernel_rfl) (fun _ _ _ h => h) (Or.inl ⟨by rfl, ?_⟩) hH ?_
  · intro w1 hS; (try dsimp only at hS); go_simp
  (try simp only [List.getElem_toArray]); (try simp only [List.getElem_cons_succ]); (try simp only [List.getElem_cons_zero]); (try simp only [Act.put]); (try simp only [List.setIfInBounds_toArray]); (try simp only [List.set_cons_succ]); (try simp only [List.set_cons_zero])
  refine wpAnyH_ready (rs := [3]) (by kernel_rfl) (by simp) (AllReadyH.cons rfl (fun K hK => ?_) AllReadyH.nil)
  go_simp
  refine (lived_any y _).mono ?_
  rintro x wx ⟨rfl, bx⟩
  go_simp
  refine hK.out _ _ (bnext hH bx hH.size) (fun hG => ?_)
  clear hK K hH bx
  replace hH := hG
  clear hG
  (try simp only [List.getElem_toArray]); (try simp only [List.getElem_cons_succ]); (try simp only [List.getElem_cons_zero]); (try simp only [Act.put]); (try simp only [List.setIfInBounds_toArray]); (try simp only [List.set_cons_succ]); (try simp only [List.set_cons_zero])
  refine wpAnyH_ready (rs := [5]) (by kernel_rfl) (by simp) (AllReadyH.cons rfl (fun K hK => ?_) AllReadyH.nil)
  go_simp
  refine (gone_any z _).mono ?_
  rintro x wx ⟨rfl, bx⟩
  go_simp
  refine hK.out _ _ (bnext hH bx hH.size) (fun hG => ?_)
  clear hK K hH bx
  replace hH := hG
  clear hG
  (try simp only [List.getElem_toArray]); (try simp only [List.getElem_cons_succ]); (try simp only [List.getElem_cons_zero]); (try simp only [Act.put]); (try simp only [List.setIfInBounds_toArray]); (try simp only [List.set_cons_succ]); (try simp only [List.set_cons_zero])
  refine wpAnyH_ready (rs := [6]) (by kernel_rfl) (by simp) (AllReadyH.cons rfl (fun K hK => ?_) AllReadyH.nil)
  go_simp
  refine hK.out _ _ (hH.alloc hH.size _) (fun hG => ?_)
  clear hK K hH
  replace hH := hG
  clear hG
  (try simp only [List.getElem_toArray]); (try simp only [List.getElem_cons_succ]); (try simp only [List.getElem_cons_zero]); (try simp only [Act.put]); (try simp only [List.setIfInBounds_toArray]); (try simp only [List.set_cons_succ]); (try simp only [List.set_cons_zero])
  refine wpAnyH_ready (rs := [7]) (by kernel_rfl) (by simp) (AllReadyH.cons rfl (fun K hK => ?_) AllReadyH.nil)
  go_simp
  refine (CV _ _).mono ?_
  rintro x wx ⟨rfl, bx⟩
  go_simp
  refine hK.out _ _ (bnext hH bx hH.size) (fun hG => ?_)
  clear hK K hH bx
  replace hH := hG
  clear hG
  (try simp only [List.getElem_toArray]); (try simp only [List.getElem_cons_succ]); (try simp only [List.getElem_cons_zero]); (try simp only [Act.put]); (try simp only [List.setIfInBounds_toArray]); (try simp only [List.set_cons_succ]); (try simp only [List.set_cons_zero])
  refine wpAnyH_take (i := 8) (v := .iface 133 (.agg #[])) rfl (by kernel_rfl) (by kernel_rfl) (by kernel_rfl) (fun _ _ _ h => h) (Or.inl ⟨by rfl, ?_⟩) hH ?_
  · intro w1 hS; (try dsimp only at hS); go_simp
  (try simp only [List.getElem_toArray]); (try simp only [List.getElem_cons_succ]); (try simp only [List.getElem_cons_zero]); (try simp only [Act.put]); (try simp only [List.setIfInBounds_toArray]); (try simp only [List.set_cons_succ]); (try simp only [List.set_cons_zero])
  refine wpAnyH_done (by kernel_rfl) ?_ _
  have B1 := bnext pB hH pB.size
  clear hH q0 q1 pB CV
  go_wp2_with fail
  go_ret
  exact ⟨rfl, B1⟩
set_option maxRecDepth 100000 in
set_option maxHeartbeats 2000000 in
theorem checkLives_r (c d : Array Value) (r : Rf) (t : Nat → Int) (y z : Int) (w : World) (hR : IsRoof c r) (hA : IsU8 d 64 t) (ha : r.Aged t) (hf : (inB y 1 100 && inB z 0 200) = false) :
    Calls Tryd.prog 48 #[.agg c, .agg d, .int .i64 y, .int .i64 z] w fun e w' => e = .returned (.iface 134 (.agg #[])) ∧ Below w.heap.size w w' := by
  obtain ⟨q0, q1, pB⟩ := two_boxes w c d 30 32
  have hc := hR.size
  have hd := hA.size
  have hnr := fun w => run_neq_iface_nil (P := Tryd.prog) (w := w) 83 (by kernel_rfl) 134 (.agg #[])
  have hfine : fineB (bn6 y 1 100 z 0 200) 2 = false := by rw [fineB_bn6]; exact hf
  have CK := fun W v h0 => checkAges_r 0 2 c d r t v (bn6 y 1 100 z 0 200) W hR hA ha h0 (by omega) hfine
  clear hfine hf
  go_enter Tryd.func48, Tryd.ntmps48
  go_wp2_with fail
  refine gen_world fun W hW => ?_
  rw [← hW] at q0 q1 pB
  clear hW
  refine wp_region_held_drew (S := fun w' => Below W.heap.size W w') (by kernel_rfl) ((Below.refl _ _).drew) (fun hH => ?_)
  refine wpAnyH_take (i := 0) (v := .agg c) rfl (by kernel_rfl) (by kernel_rfl) (by kernel_rfl) (fun _ _ _ h => h) (Or.inl ⟨by rfl, ?_⟩) hH ?_
  · intro w1 hS; (try dsimp only at hS); have s0 := brow hS q0; go_simp
  (try simp only [List.getElem_toArray]); (try simp only [List.getElem_cons_succ]); (try simp only [List.getElem_cons_zero]); (try simp only [Act.put]); (try simp only [List.setIfInBounds_toArray]); (try simp only [List.set_cons_succ]); (try simp only [List.set_cons_zero])
  refine wpAnyH_take (i := 1) (v := .agg d) rfl (by kernel_rfl) (by kernel_rfl) (by kernel_rfl) (fun _ _ _ h => h) (Or.inl ⟨by rfl, ?_⟩) hH ?_
  · intro w1 hS; (try dsimp only at hS); have s1 := brow hS q1; go_simp
  (try simp only [List.getElem_toArray]); (try simp only [List.getElem_cons_succ]); (try simp only [List.getElem_cons_zero]); (try simp only [Act.put]); (try simp only [List.setIfInBounds_toArray]); (try simp only [List.set_cons_succ]); (try simp only [List.set_cons_zero])
  refine wpAnyH_take (i := 2) (v := .int .i64 y) rfl (by kernel_rfl) (by kernel_rfl) (by kernel_rfl) (fun _ _ _ h => h) (Or.inl ⟨by rfl, ?_⟩) hH ?_
  · intro w1 hS; (try dsimp only at hS); go_simp
  (try simp only [List.getElem_toArray]); (try simp only [List.getElem_cons_succ]); (try simp only [List.getElem_cons_zero]); (try simp only [Act.put]); (try simp only [List.setIfInBounds_toArray]); (try simp only [List.set_cons_succ]); (try simp only [List.set_cons_zero])
  refine wpAnyH_take (i := 4) (v := .int .i64 z) rfl (by kernel_rfl) (by kernel_rfl) (by kernel_rfl) (fun _ _ _ h => h) (Or.inl ⟨by rfl, ?_⟩) hH ?_
  · intro w1 hS; (try dsimp only at hS); go_simp
  (try simp only [List.getElem_toArray]); (try simp only [List.getElem_cons_succ]); (try simp only [List.getElem_cons_zero]); (try simp only [Act.put]); (try simp only [List.setIfInBounds_toArray]); (try simp only [List.set_cons_succ]); (try simp only [List.set_cons_zero])
  refine wpAnyH_ready (rs := [3]) (by kernel_rfl) (by simp) (AllReadyH.cons rfl (fun K hK => ?_) AllReadyH.nil)
  go_simp
  refine (lived_any y _).mono ?_
  rintro x wx ⟨rfl, bx⟩
  go_simp
  refine hK.out _ _ (bnext hH bx hH.size) (fun hG => ?_)
  clear hK K hH bx
  replace hH := hG
  clear hG
  (try simp only [List.getElem_toArray]); (try simp only [List.getElem_cons_succ]); (try simp only [List.getElem_cons_zero]); (try simp only [Act.put]); (try simp only [List.setIfInBounds_toArray]); (try simp only [List.set_cons_succ]); (try simp only [List.set_cons_zero])
  refine wpAnyH_ready (rs := [5]) (by kernel_rfl) (by simp) (AllReadyH.cons rfl (fun K hK => ?_) AllReadyH.nil)
  go_simp
  refine (gone_any z _).mono ?_
  rintro x wx ⟨rfl, bx⟩
  go_simp
  refine hK.out _ _ (bnext hH bx hH.size) (fun hG => ?_)
  clear hK K hH bx
  replace hH := hG
  clear hG
  (try simp only [List.getElem_toArray]); (try simp only [List.getElem_cons_succ]); (try simp only [List.getElem_cons_zero]); (try simp only [Act.put]); (try simp only [List.setIfInBounds_toArray]); (try simp only [List.set_cons_succ]); (try simp only [List.set_cons_zero])
  refine wpAnyH_ready (rs := [6]) (by kernel_rfl) (by simp) (AllReadyH.cons rfl (fun K hK => ?_) AllReadyH.nil)
  go_simp
  refine hK.out _ _ (hH.alloc hH.size _) (fun hG => ?_)
  clear hK K hH
  replace hH := hG
  clear hG
  (try simp only [List.getElem_toArray]); (try simp only [List.getElem_cons_succ]); (try simp only [List.getElem_cons_zero]); (try simp only [Act.put]); (try simp only [List.setIfInBounds_toArray]); (try simp only [List.set_cons_succ]); (try simp only [List.set_cons_zero])
  refine wpAnyH_ready (rs := [7]) (by kernel_rfl) (by simp) (AllReadyH.cons rfl (fun K hK => ?_) AllReadyH.nil)
  go_simp
  refine (CK _ _ (IsList.li6 (rowAt_alloc_at _ _ _ _ rfl) (Nat.zero_le _))).mono ?_
  rintro x wx ⟨rfl, bx⟩
  go_simp
  refine hK.out _ _ (bnext hH bx hH.size) (fun hG => ?_)
  clear hK K hH bx
  replace hH := hG
  clear hG
  (try simp only [List.getElem_toArray]); (try simp only [List.getElem_cons_succ]); (try simp only [List.getElem_cons_zero]); (try simp only [Act.put]); (try simp only [List.setIfInBounds_toArray]); (try simp only [List.set_cons_succ]); (try simp only [List.set_cons_zero])
  refine wpAnyH_take (i := 8) (v := .iface 134 (.agg #[])) rfl (by kernel_rfl) (by kernel_rfl) (by kernel_rfl) (fun _ _ _ h => h) (Or.inl ⟨by rfl, ?_⟩) hH ?_
  · intro w1 hS; (try dsimp only at hS); go_simp
  (try simp only [List.getElem_toArray]); (try simp only [List.getElem_cons_succ]); (try simp only [List.getElem_cons_zero]); (try simp only [Act.put]); (try simp only [List.setIfInBounds_toArray]); (try simp only [List.set_cons_succ]); (try simp only [List.set_cons_zero])
  refine wpAnyH_done (by kernel_rfl) ?_ _
  have B1 := bnext pB hH pB.size
  clear hH q0 q1 pB CK
  go_wp2_with fail
  go_ret
  exact ⟨rfl, B1⟩
set_option maxRecDepth 100000 in
set_option maxHeartbeats 2000000 in
theorem checkLives_t (c d : Array Value) (r : Rf) (t : Nat → Int) (y z : Int) (w : World) (hR : IsRoof c r) (hA : IsU8 d 64 t) (ha : r.Aged t) (hf : (inB y 1 100 && inB z 0 200) = true) (ho : y < r.oldV t) :
    Calls Tryd.prog 48 #[.agg c, .agg d, .int .i64 y, .int .i64 z] w fun e w' => e = .returned (.iface 132 (.agg #[])) ∧ Below w.heap.size w w' := by
  obtain ⟨q0, q1, pB⟩ := two_boxes w c d 30 32
  have hc := hR.size
  have hd := hA.size
  have hn0 := fun w => run_neq_nil_nil_at (P := Tryd.prog) (w := w) 83 (by kernel_rfl)
  have hfine : fineB (bn6 y 1 100 z 0 200) 2 = true := by rw [fineB_bn6]; exact hf
  have CK := fun W v h0 => checkAges_ok 0 2 c d r t v (bn6 y 1 100 z 0 200) W hR hA ha h0 (by omega) hfine
  have CO := fun W => oldest_ok c d r t W hR hA ha.1
  have hod : decide (y < r.oldV t) = true := by simp [ho]
  generalize r.oldV t = v at *
  generalize (r.oldAt t).1 = p1 at *
  generalize (r.oldAt t).2 = p2 at *
  clear hfine hf ho
  go_enter Tryd.func48, Tryd.ntmps48
  go_wp2_with fail
  refine gen_world fun W hW => ?_
  rw [← hW] at q0 q1 pB
  clear hW
  refine wp_region_held_drew (S := fun w' => Below W.heap.size W w') (by kernel_rfl) ((Below.refl _ _).drew) (fun hH => ?_)
  refine wpAnyH_take (i := 0) (v := .agg c) rfl (by kernel_rfl) (by kernel_rfl) (by kernel_rfl) (fun _ _ _ h => h) (Or.inl ⟨by rfl, ?_⟩) hH ?_
  · intro w1 hS; (try dsimp only at hS); have s0 := brow hS q0; go_simp
  (try simp only [List.getElem_toArray]); (try simp only [List.getElem_cons_succ]); (try simp only [List.getElem_cons_zero]); (try simp only [Act.put]); (try simp only [List.setIfInBounds_toArray]); (try simp only [List.set_cons_succ]); (try simp only [List.set_cons_zero])
  refine wpAnyH_take (i := 1) (v := .agg d) rfl (by kernel_rfl) (by kernel_rfl) (by kernel_rfl) (fun _ _ _ h => h) (Or.inl ⟨by rfl, ?_⟩) hH ?_
  · intro w1 hS; (try dsimp only at hS); have s1 := brow hS q1; go_simp
  (try simp only [List.getElem_toArray]); (try simp only [List.getElem_cons_succ]); (try simp only [List.getElem_cons_zero]); (try simp only [Act.put]); (try simp only [List.setIfInBounds_toArray]); (try simp only [List.set_cons_succ]); (try simp only [List.set_cons_zero])
  refine wpAnyH_take (i := 2) (v := .int .i64 y) rfl (by kernel_rfl) (by kernel_rfl) (by kernel_rfl) (fun _ _ _ h => h) (Or.inl ⟨by rfl, ?_⟩) hH ?_
  · intro w1 hS; (try dsimp only at hS); go_simp
  (try simp only [List.getElem_toArray]); (try simp only [List.getElem_cons_succ]); (try simp only [List.getElem_cons_zero]); (try simp only [Act.put]); (try simp only [List.setIfInBounds_toArray]); (try simp only [List.set_cons_succ]); (try simp only [List.set_cons_zero])
  refine wpAnyH_take (i := 4) (v := .int .i64 z) rfl (by kernel_rfl) (by kernel_rfl) (by kernel_rfl) (fun _ _ _ h => h) (Or.inl ⟨by rfl, ?_⟩) hH ?_
  · intro w1 hS; (try dsimp only at hS); go_simp
  (try simp only [List.getElem_toArray]); (try simp only [List.getElem_cons_succ]); (try simp only [List.getElem_cons_zero]); (try simp only [Act.put]); (try simp only [List.setIfInBounds_toArray]); (try simp only [List.set_cons_succ]); (try simp only [List.set_cons_zero])
  refine wpAnyH_ready (rs := [3]) (by kernel_rfl) (by simp) (AllReadyH.cons rfl (fun K hK => ?_) AllReadyH.nil)
  go_simp
  refine (lived_any y _).mono ?_
  rintro x wx ⟨rfl, bx⟩
  go_simp
  refine hK.out _ _ (bnext hH bx hH.size) (fun hG => ?_)
  clear hK K hH bx
  replace hH := hG
  clear hG
  (try simp only [List.getElem_toArray]); (try simp only [List.getElem_cons_succ]); (try simp only [List.getElem_cons_zero]); (try simp only [Act.put]); (try simp only [List.setIfInBounds_toArray]); (try simp only [List.set_cons_succ]); (try simp only [List.set_cons_zero])
  refine wpAnyH_ready (rs := [5]) (by kernel_rfl) (by simp) (AllReadyH.cons rfl (fun K hK => ?_) AllReadyH.nil)
  go_simp
  refine (gone_any z _).mono ?_
  rintro x wx ⟨rfl, bx⟩
  go_simp
  refine hK.out _ _ (bnext hH bx hH.size) (fun hG => ?_)
  clear hK K hH bx
  replace hH := hG
  clear hG
  (try simp only [List.getElem_toArray]); (try simp only [List.getElem_cons_succ]); (try simp only [List.getElem_cons_zero]); (try simp only [Act.put]); (try simp only [List.setIfInBounds_toArray]); (try simp only [List.set_cons_succ]); (try simp only [List.set_cons_zero])
  refine wpAnyH_ready (rs := [6]) (by kernel_rfl) (by simp) (AllReadyH.cons rfl (fun K hK => ?_) AllReadyH.nil)
  go_simp
  refine hK.out _ _ (hH.alloc hH.size _) (fun hG => ?_)
  clear hK K hH
  replace hH := hG
  clear hG
  (try simp only [List.getElem_toArray]); (try simp only [List.getElem_cons_succ]); (try simp only [List.getElem_cons_zero]); (try simp only [Act.put]); (try simp only [List.setIfInBounds_toArray]); (try simp only [List.set_cons_succ]); (try simp only [List.set_cons_zero])
  refine wpAnyH_ready (rs := [7]) (by kernel_rfl) (by simp) (AllReadyH.cons rfl (fun K hK => ?_) AllReadyH.nil)
  go_simp
  refine (CK _ _ (IsList.li6 (rowAt_alloc_at _ _ _ _ rfl) (Nat.zero_le _))).mono ?_
  rintro x wx ⟨rfl, bx⟩
  go_simp
  refine hK.out _ _ (bnext hH bx hH.size) (fun hG => ?_)
  clear hK K hH bx
  replace hH := hG
  clear hG
  (try simp only [List.getElem_toArray]); (try simp only [List.getElem_cons_succ]); (try simp only [List.getElem_cons_zero]); (try simp only [Act.put]); (try simp only [List.setIfInBounds_toArray]); (try simp only [List.set_cons_succ]); (try simp only [List.set_cons_zero])
  refine wpAnyH_take (i := 8) (v := .nilIface) rfl (by kernel_rfl) (by kernel_rfl) (by kernel_rfl) (fun _ _ _ h => h) (Or.inl ⟨by rfl, ?_⟩) hH ?_
  · intro w1 hS; (try dsimp only at hS); go_simp
  (try simp only [List.getElem_toArray]); (try simp only [List.getElem_cons_succ]); (try simp only [List.getElem_cons_zero]); (try simp only [Act.put]); (try simp only [List.setIfInBounds_toArray]); (try simp only [List.set_cons_succ]); (try simp only [List.set_cons_zero])
  refine wpAnyH_done (by kernel_rfl) ?_ _
  have B1 := bnext pB hH pB.size
  have p0 := brow hH q0
  have p1 := brow hH q1
  clear hH q0 q1 pB CK
  go_wp2_with fail
  refine (CO _).mono ?_
  rintro e w1 ⟨rfl, b1⟩
  have B2 := bnext B1 b1 B1.size
  clear b1 B1 p0 p1 CO
  go_wp2_with fail
  go_ret
  exact ⟨rfl, B2.alloc B2.size _⟩
set_option maxRecDepth 100000 in
set_option maxHeartbeats 2000000 in
theorem checkLives_ok (c d : Array Value) (r : Rf) (t : Nat → Int) (y z : Int) (w : World) (hR : IsRoof c r) (hA : IsU8 d 64 t) (ha : r.Aged t) (hf : (inB y 1 100 && inB z 0 200) = true) (ho : ¬ y < r.oldV t) :
    Calls Tryd.prog 48 #[.agg c, .agg d, .int .i64 y, .int .i64 z] w fun e w' => e = .returned .nilIface ∧ Below w.heap.size w w' := by
  obtain ⟨q0, q1, pB⟩ := two_boxes w c d 30 32
  have hc := hR.size
  have hd := hA.size
  have hn0 := fun w => run_neq_nil_nil_at (P := Tryd.prog) (w := w) 83 (by kernel_rfl)
  have hfine : fineB (bn6 y 1 100 z 0 200) 2 = true := by rw [fineB_bn6]; exact hf
  have CK := fun W v h0 => checkAges_ok 0 2 c d r t v (bn6 y 1 100 z 0 200) W hR hA ha h0 (by omega) hfine
  have CO := fun W => oldest_ok c d r t W hR hA ha.1
  have hod : decide (y < r.oldV t) = false := by simp; omega
  generalize r.oldV t = v at *
  generalize (r.oldAt t).1 = p1 at *
  generalize (r.oldAt t).2 = p2 at *
  clear hfine hf ho
  go_enter Tryd.func48, Tryd.ntmps48
  go_wp2_with fail
  refine gen_world fun W hW => ?_
  rw [← hW] at q0 q1 pB
  clear hW
  refine wp_region_held_drew (S := fun w' => Below W.heap.size W w') (by kernel_rfl) ((Below.refl _ _).drew) (fun hH => ?_)
  refine wpAnyH_take (i := 0) (v := .agg c) rfl (by kernel_rfl) (by kernel_rfl) (by kernel_rfl) (fun _ _ _ h => h) (Or.inl ⟨by rfl, ?_⟩) hH ?_
  · intro w1 hS; (try dsimp only at hS); have s0 := brow hS q0; go_simp
  (try simp only [List.getElem_toArray]); (try simp only [List.getElem_cons_succ]); (try simp only [List.getElem_cons_zero]); (try simp only [Act.put]); (try simp only [List.setIfInBounds_toArray]); (try simp only [List.set_cons_succ]); (try simp only [List.set_cons_zero])
  refine wpAnyH_take (i := 1) (v := .agg d) rfl (by kernel_rfl) (by kernel_rfl) (by kernel_rfl) (fun _ _ _ h => h) (Or.inl ⟨by rfl, ?_⟩) hH ?_
  · intro w1 hS; (try dsimp only at hS); have s1 := brow hS q1; go_simp
  (try simp only [List.getElem_toArray]); (try simp only [List.getElem_cons_succ]); (try simp only [List.getElem_cons_zero]); (try simp only [Act.put]); (try simp only [List.setIfInBounds_toArray]); (try simp only [List.set_cons_succ]); (try simp only [List.set_cons_zero])
  refine wpAnyH_take (i := 2) (v := .int .i64 y) rfl (by kernel_rfl) (by kernel_rfl) (by kernel_rfl) (fun _ _ _ h => h) (Or.inl ⟨by rfl, ?_⟩) hH ?_
  · intro w1 hS; (try dsimp only at hS); go_simp
  (try simp only [List.getElem_toArray]); (try simp only [List.getElem_cons_succ]); (try simp only [List.getElem_cons_zero]); (try simp only [Act.put]); (try simp only [List.setIfInBounds_toArray]); (try simp only [List.set_cons_succ]); (try simp only [List.set_cons_zero])
  refine wpAnyH_take (i := 4) (v := .int .i64 z) rfl (by kernel_rfl) (by kernel_rfl) (by kernel_rfl) (fun _ _ _ h => h) (Or.inl ⟨by rfl, ?_⟩) hH ?_
  · intro w1 hS; (try dsimp only at hS); go_simp
  (try simp only [List.getElem_toArray]); (try simp only [List.getElem_cons_succ]); (try simp only [List.getElem_cons_zero]); (try simp only [Act.put]); (try simp only [List.setIfInBounds_toArray]); (try simp only [List.set_cons_succ]); (try simp only [List.set_cons_zero])
  refine wpAnyH_ready (rs := [3]) (by kernel_rfl) (by simp) (AllReadyH.cons rfl (fun K hK => ?_) AllReadyH.nil)
  go_simp
  refine (lived_any y _).mono ?_
  rintro x wx ⟨rfl, bx⟩
  go_simp
  refine hK.out _ _ (bnext hH bx hH.size) (fun hG => ?_)
  clear hK K hH bx
  replace hH := hG
  clear hG
  (try simp only [List.getElem_toArray]); (try simp only [List.getElem_cons_succ]); (try simp only [List.getElem_cons_zero]); (try simp only [Act.put]); (try simp only [List.setIfInBounds_toArray]); (try simp only [List.set_cons_succ]); (try simp only [List.set_cons_zero])
  refine wpAnyH_ready (rs := [5]) (by kernel_rfl) (by simp) (AllReadyH.cons rfl (fun K hK => ?_) AllReadyH.nil)
  go_simp
  refine (gone_any z _).mono ?_
  rintro x wx ⟨rfl, bx⟩
  go_simp
  refine hK.out _ _ (bnext hH bx hH.size) (fun hG => ?_)
  clear hK K hH bx
  replace hH := hG
  clear hG
  (try simp only [List.getElem_toArray]); (try simp only [List.getElem_cons_succ]); (try simp only [List.getElem_cons_zero]); (try simp only [Act.put]); (try simp only [List.setIfInBounds_toArray]); (try simp only [List.set_cons_succ]); (try simp only [List.set_cons_zero])
  refine wpAnyH_ready (rs := [6]) (by kernel_rfl) (by simp) (AllReadyH.cons rfl (fun K hK => ?_) AllReadyH.nil)
  go_simp
  refine hK.out _ _ (hH.alloc hH.size _) (fun hG => ?_)
  clear hK K hH
  replace hH := hG
  clear hG
  (try simp only [List.getElem_toArray]); (try simp only [List.getElem_cons_succ]); (try simp only [List.getElem_cons_zero]); (try simp only [Act.put]); (try simp only [List.setIfInBounds_toArray]); (try simp only [List.set_cons_succ]); (try simp only [List.set_cons_zero])
  refine wpAnyH_ready (rs := [7]) (by kernel_rfl) (by simp) (AllReadyH.cons rfl (fun K hK => ?_) AllReadyH.nil)
  go_simp
  refine (CK _ _ (IsList.li6 (rowAt_alloc_at _ _ _ _ rfl) (Nat.zero_le _))).mono ?_
  rintro x wx ⟨rfl, bx⟩
  go_simp
  refine hK.out _ _ (bnext hH bx hH.size) (fun hG => ?_)
  clear hK K hH bx
  replace hH := hG
  clear hG
  (try simp only [List.getElem_toArray]); (try simp only [List.getElem_cons_succ]); (try simp only [List.getElem_cons_zero]); (try simp only [Act.put]); (try simp only [List.setIfInBounds_toArray]); (try simp only [List.set_cons_succ]); (try simp only [List.set_cons_zero])
  refine wpAnyH_take (i := 8) (v := .nilIface) rfl (by kernel_rfl) (by kernel_rfl) (by kernel_rfl) (fun _ _ _ h => h) (Or.inl ⟨by rfl, ?_⟩) hH ?_
  · intro w1 hS; (try dsimp only at hS); go_simp
  (try simp only [List.getElem_toArray]); (try simp only [List.getElem_cons_succ]); (try simp only [List.getElem_cons_zero]); (try simp only [Act.put]); (try simp only [List.setIfInBounds_toArray]); (try simp only [List.set_cons_succ]); (try simp only [List.set_cons_zero])
  refine wpAnyH_done (by kernel_rfl) ?_ _
  have B1 := bnext pB hH pB.size
  have p0 := brow hH q0
  have p1 := brow hH q1
  clear hH q0 q1 pB CK
  go_wp2_with fail
  refine (CO _).mono ?_
  rintro e w1 ⟨rfl, b1⟩
  have B2 := bnext B1 b1 B1.size
  clear b1 B1 p0 p1 CO
  go_wp2_with fail
  go_ret
  exact ⟨rfl, B2.alloc B2.size _⟩

/-- The k-th visit. -/
def visA (v y : Int) (k : Nat) : Int := y - v + (k : Int) * y
theorem visA_zero (v y : Int) : visA v y 0 = y - v := by simp [visA]
theorem visA_succ (v y : Int) (k : Nat) : visA v y (k + 1) = visA v y k + y := by
  unfold visA; rw [Int.natCast_add, Int.add_mul]; simp; omega
theorem visA_ge {v y : Int} (h0 : v ≤ y) (h1 : 1 ≤ y) : ∀ k : Nat, (k : Int) ≤ visA v y k
  | 0 => by rw [visA_zero]; simp; omega
  | k + 1 => by have := visA_ge h0 h1 k; rw [visA_succ]; omega
/-- How many visits there are. -/
def VisN (v y z : Int) (n : Nat) : Prop := (∀ k, k < n → visA v y k < z) ∧ ¬ visA v y n < z
theorem VisN.one {v y z : Int} {n m : Nat} (h : VisN v y z n) (g : VisN v y z m) : n = m := by
  rcases Nat.lt_trichotomy n m with e | e | e
  · exact absurd (g.1 n e) h.2
  · exact e
  · exact absurd (h.1 m e) g.2
open Classical in
noncomputable def visN (v y z : Int) : Nat := if h : ∃ n, VisN v y z n then h.choose else 0
theorem visN_eq {v y z : Int} {n : Nat} (h : VisN v y z n) : visN v y z = n := by
  unfold visN
  rw [dif_pos ⟨n, h⟩]
  exact (Exists.choose_spec (⟨n, h⟩ : ∃ n, VisN v y z n)).one h

set_option maxRecDepth 100000 in
set_option maxHeartbeats 2000000 in
theorem visitsFor_any (c d : Array Value) (r : Rf) (t : Nat → Int) (y z : Int) (w : World) (hR : IsRoof c r) (hA : IsU8 d 64 t) (ha : r.Aged t) (hy : 1 ≤ y ∧ y ≤ 100) (hz : 0 ≤ z ∧ z ≤ 200) (ho : ¬ y < r.oldV t) :
    Calls Tryd.prog 51 #[.agg c, .agg d, .int .i64 y, .int .i64 z] w fun e w' => ∃ v, e = .returned v ∧ (IsList w' w.heap.size v 1 (visN (r.oldV t) y z) (fun i => .int .i64 (visA (r.oldV t) y i)) ∧ visN (r.oldV t) y z ≤ 200) ∧ Below w.heap.size w w' := by
  obtain ⟨p0, p1, pB⟩ := two_boxes w c d 30 32
  have hc := hR.size
  have hd := hA.size
  obtain ⟨i0, hi0, hz0, hz1, hz2⟩ := info_parts A_infoIw
  have CO := fun W => oldest_ok c d r t W hR hA ha.1
  have vb := Rf.oldV_bd ha hA.lo
  obtain ⟨v, hov⟩ : ∃ v, r.oldV t = v := ⟨_, rfl⟩
  rw [hov] at vb ho ⊢
  simp only [hov] at CO
  clear hov
  generalize (r.oldAt t).1 = a1 at *
  generalize (r.oldAt t).2 = a2 at *
  have hge := Lib.hid (visA_ge (v := v) (y := y) (by omega) hy.1)
  have hsu := Lib.hid (visA_succ v y)
  have hze := Lib.hid (visA_zero v y)
  go_enter Tryd.func51, Tryd.ntmps51
  go_wp2_with fail
  refine (CO _).mono ?_
  rintro e w1 ⟨rfl, b1⟩
  have B1 := bnext pB b1 pB.size
  clear b1 p0 p1 pB CO
  go_wp2_with fail
  refine gen_world fun W hW => ?_
  have B2 : Below w.heap.size w W := by rw [hW]; go_simp; exact B1.alloc B1.size _
  clear hW B1
  go_loopw [11, 12] (fun u i W' => ∃ (n : Nat) (b : Int), n ≤ 200 ∧ i = .int .i64 b ∧ Hid (b = visA v y n) ∧ (0 ≤ b ∧ b ≤ 300) ∧ Hid (∀ k, k < n → visA v y k < z) ∧ W'.ownsRow w.heap.size 2 1 u n (intsV (visA v y) n) ∧ Below w.heap.size w W') (fun _ i _ => (z - intOf i).toNat)
  case atStart => exact ⟨0, y - v, by omega, rfl, Lib.hid hze.out.symm, by omega, Lib.hid (by omega), World.ownsRow_nil _ _ _ _, B2⟩
  case round =>
    clear B2
    obtain ⟨n, b, hn, rfl, hb, hb0, hF, hv, hB⟩ := hrel
    by_cases hlt : b < z
    · have hdl : decide (b < z) = true := by simp [hlt]
      have hg : (n : Int) ≤ b := by rw [hb.out]; exact hge.out n
      obtain ⟨wo, hwo⟩ : ∃ wo : World, wo = wr := ⟨_, rfl⟩
      rw [← hwo] at hv hB ⊢
      clear hwo
      go_wp2_with (at_builtin; refine Go.wpList_append_own_at _ rfl _ _ 27 rfl w.heap.size 2 i0 (.int .i64 0) 1 8 Tryd.underlying27 hi0 hz0 hz1 hz2 rfl (by decide) _ _ _ rfl (hv.alloc _) ⟨wo.heap.size, 0, none⟩ 1 1 [.int .i64 b] rfl rfl (cell_one_new _ _ _) (by simp [Value.oneCell']) (by unfold maxLen; omega) (by omega) (by have := hB.size; simp; omega) ?_; intro v3 w3 own3 grow3 _ _)
      have B3 := (hB.alloc hB.size _).grown grow3 (by have := hB.size; simp; omega) (owns_base hv)
      rw [show (.int .i64 b : Value) = .int .i64 (visA v y n) by rw [hb.out], intsV_succ] at own3
      clear grow3 hv hB
      go_wp2_with fail
      refine ⟨⟨n + 1, b + y, by omega, by go_num, Lib.hid (by rw [hsu.out, hb.out]), by omega, Lib.hid (fun k hk => ?_), own3, B3⟩, by simp [intOf]; omega⟩
      by_cases hkn : k < n
      · exact hF.out k hkn
      · obtain rfl : k = n := by omega
        rw [← hb.out]; exact hlt
    · have hdl : decide (b < z) = false := by simp; omega
      have hN := Lib.hid (show visN v y z = n from visN_eq ⟨hF.out, by rw [← hb.out]; exact hlt⟩)
      have hl := IsList.of_intsV hv
      clear hv
      go_wp2_with fail
      go_ret
      rw [hN.out]
      exact ⟨_, rfl, ⟨hl, hn⟩, hB⟩

set_option maxRecDepth 100000 in
set_option maxHeartbeats 2000000 in
theorem l07Visits_ok (k0 n0 : Nat) (c d : Array Value) (r : Rf) (t : Nat → Int) (y z : Int) (w : World) (hr : rowAt w k0 = some c) (hR : IsRoof c r) (hd : rowAt w n0 = some d) (hA : IsU8 d 64 t) (ha : r.Aged t) (hy : 1 ≤ y ∧ y ≤ 100) (hz : 0 ≤ z ∧ z ≤ 200) (ho : ¬ y < r.oldV t) :
    Calls Tryd.prog 43 #[.pointer (some ⟨k0, 0, none⟩), .pointer (some ⟨n0, 0, none⟩), .int .i64 y, .int .i64 z] w fun e w' => ∃ v, e = .returned (.tuple #[v, .bool true]) ∧ IsList w' w.heap.size v 1 (visN (r.oldV t) y z) (fun i => .int .i64 (visA (r.oldV t) y i)) ∧ Below w.heap.size w w' := by
  obtain ⟨i0, hi0, hz0, hz1, hz2⟩ := info_parts A_infoIw
  have hB0 : Below w.heap.size w (w.alloc (.cells #[] 2)) := (Below.refl _ _).alloc (Nat.le_refl _) _
  have r0 := brow hB0 hr
  have r1 := brow hB0 hd
  have ow := owns_empty w 2 1
  have CO := fun W h0 h1 => l07Oldest_ok k0 n0 c d r t W h0 hR h1 hA ha.1
  have vb := Rf.oldV_bd ha hA.lo
  have hod : decide (y < r.oldV t) = false := by simp; omega
  obtain ⟨v, hov⟩ : ∃ v, r.oldV t = v := ⟨_, rfl⟩
  rw [hov] at vb ho hod ⊢
  simp only [hov] at CO
  clear hov
  generalize (r.oldAt t).1 = a1 at *
  generalize (r.oldAt t).2 = a2 at *
  have hge := Lib.hid (visA_ge (v := v) (y := y) (by omega) hy.1)
  have hsu := Lib.hid (visA_succ v y)
  have hze := Lib.hid (visA_zero v y)
  go_enter Tryd.func43, Tryd.ntmps43
  go_wp2_with fail
  refine (CO _ r0 r1).mono ?_
  rintro e w1 ⟨rfl, b1⟩
  have B1 := bnext hB0 b1 hB0.size
  have ow1 := owns_below ow b1
  clear b1 r0 r1 hB0 ow CO hr hd
  go_wp2_with fail
  refine gen_world fun W hW => ?_
  have B2 : Below w.heap.size w W := by rw [hW]; go_simp; exact B1.alloc B1.size _
  have ow2 : W.ownsRow w.heap.size 2 1 (.slice (some ⟨w.heap.size, 0, none⟩) 0 0) 0 [] := by rw [hW]; go_simp; exact ow1.alloc _
  clear hW B1 ow1
  go_loopw [10, 13] (fun u i W' => ∃ (n : Nat) (b : Int), n ≤ 200 ∧ i = .int .i64 b ∧ Hid (b + y = visA v y n) ∧ (-100 ≤ b ∧ b ≤ 300) ∧ Hid (∀ k, k < n → visA v y k < z) ∧ W'.ownsRow w.heap.size 2 1 u n (intsV (visA v y) n) ∧ Below w.heap.size w W') (fun _ i _ => (z - intOf i).toNat)
  case atStart => exact ⟨0, -v, by omega, rfl, Lib.hid (by rw [hze.out]; omega), by omega, Lib.hid (by omega), ow2, B2⟩
  case round =>
    clear B2 ow2
    obtain ⟨n, b, hn, rfl, hb, hb0, hF, hv, hB⟩ := hrel
    by_cases hlt : b + y < z
    · have hdl : decide (y < z - b) = true := by simp; omega
      have hg : (n : Int) ≤ b + y := by rw [hb.out]; exact hge.out n
      obtain ⟨wo, hwo⟩ : ∃ wo : World, wo = wr := ⟨_, rfl⟩
      rw [← hwo] at hv hB ⊢
      clear hwo
      go_wp2_with (at_builtin; refine Go.wpList_append_own_at _ rfl _ _ 27 rfl w.heap.size 2 i0 (.int .i64 0) 1 8 Tryd.underlying27 hi0 hz0 hz1 hz2 rfl (by decide) _ _ _ rfl (hv.alloc _) ⟨wo.heap.size, 0, none⟩ 1 1 [.int .i64 (b + y)] rfl rfl (cell_one_new _ _ _) (by simp [Value.oneCell']) (by unfold maxLen; omega) (by omega) (by have := hB.size; simp; omega) ?_; intro v3 w3 own3 grow3 _ _)
      have B3 := (hB.alloc hB.size _).grown grow3 (by have := hB.size; simp; omega) (owns_base hv)
      rw [show (.int .i64 (b + y) : Value) = .int .i64 (visA v y n) by rw [hb.out], intsV_succ] at own3
      clear grow3 hv hB
      go_wp2_with fail
      refine ⟨⟨n + 1, b + y, by omega, by go_num, Lib.hid (by rw [hsu.out, hb.out]), by omega, Lib.hid (fun k hk => ?_), own3, B3⟩, by simp [intOf]; omega⟩
      by_cases hkn : k < n
      · exact hF.out k hkn
      · obtain rfl : k = n := by omega
        rw [← hb.out]; exact hlt
    · have hdl : decide (y < z - b) = false := by simp; omega
      have hN := Lib.hid (show visN v y z = n from visN_eq ⟨hF.out, by rw [← hb.out]; exact hlt⟩)
      have hl := IsList.of_intsV hv
      clear hv
      go_wp2_with fail
      go_ret2
      rw [hN.out]
      exact ⟨_, rfl, hl, hB⟩
end Go.Proofs.YtcdddngdjhjdbaaDoor
