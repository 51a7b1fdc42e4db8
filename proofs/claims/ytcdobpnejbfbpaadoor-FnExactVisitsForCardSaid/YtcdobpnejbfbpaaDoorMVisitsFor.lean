import Derived.Test.YtcdobpnejbfbpaaDoorFstB
import Derived.Test.YtcdobpnejbfbpaaDoorAll
import Derived.Maps.AppendAt
import Derived.Deep.RegionHeld3
import Derived.Test.YtcdobpnejbfbpaaDoorCells
import Derived.Test.YtcdobpnejbfbpaaDoorCards
import Derived.Test.YtcdobpnejbfbpaaDoorTie
import Derived.Test.YtcdobpnejbfbpaaDoorLaidN
import Derived.Test.YtcdobpnejbfbpaaDoorLaidA
import Derived.Test.YtcdobpnejbfbpaaDoorAge
import Derived.Test.YtcdobpnejbfbpaaDoorRainV
import Derived.Test.YtcdobpnejbfbpaaDoorRHeld

/- The check of lives; the visits: both sides. -/
namespace Go.Proofs.YtcdobpnejbfbpaaDoor
open Go.RowKit

def intsV (f : Nat → Int) (n : Nat) : List Value := (List.range n).map fun i => .int .i64 (f i)
theorem intsV_succ (f : Nat → Int) (n : Nat) : intsV f n ++ [.int .i64 (f n)] = intsV f (n + 1) := by simp [intsV, List.range_succ]
theorem IsList.of_intsV {w : World} {base n : Nat} {e : TypeId} {v : Value} {f : Nat → Int} (h : w.ownsRow base e 1 v n (intsV f n)) : IsList w base v 1 n fun i => .int .i64 (f i) := by
  obtain ⟨hl, h | ⟨g, cap, cur, rfl, hg, hh, hn, hm, hs, ht⟩⟩ := h
  · exact .inl ⟨h.2, none, 0, by rw [h.1]⟩
  · refine .inr ⟨g, cap, cur, rfl, hg, rowAt_of_heap hh, by omega, fun i hi => ?_⟩
    have h1 : cur[i]? = (cur.toList.take (n * 1))[i]? := by rw [List.getElem?_take, if_pos hi, Array.getElem?_toList]
    rw [h1, ht]
    rw [intsV, List.getElem?_map, List.getElem?_range (by omega)]; rfl
theorem A_infoIw : (Tryd.prog.info? 2).map (fun i => (i.zero, i.size, i.bytes)) = some (some (.int .i64 0), 1, 8) := by kernel_rfl
/-- The code of ages, life and years, where no tile may be too old now. -/
noncomputable def Rf.livC (r : Rf) (t : Nat → Int) (y z : Int) : Int := if r.ageC t (inB y 1 100 && inB z 0 200) = 0 then (if y < r.oldV t then 6 else 0) else r.ageC t (inB y 1 100 && inB z 0 200)

set_option maxRecDepth 100000 in
set_option maxHeartbeats 2000000 in
theorem checkLives_v (c d : Array Value) (r : Rf) (t : Nat → Int) (y z : Int) (w : World) (hR : IsRoof c r) (hA : IsU8 d 64 t) (ha : ¬ r.Aged t) :
    Calls Tryd.prog 62 #[.agg c, .agg d, .int .i64 y, .int .i64 z] w fun e w' => e = .returned (.iface 97 (.agg #[])) ∧ Below w.heap.size w w' := by
  obtain ⟨q0, q1, pB⟩ := two_boxes w c d 30 27
  have hc := hR.size
  have hd := hA.size
  have hnv := fun w => run_neq_iface_nil (P := Tryd.prog) (w := w) 70 (by kernel_rfl) 97 (.agg #[])
  have CV := fun W v => checkAges_v c d r t v W hR hA ha
  go_enter Tryd.func62, Tryd.ntmps62
  go_wp2_with fail
  refine gen_world fun W hW => ?_
  rw [← hW] at q0 q1 pB
  clear hW
  refine wp_region_held_drew (S := fun w' => Below W.heap.size W w') (by kernel_rfl) ((Below.refl _ _).drew) (fun hH => ?_)
  refine wpAnyH_take (i := 0) (v := .agg c) rfl (by kernel_rfl) (by kernel_rfl) (by kernel_rfl) (fun _ _ _ h => h) (Or.inl ⟨by rfl, ?_⟩) hH ?_
  · intro w1 hS; (try dsimp only at hS); have s0 := brow hS q0; go_simp
  (try simp only [List.getElem_toArray]); (try simp only [List.getElem_cons_succ]); (try simp only [List.getElem_cons_zero]); (try simp only [Act.put]); (try simp only [List.setIfInBounds_toArray]); (try simp only [List.set_cons_succ]); (try simp only [List.set_cons_zero])
  refine wpAnyH_take (i := 1) (v := .agg d) rfl (by kernel_rfl) (by kernel_rfl) (by kernel_rfl) (fun _ _ _ h => h) (Or.inl ⟨by rfl, ?_⟩) hH ?_
  · intro w1 hS; (try dsimp only at hS); have s1 := brow hS q1; go_simp
  (try simp only [List.getElem_toArray]); (try simp only [List.getElem_cons_succ]); (try simp only [List.getElem_cons_zero]); (try simp only [Act.put]); (try simp only [List.setIfInBounds_toArray]); (try simp only [List.set_cons_succ]); (try simp only [List.set_cons_zero])
  refine wpAnyH_take (i := 2) (v := .int .i64 y) rfl (by kernel_rfl) (by kernel_rfl) (by kernel_rfl) (fun _ _ _ h => h) (Or.inl ⟨by rfl, ?_⟩) hH ?_
  · intro w1 hS; (try dsimp only at hS); go_simp
  (try simp only [List.getElem_toArray]); (try simp only [List.getElem_cons_succ]); (try simp only [List.getElem_cons_zero]); (try simp only [Act.put]); (try simp only [List.setIfInBounds_toArray]); (try simp only [List.set_cons_succ]); (try simp only [List.set_cons_zero])
  refine wpAnyH_take (i := 4) (v := .int .i64 z) rfl (by kernel_rfl) (by kernel_rfl) (by kernel_rfl) (fun _ _ _ h => h) (Or.inl ⟨by rfl, ?_⟩) hH ?_
  · intro w1 hS; (try dsimp only at hS); go_simp
  (try simp only [List.getElem_toArray]); (try simp only [List.getElem_cons_succ]); (try simp only [List.getElem_cons_zero]); (try simp only [Act.put]); (try simp only [List.setIfInBounds_toArray]); (try simp only [List.set_cons_succ]); (try simp only [List.set_cons_zero])
  refine wpAnyH_ready (rs := [3]) (by kernel_rfl) (by simp) (AllReadyH.cons rfl (fun K hK => ?_) AllReadyH.nil)
  go_simp
  refine (lived_any y _).mono ?_
  rintro x wx ⟨rfl, bx⟩
  go_simp
  refine hK.out _ _ (bnext hH bx hH.size) (fun hG => ?_)
  clear hK K hH bx
  replace hH := hG
  clear hG
  (try simp only [List.getElem_toArray]); (try simp only [List.getElem_cons_succ]); (try simp only [List.getElem_cons_zero]); (try simp only [Act.put]); (try simp only [List.setIfInBounds_toArray]); (try simp only [List.set_cons_succ]); (try simp only [List.set_cons_zero])
  refine wpAnyH_ready (rs := [5]) (by kernel_rfl) (by simp) (AllReadyH.cons rfl (fun K hK => ?_) AllReadyH.nil)
  go_simp
  refine (gone_any z _).mono ?_
  rintro x wx ⟨rfl, bx⟩
  go_simp
  refine hK.out _ _ (bnext hH bx hH.size) (fun hG => ?_)
  clear hK K hH bx
  replace hH := hG
  clear hG
  (try simp only [List.getElem_toArray]); (try simp only [List.getElem_cons_succ]); (try simp only [List.getElem_cons_zero]); (try simp only [Act.put]); (try simp only [List.setIfInBounds_toArray]); (try simp only [List.set_cons_succ]); (try simp only [List.set_cons_zero])
  refine wpAnyH_ready (rs := [6]) (by kernel_rfl) (by simp) (AllReadyH.cons rfl (fun K hK => ?_) AllReadyH.nil)
  go_simp
  refine hK.out _ _ (hH.alloc hH.size _) (fun hG => ?_)
  clear hK K hH
  replace hH := hG
  clear hG
  (try simp only [List.getElem_toArray]); (try simp only [List.getElem_cons_succ]); (try simp only [List.getElem_cons_zero]); (try simp only [Act.put]); (try simp only [List.setIfInBounds_toArray]); (try simp only [List.set_cons_succ]); (try simp only [List.set_cons_zero])
  refine wpAnyH_ready (rs := [7]) (by kernel_rfl) (by simp) (AllReadyH.cons rfl (fun K hK => ?_) AllReadyH.nil)
  go_simp
  refine (CV _ _).mono ?_
  rintro x wx ⟨rfl, bx⟩
  go_simp
  refine hK.out _ _ (bnext hH bx hH.size) (fun hG => ?_)
  clear hK K hH bx
  replace hH := hG
  clear hG
  (try simp only [List.getElem_toArray]); (try simp only [List.getElem_cons_succ]); (try simp only [List.getElem_cons_zero]); (try simp only [Act.put]); (try simp only [List.setIfInBounds_toArray]); (try simp only [List.set_cons_succ]); (try simp only [List.set_cons_zero])
  refine wpAnyH_take (i := 8) (v := .iface 97 (.agg #[])) rfl (by kernel_rfl) (by kernel_rfl) (by kernel_rfl) (fun _ _ _ h => h) (Or.inl ⟨by rfl, ?_⟩) hH ?_
  · intro w1 hS; (try dsimp only at hS); go_simp
  (try simp only [List.getElem_toArray]); (try simp only [List.getElem_cons_succ]); (try simp only [List.getElem_cons_zero]); (try simp only [Act.put]); (try simp only [List.setIfInBounds_toArray]); (try simp only [List.set_cons_succ]); (try simp only [List.set_cons_zero])
  refine wpAnyH_done (by kernel_rfl) ?_ _
  have B1 := bnext pB hH pB.size
  clear hH q0 q1 pB CV
  go_wp2_with fail
  go_ret
  exact ⟨rfl, B1⟩
set_option maxRecDepth 100000 in
set_option maxHeartbeats 2000000 in
theorem checkLives_r (c d : Array Value) (r : Rf) (t : Nat → Int) (y z : Int) (w : World) (hR : IsRoof c r) (hA : IsU8 d 64 t) (ha : r.Aged t) (hf : (inB y 1 100 && inB z 0 200) = false) :
    Calls Tryd.prog 62 #[.agg c, .agg d, .int .i64 y, .int .i64 z] w fun e w' => e = .returned (.iface 101 (.agg #[])) ∧ Below w.heap.size w w' := by
  obtain ⟨q0, q1, pB⟩ := two_boxes w c d 30 27
  have hc := hR.size
  have hd := hA.size
  have hnr := fun w => run_neq_iface_nil (P := Tryd.prog) (w := w) 70 (by kernel_rfl) 101 (.agg #[])
  have hfine : fineB (bn6 y 1 100 z 0 200) 2 = false := by rw [fineB_bn6]; exact hf
  have CK := fun W v h0 => checkAges_r 0 2 c d r t v (bn6 y 1 100 z 0 200) W hR hA ha h0 (by omega) hfine
  clear hfine hf
  go_enter Tryd.func62, Tryd.ntmps62
  go_wp2_with fail
  refine gen_world fun W hW => ?_
  rw [← hW] at q0 q1 pB
  clear hW
  refine wp_region_held_drew (S := fun w' => Below W.heap.size W w') (by kernel_rfl) ((Below.refl _ _).drew) (fun hH => ?_)
  refine wpAnyH_take (i := 0) (v := .agg c) rfl (by kernel_rfl) (by kernel_rfl) (by kernel_rfl) (fun _ _ _ h => h) (Or.inl ⟨by rfl, ?_⟩) hH ?_
  · intro w1 hS; (try dsimp only at hS); have s0 := brow hS q0; go_simp
  (try simp only [List.getElem_toArray]); (try simp only [List.getElem_cons_succ]); (try simp only [List.getElem_cons_zero]); (try simp only [Act.put]); (try simp only [List.setIfInBounds_toArray]); (try simp only [List.set_cons_succ]); (try simp only [List.set_cons_zero])
  refine wpAnyH_take (i := 1) (v := .agg d) rfl (by kernel_rfl) (by kernel_rfl) (by kernel_rfl) (fun _ _ _ h => h) (Or.inl ⟨by rfl, ?_⟩) hH ?_
  · intro w1 hS; (try dsimp only at hS); have s1 := brow hS q1; go_simp
  (try simp only [List.getElem_toArray]); (try simp only [List.getElem_cons_succ]); (try simp only [List.getElem_cons_zero]); (try simp only [Act.put]); (try simp only [List.setIfInBounds_toArray]); (try simp only [List.set_cons_succ]); (try simp only [List.set_cons_zero])
  refine wpAnyH_take (i := 2) (v := .int .i64 y) rfl (by kernel_rfl) (by kernel_rfl) (by kernel_rfl) (fun _ _ _ h => h) (Or.inl ⟨by rfl, ?_⟩) hH ?_
  · intro w1 hS; (try dsimp only at hS); go_simp
  (try simp only [List.getElem_toArray]); (try simp only [List.getElem_cons_succ]); (try simp only [List.getElem_cons_zero]); (try simp only [Act.put]); (try simp only [List.setIfInBounds_toArray]); (try simp only [List.set_cons_succ]); (try simp only [List.set_cons_zero])
  refine wpAnyH_take (i := 4) (v := .int .i64 z) rfl (by kernel_rfl) (by kernel_rfl) (by kernel_rfl) (fun _ _ _ h => h) (Or.inl ⟨by rfl, ?_⟩) hH ?_
  · intro w1 hS; (try dsimp only at hS); go_simp
  (try simp only [List.getElem_toArray]); (try simp only [List.getElem_cons_succ]); (try simp only [List.getElem_cons_zero]); (try simp only [Act.put]); (try simp only [List.setIfInBounds_toArray]); (try simp only [List.set_cons_succ]); (try simp only [List.set_cons_zero])
  refine wpAnyH_ready (rs := [3]) (by kernel_rfl) (by simp) (AllReadyH.cons rfl (fun K hK => ?_) AllReadyH.nil)
  go_simp
  refine (lived_any y _).mono ?_
  rintro x wx ⟨rfl, bx⟩
  go_simp
  refine hK.out _ _ (bnext hH bx hH.size) (fun hG => ?_)
  clear hK K hH bx
  replace hH := hG
  clear hG
  (try simp only [List.getElem_toArray]); (try simp only [List.getElem_cons_succ]); (try simp only [List.getElem_cons_zero]); (try simp only [Act.put]); (try simp only [List.setIfInBounds_toArray]); (try simp only [List.set_cons_succ]); (try simp only [List.set_cons_zero])
  refine wpAnyH_ready (rs := [5]) (by kernel_rfl) (by simp) (AllReadyH.cons rfl (fun K hK => ?_) AllReadyH.nil)
  go_simp
  refine (gone_any z _).mono ?_
  rintro x wx ⟨rfl, bx⟩
  go_simp
  refine hK.out _ _ (bnext hH bx hH.size) (fun hG => ?_)
  clear hK K hH bx
  replace hH := hG
  clear hG
  (try simp only [List.getElem_toArray]); (try simp only [List.getElem_cons_succ]); (try simp only [List.getElem_cons_zero]); (try simp only [Act.put]); (try simp only [List.setIfInBounds_toArray]); (try simp only [List.set_cons_succ]); (try simp only [List.set_cons_zero])
  refine wpAnyH_ready (rs := [6]) (by kernel_rfl) (by simp) (AllReadyH.cons rfl (fun K hK => ?_) AllReadyH.nil)
  go_simp
  refine hK.out _ _ (hH.alloc hH.size _) (fun hG => ?_)
  clear hK K hH
  replace hH := hG
  clear hG
  (try simp only [List.getElem_toArray]); (try simp only [List.getElem_cons_succ]); (try simp only [List.getElem_cons_zero]); (try simp only [Act.put]); (try simp only [List.setIfInBounds_toArray]); (try simp only [List.set_cons_succ]); (try simp only [List.set_cons_zero])
  refine wpAnyH_ready (rs := [7]) (by kernel_rfl) (by simp) (AllReadyH.cons rfl (fun K hK => ?_) AllReadyH.nil)
  go_simp
  refine (CK _ _ (IsList.li6 (rowAt_alloc_at _ _ _ _ rfl) (Nat.zero_le _))).mono ?_
  rintro x wx ⟨rfl, bx⟩
  go_simp
  refine hK.out _ _ (bnext hH bx hH.size) (fun hG => ?_)
  clear hK K hH bx
  replace hH := hG
  clear hG
  (try simp only [List.getElem_toArray]); (try simp only [List.getElem_cons_succ]); (try simp only [List.getElem_cons_zero]); (try simp only [Act.put]); (try simp only [List.setIfInBounds_toArray]); (try simp only [List.set_cons_succ]); (try simp only [List.set_cons_zero])
  refine wpAnyH_take (i := 8) (v := .iface 101 (.agg #[])) rfl (by kernel_rfl) (by kernel_rfl) (by kernel_rfl) (fun _ _ _ h => h) (Or.inl ⟨by rfl, ?_⟩) hH ?_
  · intro w1 hS; (try dsimp only at hS); go_simp
  (try simp only [List.getElem_toArray]); (try simp only [List.getElem_cons_succ]); (try simp only [List.getElem_cons_zero]); (try simp only [Act.put]); (try simp only [List.setIfInBounds_toArray]); (try simp only [List.set_cons_succ]); (try simp only [List.set_cons_zero])
  refine wpAnyH_done (by kernel_rfl) ?_ _
  have B1 := bnext pB hH pB.size
  clear hH q0 q1 pB CK
  go_wp2_with fail
  go_ret
  exact ⟨rfl, B1⟩
set_option maxRecDepth 100000 in
set_option maxHeartbeats 2000000 in
theorem checkLives_t (c d : Array Value) (r : Rf) (t : Nat → Int) (y z : Int) (w : World) (hR : IsRoof c r) (hA : IsU8 d 64 t) (ha : r.Aged t) (hf : (inB y 1 100 && inB z 0 200) = true) (ho : y < r.oldV t) :
    Calls Tryd.prog 62 #[.agg c, .agg d, .int .i64 y, .int .i64 z] w fun e w' => e = .returned (.iface 114 (.agg #[])) ∧ Below w.heap.size w w' := by
  obtain ⟨q0, q1, pB⟩ := two_boxes w c d 30 27
  have hc := hR.size
  have hd := hA.size
  have hn0 := fun w => run_neq_nil_nil_at (P := Tryd.prog) (w := w) 70 (by kernel_rfl)
  have hfine : fineB (bn6 y 1 100 z 0 200) 2 = true := by rw [fineB_bn6]; exact hf
  have CK := fun W v h0 => checkAges_ok 0 2 c d r t v (bn6 y 1 100 z 0 200) W hR hA ha h0 (by omega) hfine
  have CO := fun W => oldest_ok c d r t W hR hA ha.1
  have hod : decide (y < r.oldV t) = true := by simp [ho]
  generalize r.oldV t = v at *
  generalize (r.oldAt t).1 = p1 at *
  generalize (r.oldAt t).2 = p2 at *
  clear hfine hf ho
  go_enter Tryd.func62, Tryd.ntmps62
  go_wp2_with fail
  refine gen_world fun W hW => ?_
  rw [← hW] at q0 q1 pB
  clear hW
  refine wp_region_held_drew (S := fun w' => Below W.heap.size W w') (by kernel_rfl) ((Below.refl _ _).drew) (fun hH => ?_)
  refine wpAnyH_take (i := 0) (v := .agg c) rfl (by kernel_rfl) (by kernel_rfl) (by kernel_rfl) (fun _ _ _ h => h) (Or.inl ⟨by rfl, ?_⟩) hH ?_
  · intro w1 hS; (try dsimp only at hS); have s0 := brow hS q0; go_simp
  (try simp only [List.getElem_toArray]); (try simp only [List.getElem_cons_succ]); (try simp only [List.getElem_cons_zero]); (try simp only [Act.put]); (try simp only [List.setIfInBounds_toArray]); (try simp only [List.set_cons_succ]); (try simp only [List.set_cons_zero])
  refine wpAnyH_take (i := 1) (v := .agg d) rfl (by kernel_rfl) (by kernel_rfl) (by kernel_rfl) (fun _ _ _ h => h) (Or.inl ⟨by rfl, ?_⟩) hH ?_
  · intro w1 hS; (try dsimp only at hS); have s1 := brow hS q1; go_simp
  (try simp only [List.getElem_toArray]); (try simp only [List.getElem_cons_succ]); (try simp only [List.getElem_cons_zero]); (try simp only [Act.put]); (try simp only [List.setIfInBounds_toArray]); (try simp only [List.set_cons_succ]); (try simp only [List.set_cons_zero])
  refine wpAnyH_take (i := 2) (v := .int .i64 y) rfl (by kernel_rfl) (by kernel_rfl) (by kernel_rfl) (fun _ _ _ h => h) (Or.inl ⟨by rfl, ?_⟩) hH ?_
  · intro w1 hS; (try dsimp only at hS); go_simp
  (try simp only [List.getElem_toArray]); (try simp only [List.getElem_cons_succ]); (try simp only [List.getElem_cons_zero]); (try simp only [Act.put]); (try simp only [List.setIfInBounds_toArray]); (try simp only [List.set_cons_succ]); (try simp only [List.set_cons_zero])
  refine wpAnyH_take (i := 4) (v := .int .i64 z) rfl (by kernel_rfl) (by kernel_rfl) (by kernel_rfl) (fun _ _ _ h => h) (Or.inl ⟨by rfl, ?_⟩) hH ?_
  · intro w1 hS; (try dsimp only at hS); go_simp
  (try simp only [List.getElem_toArray]); (try simp only [List.getElem_cons_succ]); (try simp only [List.getElem_cons_zero]); (try simp only [Act.put]); (try simp only [List.setIfInBounds_toArray]); (try simp only [List.set_cons_succ]); (try simp only [List.set_cons_zero])
  refine wpAnyH_ready (rs := [3]) (by kernel_rfl) (by simp) (AllReadyH.cons rfl (fun K hK => ?_) AllReadyH.nil)
  go_simp
  refine (lived_any y _).mono ?_
  rintro x wx ⟨rfl, bx⟩
  go_simp
  refine hK.out _ _ (bnext hH bx hH.size) (fun hG => ?_)
  clear hK K hH bx
  replace hH := hG
  clear hG
  (try simp only [List.getElem_toArray]); (try simp only [List.getElem_cons_succ]); (try simp only [List.getElem_cons_zero]); (try simp only [Act.put]); (try simp only [List.setIfInBounds_toArray]); (try simp only [List.set_cons_succ]); (try simp only [List.set_cons_zero])
  refine wpAnyH_ready (rs := [5]) (by kernel_rfl) (by simp) (AllReadyH.cons rfl (fun K hK => ?_) AllReadyH.nil)
  go_simp
  refine (gone_any z _).mono ?_
  rintro x wx ⟨rfl, bx⟩
  go_simp
  refine hK.out _ _ (bnext hH bx hH.size) (fun hG => ?_)
  clear hK K hH bx
  replace hH := hG
  clear hG
  (try simp only [List.getElem_toArray]); (try simp only [List.getElem_cons_succ]); (try simp only [List.getElem_cons_zero]); (try simp only [Act.put]); (try simp only [List.setIfInBounds_toArray]); (try simp only [List.set_cons_succ]); (try simp only [List.set_cons_zero])
  refine wpAnyH_ready (rs := [6]) (by kernel_rfl) (by simp) (AllReadyH.cons rfl (fun K hK => ?_) AllReadyH.nil)
  go_simp
  refine hK.out _ _ (hH.alloc hH.size _) (fun hG => ?_)
  clear hK K hH
  replace hH := hG
  clear hG
  (try simp only [List.getElem_toArray]); (try simp only [List.getElem_cons_succ]); (try simp only [List.getElem_cons_zero]); (try simp only [Act.put]); (try simp only [List.setIfInBounds_toArray]); (try simp only [List.set_cons_succ]); (try simp only [List.set_cons_zero])
  refine wpAnyH_ready (rs := [7]) (by kernel_rfl) (by simp) (AllReadyH.cons rfl (fun K hK => ?_) AllReadyH.nil)
  go_simp
  refine (CK _ _ (IsList.li6 (rowAt_alloc_at _ _ _ _ rfl) (Nat.zero_le _))).mono ?_
  rintro x wx ⟨rfl, bx⟩
  go_simp
  refine hK.out _ _ (bnext hH bx hH.size) (fun hG => ?_)
  clear hK K hH bx
  replace hH := hG
  clear hG
  (try simp only [List.getElem_toArray]); (try simp only [List.getElem_cons_succ]); (try simp only [List.getElem_cons_zero]); (try simp only [Act.put]); (try simp only [List.setIfInBounds_toArray]); (try simp only [List.set_cons_succ]); (try simp only [List.set_cons_zero])
  refine wpAnyH_take (i := 8) (v := .nilIface) rfl (by kernel_rfl) (by kernel_rfl) (by kernel_rfl) (fun _ _ _ h => h) (Or.inl ⟨by rfl, ?_⟩) hH ?_
  · intro w1 hS; (try dsimp only at hS); go_simp
  (try simp only [List.getElem_toArray]); (try simp only [List.getElem_cons_succ]); (try simp only [List.getElem_cons_zero]); (try simp only [Act.put]); (try simp only [List.setIfInBounds_toArray]); (try simp only [List.set_cons_succ]); (try simp only [List.set_cons_zero])
  refine wpAnyH_done (by kernel_rfl) ?_ _
  have B1 := bnext pB hH pB.size
  have p0 := brow hH q0
  have p1 := brow hH q1
  clear hH q0 q1 pB CK
  go_wp2_with fail
  refine (CO _).mono ?_
  rintro e w1 ⟨rfl, b1⟩
  have B2 := bnext B1 b1 B1.size
  clear b1 B1 p0 p1 CO
  go_wp2_with fail
  go_ret
  exact ⟨rfl, B2.alloc B2.size _⟩
set_option maxRecDepth 100000 in
set_option maxHeartbeats 2000000 in
theorem checkLives_ok (c d : Array Value) (r : Rf) (t : Nat → Int) (y z : Int) (w : World) (hR : IsRoof c r) (hA : IsU8 d 64 t) (ha : r.Aged t) (hf : (inB y 1 100 && inB z 0 200) = true) (ho : ¬ y < r.oldV t) :
    Calls Tryd.prog 62 #[.agg c, .agg d, .int .i64 y, .int .i64 z] w fun e w' => e = .returned .nilIface ∧ Below w.heap.size w w' := by
  obtain ⟨q0, q1, pB⟩ := two_boxes w c d 30 27
  have hc := hR.size
  have hd := hA.size
  have hn0 := fun w => run_neq_nil_nil_at (P := Tryd.prog) (w := w) 70 (by kernel_rfl)
  have hfine : fineB (bn6 y 1 100 z 0 200) 2 = true := by rw [fineB_bn6]; exact hf
  have CK := fun W v h0 => checkAges_ok 0 2 c d r t v (bn6 y 1 100 z 0 200) W hR hA ha h0 (by omega) hfine
  have CO := fun W => oldest_ok c d r t W hR hA ha.1
  have hod : decide (y < r.oldV t) = false := by simp; omega
  generalize r.oldV t = v at *
  generalize (r.oldAt t).1 = p1 at *
  generalize (r.oldAt t).2 = p2 at *
  clear hfine hf ho
  go_enter Tryd.func62, Tryd.ntmps62
  go_wp2_with fail
  refine gen_world fun W hW => ?_
  rw [← hW] at q0 q1 pB
  clear hW
  refine wp_region_held_drew (S := fun w' => Below W.heap.size W w') (by kernel_rfl) ((Below.refl _ _).drew) (fun hH => ?_)
  refine wpAnyH_take (i := 0) (v := .agg c) rfl (by kernel_rfl) (by kernel_rfl) (by kernel_rfl) (fun _ _ _ h => h) (Or.inl ⟨by rfl, ?_⟩) hH ?_
  · intro w1 hS; (try dsimp only at hS); have s0 := brow hS q0; go_simp
  (try simp only [List.getElem_toArray]); (try simp only [List.getElem_cons_succ]); (try simp only [List.getElem_cons_zero]); (try simp only [Act.put]); (try simp only [List.setIfInBounds_toArray]); (try simp only [List.set_cons_succ]); (try simp only [List.set_cons_zero])
  refine wpAnyH_take (i := 1) (v := .agg d) rfl (by kernel_rfl) (by kernel_rfl) (by kernel_rfl) (fun _ _ _ h => h) (Or.inl ⟨by rfl, ?_⟩) hH ?_
  · intro w1 hS; (try dsimp only at hS); have s1 := brow hS q1; go_simp
  (try simp only [List.getElem_toArray]); (try simp only [List.getElem_cons_succ]); (try simp only [List.getElem_cons_zero]); (try simp only [Act.put]); (try simp only [List.setIfInBounds_toArray]); (try simp only [List.set_cons_succ]); (try simp only [List.set_cons_zero])
  refine wpAnyH_take (i := 2) (v := .int .i64 y) rfl (by kernel_rfl) (by kernel_rfl) (by kernel_rfl) (fun _ _ _ h => h) (Or.inl ⟨by rfl, ?_⟩) hH ?_
  · intro w1 hS; (try dsimp only at hS); go_simp
  (try simp only [List.getElem_toArray]); (try simp only [List.getElem_cons_succ]); (try simp only [List.getElem_cons_zero]); (try simp only [Act.put]); (try simp only [List.setIfInBounds_toArray]); (try simp only [List.set_cons_succ]); (try simp only [List.set_cons_zero])
  refine wpAnyH_take (i := 4) (v := .int .i64 z) rfl (by kernel_rfl) (by kernel_rfl) (by kernel_rfl) (fun _ _ _ h => h) (Or.inl ⟨by rfl, ?_⟩) hH ?_
  · intro w1 hS; (try dsimp only at hS); go_simp
  (try simp only [List.getElem_toArray]); (try simp only [List.getElem_cons_succ]); (try simp only [List.getElem_cons_zero]); (try simp only [Act.put]); (try simp only [List.setIfInBounds_toArray]); (try simp only [List.set_cons_succ]); (try simp only [List.set_cons_zero])
  refine wpAnyH_ready (rs := [3]) (by kernel_rfl) (by simp) (AllReadyH.cons rfl (fun K hK => ?_) AllReadyH.nil)
  go_simp
  refine (lived_any y _).mono ?_
  rintro x wx ⟨rfl, bx⟩
  go_simp
  refine hK.out _ _ (bnext hH bx hH.size) (fun hG => ?_)
  clear hK K hH bx
  replace hH := hG
  clear hG
  (try simp only [List.getElem_toArray]); (try simp only [List.getElem_cons_succ]); (try simp only [List.getElem_cons_zero]); (try simp only [Act.put]); (try simp only [List.setIfInBounds_toArray]); (try simp only [List.set_cons_succ]); (try simp only [List.set_cons_zero])
  refine wpAnyH_ready (rs := [5]) (by kernel_rfl) (by simp) (AllReadyH.cons rfl (fun K hK => ?_) AllReadyH.nil)
  go_simp
  refine (gone_any z _).mono ?_
  rintro x wx ⟨rfl, bx⟩
  go_simp
  refine hK.out _ _ (bnext hH bx hH.size) (fun hG => ?_)
  clear hK K hH bx
  replace hH := hG
  clear hG
  (try simp only [List.getElem_toArray]); (try simp only [List.getElem_cons_succ]); (try simp only [List.getElem_cons_zero]); (try simp only [Act.put]); (try simp only [List.setIfInBounds_toArray]); (try simp only [List.set_cons_succ]); (try simp only [List.set_cons_zero])
  refine wpAnyH_ready (rs := [6]) (by kernel_rfl) (by simp) (AllReadyH.cons rfl (fun K hK => ?_) AllReadyH.nil)
  go_simp
  refine hK.out _ _ (hH.alloc hH.size _) (fun hG => ?_)
  clear hK K hH
  replace hH := hG
  clear hG
  (try simp only [List.getElem_toArray]); (try simp only [List.getElem_cons_succ]); (try simp only [List.getElem_cons_zero]); (try simp only [Act.put]); (try simp only [List.setIfInBounds_toArray]); (try simp only [List.set_cons_succ]); (try simp only [List.set_cons_zero])
  refine wpAnyH_ready (rs := [7]) (by kernel_rfl) (by simp) (AllReadyH.cons rfl (fun K hK => ?_) AllReadyH.nil)
  go_simp
  refine (CK _ _ (IsList.li6 (rowAt_alloc_at _ _ _ _ rfl) (Nat.zero_le _))).mono ?_
  rintro x wx ⟨rfl, bx⟩
  go_simp
  refine hK.out _ _ (bnext hH bx hH.size) (fun hG => ?_)
  clear hK K hH bx
  replace hH := hG
  clear hG
  (try simp only [List.getElem_toArray]); (try simp only [List.getElem_cons_succ]); (try simp only [List.getElem_cons_zero]); (try simp only [Act.put]); (try simp only [List.setIfInBounds_toArray]); (try simp only [List.set_cons_succ]); (try simp only [List.set_cons_zero])
  refine wpAnyH_take (i := 8) (v := .nilIface) rfl (by kernel_rfl) (by kernel_rfl) (by kernel_rfl) (fun _ _ _ h => h) (Or.inl ⟨by rfl, ?_⟩) hH ?_
  · intro w1 hS; (try dsimp only at hS); go_simp
  (try simp only [List.getElem_toArray]); (try simp only [List.getElem_cons_succ]); (try simp only [List.getElem_cons_zero]); (try simp only [Act.put]); (try simp only [List.setIfInBounds_toArray]); (try simp only [List.set_cons_succ]); (try simp only [List.set_cons_zero])
  refine wpAnyH_done (by kernel_rfl) ?_ _
  have B1 := bnext pB hH pB.size
  have p0 := brow hH q0
  have p1 := brow hH q1
  clear hH q0 q1 pB CK
  go_wp2_with fail
  refine (CO _).mono ?_
  rintro e w1 ⟨rfl, b1⟩
  have B2 := bnext B1 b1 B1.size
  clear b1 B1 p0 p1 CO
  go_wp2_with fail
  go_ret
  exact ⟨rfl, B2.alloc B2.size _⟩

/-- The k-th visit. -/
def visA (v y : Int) (k : Nat) : Int := y - v + (k : Int) * y
theorem visA_zero (v y : Int) : visA v y 0 = y - v := by simp [visA]
theorem visA_succ (v y : Int) (k : Nat) : visA v y (k + 1) = visA v y k + y := by
  unfold visA; rw [Int.natCast_add, Int.add_mul]; simp; omega
theorem visA_ge {v y : Int} (h0 : v ≤ y) (h1 : 1 ≤ y) : ∀ k : Nat, (k : Int) ≤ visA v y k
  | 0 => by rw [visA_zero]; simp; omega
  | k + 1 => by have := visA_ge h0 h1 k; rw [visA_succ]; omega
/-- How many visits there are. -/
def VisN (v y z : Int) (n : Nat) : Prop := (∀ k, k < n → visA v y k < z) ∧ ¬ visA v y n < z
theorem VisN.one {v y z : Int} {n m : Nat} (h : VisN v y z n) (g : VisN v y z m) : n = m := by
  rcases Nat.lt_trichotomy n m with e | e | e
  · exact absurd (g.1 n e) h.2
  · exact e
  · exact absurd (h.1 m e) g.2
open Classical in
noncomputable def visN (v y z : Int) : Nat := if h : ∃ n, VisN v y z n then h.choose else 0
theorem visN_eq {v y z : Int} {n : Nat} (h : VisN v y z n) : visN v y z = n := by
  unfold visN
  rw [dif_pos ⟨n, h⟩]
  exact (Exists.choose_spec (⟨n, h⟩ : ∃ n, VisN v y z n)).one h

set_option maxRecDepth 100000 in
set_option maxHeartbeats 2000000 in
theorem visitsFor_any (c d : Array Value) (r : Rf) (t : Nat → Int) (y z : Int) (w : World) (hR : IsRoof c r) (hA : IsU8 d 64 t) (ha : r.Aged t) (hy : 1 ≤ y ∧ y ≤ 100) (hz : 0 ≤ z ∧ z ≤ 200) (ho : ¬ y < r.oldV t) :
    Calls Tryd.prog 63 #[.agg c, .agg d, .int .i64 y, .int .i64 z] w fun e w' => ∃ v, e = .returned v ∧ (IsList w' w.heap.size v 1 (visN (r.oldV t) y z) (fun i => .int .i64 (visA (r.oldV t) y i)) ∧ visN (r.oldV t) y z ≤ 200) ∧ Below w.heap.size w w' := by
  obtain ⟨p0, p1, pB⟩ := two_boxes w c d 30 27
  have hc := hR.size
  have hd := hA.size
  obtain ⟨i0, hi0, hz0, hz1, hz2⟩ := info_parts A_infoIw
  have CO := fun W => oldest_ok c d r t W hR hA ha.1
  have vb := Rf.oldV_bd ha hA.lo
  obtain ⟨v, hov⟩ : ∃ v, r.oldV t = v := ⟨_, rfl⟩
  rw [hov] at vb ho ⊢
  simp only [hov] at CO
  clear hov
  generalize (r.oldAt t).1 = a1 at *
  generalize (r.oldAt t).2 = a2 at *
  have hge := Lib.hid (visA_ge (v := v) (y := y) (by omega) hy.1)
  have hsu := Lib.hid (visA_succ v y)
  have hze := Lib.hid (visA_zero v y)
  go_enter Tryd.func63, Tryd.ntmps63
  go_wp2_with fail
  refine (CO _).mono ?_
  rintro e w1 ⟨rfl, b1⟩
  have B1 := bnext pB b1 pB.size
  clear b1 p0 p1 pB CO
  go_wp2_with fail
  refine gen_world fun W hW => ?_
  have B2 : Below w.heap.size w W := by rw [hW]; go_simp; exact B1.alloc B1.size _
  clear hW B1
  go_loopw [11, 12] (fun u i W' => ∃ (n : Nat) (b : Int), n ≤ 200 ∧ i = .int .i64 b ∧ Hid (b = visA v y n) ∧ (0 ≤ b ∧ b ≤ 300) ∧ Hid (∀ k, k < n → visA v y k < z) ∧ W'.ownsRow w.heap.size 2 1 u n (intsV (visA v y) n) ∧ Below w.heap.size w W') (fun _ i _ => (z - intOf i).toNat)
  case atStart => exact ⟨0, y - v, by omega, rfl, Lib.hid hze.out.symm, by omega, Lib.hid (by omega), World.ownsRow_nil _ _ _ _, B2⟩
  case round =>
    clear B2
    obtain ⟨n, b, hn, rfl, hb, hb0, hF, hv, hB⟩ := hrel
    by_cases hlt : b < z
    · have hdl : decide (b < z) = true := by simp [hlt]
      have hg : (n : Int) ≤ b := by rw [hb.out]; exact hge.out n
      obtain ⟨wo, hwo⟩ : ∃ wo : World, wo = wr := ⟨_, rfl⟩
      rw [← hwo] at hv hB ⊢
      clear hwo
      go_wp2_with (at_builtin; refine Go.wpList_append_own_at _ rfl _ _ 52 rfl w.heap.size 2 i0 (.int .i64 0) 1 8 Tryd.underlying52 hi0 hz0 hz1 hz2 rfl (by decide) _ _ _ rfl (hv.alloc _) ⟨wo.heap.size, 0, none⟩ 1 1 [.int .i64 b] rfl rfl (cell_one_new _ _ _) (by simp [Value.oneCell']) (by unfold maxLen; omega) (by omega) (by have := hB.size; simp; omega) ?_; intro v3 w3 own3 grow3 _ _)
      have B3 := (hB.alloc hB.size _).grown grow3 (by have := hB.size; simp; omega) (owns_base hv)
      rw [show (.int .i64 b : Value) = .int .i64 (visA v y n) by rw [hb.out], intsV_succ] at own3
      clear grow3 hv hB
      go_wp2_with fail
      refine ⟨⟨n + 1, b + y, by omega, by go_num, Lib.hid (by rw [hsu.out, hb.out]), by omega, Lib.hid (fun k hk => ?_), own3, B3⟩, by simp [intOf]; omega⟩
      by_cases hkn : k < n
      · exact hF.out k hkn
      · obtain rfl : k = n := by omega
        rw [← hb.out]; exact hlt
    · have hdl : decide (b < z) = false := by simp; omega
      have hN := Lib.hid (show visN v y z = n from visN_eq ⟨hF.out, by rw [← hb.out]; exact hlt⟩)
      have hl := IsList.of_intsV hv
      clear hv
      go_wp2_with fail
      go_ret
      rw [hN.out]
      exact ⟨_, rfl, ⟨hl, hn⟩, hB⟩

set_option maxRecDepth 100000 in
set_option maxHeartbeats 2000000 in
theorem l07Visits_ok (k0 n0 : Nat) (c d : Array Value) (r : Rf) (t : Nat → Int) (y z : Int) (w : World) (hr : rowAt w k0 = some c) (hR : IsRoof c r) (hd : rowAt w n0 = some d) (hA : IsU8 d 64 t) (ha : r.Aged t) (hy : 1 ≤ y ∧ y ≤ 100) (hz : 0 ≤ z ∧ z ≤ 200) (ho : ¬ y < r.oldV t) :
    Calls Tryd.prog 61 #[.pointer (some ⟨k0, 0, none⟩), .pointer (some ⟨n0, 0, none⟩), .int .i64 y, .int .i64 z] w fun e w' => ∃ v, e = .returned (.tuple #[v, .bool true]) ∧ IsList w' w.heap.size v 1 (visN (r.oldV t) y z) (fun i => .int .i64 (visA (r.oldV t) y i)) ∧ Below w.heap.size w w' := by
  obtain ⟨i0, hi0, hz0, hz1, hz2⟩ := info_parts A_infoIw
  have hB0 : Below w.heap.size w (w.alloc (.cells #[] 2)) := (Below.refl _ _).alloc (Nat.le_refl _) _
  have r0 := brow hB0 hr
  have r1 := brow hB0 hd
  have ow := owns_empty w 2 1
  have CO := fun W h0 h1 => l07Oldest_ok k0 n0 c d r t W h0 hR h1 hA ha.1
  have vb := Rf.oldV_bd ha hA.lo
  have hod : decide (y < r.oldV t) = false := by simp; omega
  obtain ⟨v, hov⟩ : ∃ v, r.oldV t = v := ⟨_, rfl⟩
  rw [hov] at vb ho hod ⊢
  simp only [hov] at CO
  clear hov
  generalize (r.oldAt t).1 = a1 at *
  generalize (r.oldAt t).2 = a2 at *
  have hge := Lib.hid (visA_ge (v := v) (y := y) (by omega) hy.1)
  have hsu := Lib.hid (visA_succ v y)
  have hze := Lib.hid (visA_zero v y)
  go_enter Tryd.func61, Tryd.ntmps61
  go_wp2_with fail
  refine (CO _ r0 r1).mono ?_
  rintro e w1 ⟨rfl, b1⟩
  have B1 := bnext hB0 b1 hB0.size
  have ow1 := owns_below ow b1
  clear b1 r0 r1 hB0 ow CO hr hd
  go_wp2_with fail
  refine gen_world fun W hW => ?_
  have B2 : Below w.heap.size w W := by rw [hW]; go_simp; exact B1.alloc B1.size _
  have ow2 : W.ownsRow w.heap.size 2 1 (.slice (some ⟨w.heap.size, 0, none⟩) 0 0) 0 [] := by rw [hW]; go_simp; exact ow1.alloc _
  clear hW B1 ow1
  go_loopw [10, 13] (fun u i W' => ∃ (n : Nat) (b : Int), n ≤ 200 ∧ i = .int .i64 b ∧ Hid (b + y = visA v y n) ∧ (-100 ≤ b ∧ b ≤ 300) ∧ Hid (∀ k, k < n → visA v y k < z) ∧ W'.ownsRow w.heap.size 2 1 u n (intsV (visA v y) n) ∧ Below w.heap.size w W') (fun _ i _ => (z - intOf i).toNat)
  case atStart => exact ⟨0, -v, by omega, rfl, Lib.hid (by rw [hze.out]; omega), by omega, Lib.hid (by omega), ow2, B2⟩
  case round =>
    clear B2 ow2
    obtain ⟨n, b, hn, rfl, hb, hb0, hF, hv, hB⟩ := hrel
    by_cases hlt : b + y < z
    · have hdl : decide (y < z - b) = true := by simp; omega
      have hg : (n : Int) ≤ b + y := by rw [hb.out]; exact hge.out n
      obtain ⟨wo, hwo⟩ : ∃ wo : World, wo = wr := ⟨_, rfl⟩
      rw [← hwo] at hv hB ⊢
      clear hwo
      go_wp2_with (at_builtin; refine Go.wpList_append_own_at _ rfl _ _ 52 rfl w.heap.size 2 i0 (.int .i64 0) 1 8 Tryd.underlying52 hi0 hz0 hz1 hz2 rfl (by decide) _ _ _ rfl (hv.alloc _) ⟨wo.heap.size, 0, none⟩ 1 1 [.int .i64 (b + y)] rfl rfl (cell_one_new _ _ _) (by simp [Value.oneCell']) (by unfold maxLen; omega) (by omega) (by have := hB.size; simp; omega) ?_; intro v3 w3 own3 grow3 _ _)
      have B3 := (hB.alloc hB.size _).grown grow3 (by have := hB.size; simp; omega) (owns_base hv)
      rw [show (.int .i64 (b + y) : Value) = .int .i64 (visA v y n) by rw [hb.out], intsV_succ] at own3
      clear grow3 hv hB
      go_wp2_with fail
      refine ⟨⟨n + 1, b + y, by omega, by go_num, Lib.hid (by rw [hsu.out, hb.out]), by omega, Lib.hid (fun k hk => ?_), own3, B3⟩, by simp [intOf]; omega⟩
      by_cases hkn : k < n
      · exact hF.out k hkn
      · obtain rfl : k = n := by omega
        rw [← hb.out]; exact hlt
    · have hdl : decide (y < z - b) = false := by simp; omega
      have hN := Lib.hid (show visN v y z = n from visN_eq ⟨hF.out, by rw [← hb.out]; exact hlt⟩)
      have hl := IsList.of_intsV hv
      clear hv
      go_wp2_with fail
      go_ret2
      rw [hN.out]
      exact ⟨_, rfl, hl, hB⟩
end Go.Proofs.YtcdobpnejbfbpaaDoor

/- VisitsFor: both sides. -/
namespace Go.Proofs.YtcdobpnejbfbpaaDoor
open Go.RowKit

/-- How many visits are told. -/
noncomputable def Rf.viN (r : Rf) (t : Nat → Int) (y z : Int) : Nat := if r.livC t y z = 0 then visN (r.oldV t) y z else 0
theorem Rf.livC_v {r : Rf} {t : Nat → Int} {y z : Int} (h : ¬ r.Aged t) : r.livC t y z = 1 := by
  unfold Rf.livC; rw [Rf.ageC_v h]; rfl
theorem Rf.livC_r {r : Rf} {t : Nat → Int} {y z : Int} (h : r.Aged t) (hf : (inB y 1 100 && inB z 0 200) = false) : r.livC t y z = 2 := by
  unfold Rf.livC; rw [Rf.ageC_r h hf]; rfl
theorem Rf.livC_t {r : Rf} {t : Nat → Int} {y z : Int} (h : r.Aged t) (hf : (inB y 1 100 && inB z 0 200) = true) (ho : y < r.oldV t) : r.livC t y z = 6 := by
  unfold Rf.livC; rw [Rf.ageC_ok h hf, if_pos rfl, if_pos ho]
theorem Rf.livC_ok {r : Rf} {t : Nat → Int} {y z : Int} (h : r.Aged t) (hf : (inB y 1 100 && inB z 0 200) = true) (ho : ¬ y < r.oldV t) : r.livC t y z = 0 := by
  unfold Rf.livC; rw [Rf.ageC_ok h hf, if_pos rfl, if_neg ho]
theorem Rf.ageC_zeroV {r : Rf} {t : Nat → Int} {b : Bool} (h : r.ageC t b = 0) : r.Aged t ∧ b = true := by
  rcases Classical.em (r.Aged t) with ha | ha
  · cases b with
    | true => exact ⟨ha, rfl⟩
    | false => rw [Rf.ageC_r ha rfl] at h; cases h
  · rw [Rf.ageC_v ha] at h; cases h
theorem inB_and {y z : Int} (hf : (inB y 1 100 && inB z 0 200) = true) : (1 ≤ y ∧ y ≤ 100) ∧ 0 ≤ z ∧ z ≤ 200 := by
  simpa [inB] using hf
theorem Rf.viN_no {r : Rf} {t : Nat → Int} {y z : Int} {k : Int} (h : r.livC t y z = k) (hk : k ≠ 0) : r.viN t y z = 0 := if_neg (by rw [h]; exact hk)

set_option maxRecDepth 100000 in
set_option maxHeartbeats 2000000 in
theorem implVisitsFor_any (c d : Array Value) (r : Rf) (t : Nat → Int) (y z : Int) (w : World) (hR : IsRoof c r) (hA : IsU8 d 64 t) (hT : ErrT w) :
    Calls Tryd.prog 30 #[.agg c, .agg d, .int .i64 y, .int .i64 z] w (GivesInts w (r.viN t y z) (visA (r.oldV t) y) (r.livC t y z)) := by
  obtain ⟨p0, p1, pB⟩ := two_boxes w c d 30 27
  have hc := hR.size
  have hd := hA.size
  have hn0 := fun w => run_neq_nil_nil_at (P := Tryd.prog) (w := w) 70 (by kernel_rfl)
  have hnv := fun w => run_neq_iface_nil (P := Tryd.prog) (w := w) 70 (by kernel_rfl) 97 (.agg #[])
  have hnr := fun w => run_neq_iface_nil (P := Tryd.prog) (w := w) 70 (by kernel_rfl) 101 (.agg #[])
  have hnt := fun w => run_neq_iface_nil (P := Tryd.prog) (w := w) 70 (by kernel_rfl) 114 (.agg #[])
  by_cases ha : r.Aged t
  · cases hf : (inB y 1 100 && inB z 0 200) with
    | true =>
      by_cases ho : y < r.oldV t
      · have hcd := Rf.livC_t ha hf ho
        rw [Rf.viN_no hcd (by decide), hcd]
        clear hcd
        go_enter Tryd.func30, Tryd.ntmps30
        go_wp2_with fail
        refine (checkLives_t c d r t y z _ hR hA ha hf ho).mono ?_
        rintro e w1 ⟨rfl, b1⟩
        have B1 := bnext pB b1 pB.size
        have T1 := hT.below B1
        clear b1 p0 p1 pB
        go_wp2_with fail
        refine (yearCode_T _ T1).mono ?_
        rintro e w2 ⟨rfl, b2⟩
        have B2 := bnext B1 b2 B1.size
        clear b2 B1 T1
        go_wp2_with fail
        go_ret2
        exact ⟨_, rfl, .inl ⟨rfl, _, _, rfl⟩, B2⟩
      · have hcd := Rf.livC_ok ha hf ho
        have hN : r.viN t y z = visN (r.oldV t) y z := if_pos hcd
        obtain ⟨yb, zb⟩ := inB_and hf
        rw [hN, hcd]
        clear hcd hN
        have CV := fun W => visitsFor_any c d r t y z W hR hA ha yb zb ho
        have CL := fun W => checkLives_ok c d r t y z W hR hA ha hf ho
        generalize visN (r.oldV t) y z = N at *
        generalize visA (r.oldV t) y = G at *
        clear hf ho yb zb
        go_enter Tryd.func30, Tryd.ntmps30
        go_wp2_with fail
        refine (CL _).mono ?_
        rintro e w1 ⟨rfl, b1⟩
        have r0 := brow b1 p0
        have r1 := brow b1 p1
        have B1 := bnext pB b1 pB.size
        clear b1 p0 p1 pB CL
        go_wp2_with fail
        refine (CV _).mono ?_
        rintro e w2 ⟨v, rfl, ⟨l2, _⟩, b2⟩
        have B2 := bnext B1 b2 B1.size
        replace l2 := l2.mono B1.size
        obtain ⟨av, cv, rfl⟩ := l2.shape
        clear b2 B1 r0 r1 CV
        go_wp2_with fail
        go_ret2
        exact ⟨_, rfl, l2, B2⟩
    | false =>
      have hcd := Rf.livC_r ha hf
      rw [Rf.viN_no hcd (by decide), hcd]
      clear hcd
      go_enter Tryd.func30, Tryd.ntmps30
      go_wp2_with fail
      refine (checkLives_r c d r t y z _ hR hA ha hf).mono ?_
      rintro e w1 ⟨rfl, b1⟩
      have B1 := bnext pB b1 pB.size
      have T1 := hT.below B1
      clear b1 p0 p1 pB
      go_wp2_with fail
      refine (yearCode_R _ T1).mono ?_
      rintro e w2 ⟨rfl, b2⟩
      have B2 := bnext B1 b2 B1.size
      clear b2 B1 T1
      go_wp2_with fail
      go_ret2
      exact ⟨_, rfl, .inl ⟨rfl, _, _, rfl⟩, B2⟩
  · have hcd := Rf.livC_v (y := y) (z := z) ha
    rw [Rf.viN_no hcd (by decide), hcd]
    clear hcd
    go_enter Tryd.func30, Tryd.ntmps30
    go_wp2_with fail
    refine (checkLives_v c d r t y z _ hR hA ha).mono ?_
    rintro e w1 ⟨rfl, b1⟩
    have B1 := bnext pB b1 pB.size
    have T1 := hT.below B1
    clear b1 p0 p1 pB
    go_wp2_with fail
    refine (yearCode_V _ T1).mono ?_
    rintro e w2 ⟨rfl, b2⟩
    have B2 := bnext B1 b2 B1.size
    clear b2 B1 T1
    go_wp2_with fail
    go_ret2
    exact ⟨_, rfl, .inl ⟨rfl, _, _, rfl⟩, B2⟩

set_option maxRecDepth 100000 in
set_option maxHeartbeats 2000000 in
theorem l07Visits_no (k0 n0 : Nat) (c d : Array Value) (r : Rf) (t : Nat → Int) (y z : Int) (w : World) (hr : rowAt w k0 = some c) (hR : IsRoof c r) (hd : rowAt w n0 = some d) (hA : IsU8 d 64 t) (ha : r.Aged t) (ho : y < r.oldV t) :
    Calls Tryd.prog 61 #[.pointer (some ⟨k0, 0, none⟩), .pointer (some ⟨n0, 0, none⟩), .int .i64 y, .int .i64 z] w fun e w' => e = .returned (.tuple #[.slice (some ⟨w.heap.size, 0, none⟩) 0 0, .bool false]) ∧ Below w.heap.size w w' := by
  have hB0 : Below w.heap.size w (w.alloc (.cells #[] 2)) := (Below.refl _ _).alloc (Nat.le_refl _) _
  have r0 := brow hB0 hr
  have r1 := brow hB0 hd
  have CO := fun W h0 h1 => l07Oldest_ok k0 n0 c d r t W h0 hR h1 hA ha.1
  have hod : decide (y < r.oldV t) = true := by simp [ho]
  generalize r.oldV t = v at *
  generalize (r.oldAt t).1 = a1 at *
  generalize (r.oldAt t).2 = a2 at *
  clear ho
  go_enter Tryd.func61, Tryd.ntmps61
  go_wp2_with fail
  refine (CO _ r0 r1).mono ?_
  rintro e w1 ⟨rfl, b1⟩
  have B1 := bnext hB0 b1 hB0.size
  clear b1 r0 r1 hB0 CO hr hd
  go_wp2_with fail
  go_ret2
  exact ⟨rfl, B1.alloc B1.size _⟩

set_option maxRecDepth 100000 in
set_option maxHeartbeats 2000000 in
theorem specVisitsFor_any (c d : Array Value) (r : Rf) (t : Nat → Int) (y z : Int) (w : World) (hR : IsRoof c r) (hA : IsU8 d 64 t) :
    Calls Tryd.prog 29 #[.agg c, .agg d, .int .i64 y, .int .i64 z] w (GivesInts w (r.viN t y z) (visA (r.oldV t) y) (r.livC t y z)) := by
  obtain ⟨p0, p1, pB⟩ := two_boxes w c d 30 27
  have CL := fun W => l07Life_any y W
  have CY := fun W => l07Years_any z W
  have CA := fun W h0 h1 => l07Asked_any w.heap.size (w.heap.size + 1) c d r t (inB y 1 100 && inB z 0 200) W h0 hR h1 hA
  by_cases hz : r.ageC t (inB y 1 100 && inB z 0 200) = 0
  · have hzb : (r.ageC t (inB y 1 100 && inB z 0 200) != 0) = false := by simp [hz]
    obtain ⟨ha, hf⟩ := Rf.ageC_zeroV hz
    obtain ⟨yb, zb⟩ := inB_and hf
    have h1 : inB y 1 100 = true := inB_true yb
    have h2 : inB z 0 200 = true := inB_true zb
    rw [hf] at CA hzb
    rw [h1] at CL
    rw [h2] at CY
    by_cases ho : y < r.oldV t
    · have hcd := Rf.livC_t ha hf ho
      rw [Rf.viN_no hcd (by decide), hcd]
      have CV := fun W a b => l07Visits_no w.heap.size (w.heap.size + 1) c d r t y z W a hR b hA ha ho
      generalize r.ageC t true = k at *
      clear hcd hf h1 h2 ho hz
      go_enter Tryd.func29, Tryd.ntmps29
      go_wp2_with fail
      refine (CL _).mono ?_
      rintro e w1 ⟨rfl, rfl⟩
      go_wp2_with fail
      refine (CY _).mono ?_
      rintro e w1 ⟨rfl, rfl⟩
      go_wp2_with fail
      refine (CA _ p0 p1).mono ?_
      rintro e w1 ⟨rfl, b1⟩
      have r0 := brow b1 p0
      have r1 := brow b1 p1
      have B1 := bnext pB b1 pB.size
      clear b1 p0 p1 pB CA CL CY
      go_wp2_with fail
      refine (CV _ r0 r1).mono ?_
      rintro e w2 ⟨rfl, b2⟩
      have B2 := bnext B1 b2 B1.size
      clear b2 B1 r0 r1 CV
      go_wp2_with fail
      go_ret2
      exact ⟨_, rfl, .inl ⟨rfl, _, _, rfl⟩, B2.alloc B2.size _⟩
    · have hcd := Rf.livC_ok ha hf ho
      have hN : r.viN t y z = visN (r.oldV t) y z := if_pos hcd
      rw [hN, hcd]
      have CV := fun W a b => l07Visits_ok w.heap.size (w.heap.size + 1) c d r t y z W a hR b hA ha yb zb ho
      generalize visN (r.oldV t) y z = N at *
      generalize visA (r.oldV t) y = G at *
      generalize r.ageC t true = k at *
      clear hcd hf h1 h2 ho hz hN yb zb
      go_enter Tryd.func29, Tryd.ntmps29
      go_wp2_with fail
      refine (CL _).mono ?_
      rintro e w1 ⟨rfl, rfl⟩
      go_wp2_with fail
      refine (CY _).mono ?_
      rintro e w1 ⟨rfl, rfl⟩
      go_wp2_with fail
      refine (CA _ p0 p1).mono ?_
      rintro e w1 ⟨rfl, b1⟩
      have r0 := brow b1 p0
      have r1 := brow b1 p1
      have B1 := bnext pB b1 pB.size
      clear b1 p0 p1 pB CA CL CY
      go_wp2_with fail
      refine (CV _ r0 r1).mono ?_
      rintro e w2 ⟨v, rfl, l2, b2⟩
      have B2 := bnext B1 b2 B1.size
      replace l2 := l2.mono B1.size
      obtain ⟨av, cv, rfl⟩ := l2.shape
      clear b2 B1 r0 r1 CV
      go_wp2_with fail
      go_ret2
      exact ⟨_, rfl, l2, B2⟩
  · have hcd : r.livC t y z = r.ageC t (inB y 1 100 && inB z 0 200) := if_neg hz
    have hzb : (r.ageC t (inB y 1 100 && inB z 0 200) != 0) = true := by simp [hz]
    rw [Rf.viN_no hcd hz, hcd]
    generalize r.ageC t (inB y 1 100 && inB z 0 200) = k at *
    clear hcd hz
    cases h1 : inB y 1 100 with
    | true =>
      rw [h1] at CL CA
      rw [Bool.true_and] at CA
      clear h1
      generalize inB z 0 200 = fb at *
      go_enter Tryd.func29, Tryd.ntmps29
      go_wp2_with fail
      refine (CL _).mono ?_
      rintro e w1 ⟨rfl, rfl⟩
      go_wp2_with fail
      refine (CY _).mono ?_
      rintro e w1 ⟨rfl, rfl⟩
      go_wp2_with fail
      refine (CA _ p0 p1).mono ?_
      rintro e w1 ⟨rfl, b1⟩
      have B1 := bnext pB b1 pB.size
      clear b1 p0 p1 pB CA CL CY
      go_wp2_with fail
      go_ret2
      exact ⟨_, rfl, .inl ⟨rfl, _, _, rfl⟩, B1.alloc B1.size _⟩
    | false =>
      rw [h1] at CL CA
      rw [Bool.false_and] at CA
      clear h1 CY
      go_enter Tryd.func29, Tryd.ntmps29
      go_wp2_with fail
      refine (CL _).mono ?_
      rintro e w1 ⟨rfl, rfl⟩
      go_wp2_with fail
      refine (CA _ p0 p1).mono ?_
      rintro e w1 ⟨rfl, b1⟩
      have B1 := bnext pB b1 pB.size
      clear b1 p0 p1 pB CA CL
      go_wp2_with fail
      go_ret2
      exact ⟨_, rfl, .inl ⟨rfl, _, _, rfl⟩, B1.alloc B1.size _⟩
theorem Rf.viN_le (d : Array Value) (r : Rf) (t : Nat → Int) (y z : Int) (hA : IsU8 d 64 t) : r.viN t y z ≤ 1000000 := by
  unfold Rf.viN
  split
  · rename_i h
    have ha : r.Aged t := by
      rcases Classical.em (r.Aged t) with ha | ha
      · exact ha
      · rw [Rf.livC_v ha] at h; cases h
    have hf : (inB y 1 100 && inB z 0 200) = true := by
      cases hf : (inB y 1 100 && inB z 0 200) with
      | true => rfl
      | false => rw [Rf.livC_r ha hf] at h; cases h
    have ho : ¬ y < r.oldV t := fun ho => by rw [Rf.livC_t ha hf ho] at h; cases h
    obtain ⟨yb, zb⟩ := inB_and hf
    unfold visN
    split
    · rename_i hx
      have hs := Exists.choose_spec hx
      have hb := Rf.oldV_bd ha hA.lo
      rcases Nat.eq_zero_or_pos hx.choose with e | e
      · omega
      · have h1 := hs.1 (hx.choose - 1) (by omega)
        have h2 := visA_ge (v := r.oldV t) (y := y) (by omega) yb.1 (hx.choose - 1)
        omega
    · omega
  · omega
end Go.Proofs.YtcdobpnejbfbpaaDoor

/- laws.FnExactVisitsFor returns true for every roof and ages and numbers, and leaves them as they were. The variable errors.errorType is listed, and tied by the card. -/
namespace Go.Proofs.YtcdobpnejbfbpaaDoor
open Go.RowKit

theorem rbelD {N B n m : Nat} {w W : World} {c : Array Value} {l : List Value} {A : Prop} (h : rowAt W n = some c ∧ rowAt W m = some l.toArray ∧ W.rangeAt m 0 l ∧ Below B w W ∧ B ≤ W.heap.size ∧ N ≤ W.heap.size ∧ A) : Below B w W := h.2.2.2.1
set_option maxRecDepth 100000 in
set_option maxHeartbeats 4000000 in
theorem law_walk_FnExactVisitsFor {c : Array Value} {r : Rf} (hR : IsRoof c r) {d : Array Value} {t : Nat → Int} (hT : IsU8 d 64 t) {y : Int} (_hy : -9223372036854775808 ≤ y ∧ y ≤ 9223372036854775807) {z : Int} (_hz : -9223372036854775808 ≤ z ∧ z ≤ 9223372036854775807) (w : World) (hE : ErrT w) :
    Calls Tryd.prog 8 #[.agg c, .agg d, .int .i64 y, .int .i64 z] w fun e w' => e = .returned (.bool true) ∧ Below w.heap.size w w' := by
  obtain ⟨l⟩ := d
  obtain ⟨p0, p1, pB⟩ := two_boxes w c l.toArray 26 24
  have hc := hR.size
  have hl : l.length = 64 := by have := hT.size; simpa using this
  have hu := Tryd.underlying24
  have hi : (Tryd.prog.info? 24).map (·.size) = some l.length := by rw [hl]; kernel_rfl
  have CS := fun w => specVisitsFor_any c l.toArray r t y z w hR hT
  have CI := fun w he => implVisitsFor_any c l.toArray r t y z w hR hT he
  have HE := Lib.hid hE
  clear hE
  have htk : List.take 64 l = l := List.take_of_length_le (by omega)
  generalize hcode : r.livC t y z = code at CS CI
  have hcc : (code != code) = false := by simp
  have hnb : (r.viN t y z) ≤ 1000000 := by (exact Rf.viN_le _ r t y z hT)
  generalize hnn : (r.viN t y z) = nn at hnb CS CI
  generalize hff : (visA (r.oldV t) y) = ff at CS CI
  obtain ⟨M, hM⟩ : ∃ M : Int, M = ((1 + nn : Nat) : Int) := ⟨_, rfl⟩
  have hM0 : 0 ≤ M := by omega
  have hmm : (M != M) = false := by simp
  have hml : decide (M < 0) = false := by simp; omega
  have HM := Lib.hid hM
  clear hM hcode hnn hff
  go_enter Tryd.func8, Tryd.ntmps8
  go_wp2_with fail
  refine gen_world fun W hW => ?_
  rw [← hW] at p0 p1 pB
  clear hW
  go_region_held3 (fun w' => rowAt w' w.heap.size = some c ∧ rowAt w' (w.heap.size + 1) = some l.toArray ∧ w'.rangeAt (w.heap.size + 1) 0 l ∧ Below w.heap.size w w' ∧ w.heap.size ≤ w'.heap.size ∧ w.heap.size ≤ w'.heap.size ∧ True)
    (first | exact rheld0 p0 p1 pB pB.size pB.size trivial | exact rheldX (by assumption) id (by assumption))
    (first | (go_at_call 12; (with_reducible refine (toRoof_any c r _ hR).mono ?_); rintro x wx ⟨rfl, bx⟩) | (go_at_call 13; (with_reducible refine (toAges_any l.toArray t _ hT).mono ?_); rintro x wx ⟨rfl, bx⟩) | (go_at_call 29; (with_reducible refine (CS _).mono ?_); rintro x wx ⟨v0, rfl, l0, bx⟩))
  rename_i g
  clear p0 p1 pB
  obtain ⟨N, hN⟩ : ∃ N, N = wx.heap.size := ⟨_, rfl⟩
  have hNle : N ≤ wx.heap.size := by omega
  have lt0 := l0.lt (Nat.le_of_eq hN.symm)
  have hN0 : wx.heap.size ≤ N := by omega
  have p2 := g.2.1
  have l0' := l0.mono (Nat.zero_le _)
  clear l0 hN
  go_wp2_with fail
  go_region_held3 (fun w' => rowAt w' w.heap.size = some c ∧ rowAt w' (w.heap.size + 1) = some l.toArray ∧ w'.rangeAt (w.heap.size + 1) 0 l ∧ Below w.heap.size w w' ∧ w.heap.size ≤ w'.heap.size ∧ N ≤ w'.heap.size ∧ IsList w' 0 v0 1 nn (fun i => .int .i64 (ff i)))
    (first | exact rheld0 g.1 g.2.1 g.2.2.2.1 g.2.2.2.2.1 hNle l0' | exact rheldL (by assumption) (by assumption))
    (first | (go_at_call 12; (with_reducible refine (toRoof_any c r _ hR).mono ?_); rintro x wx ⟨rfl, bx⟩) | (go_at_call 13; (with_reducible refine (toAges_any l.toArray t _ hT).mono ?_); rintro x wx ⟨rfl, bx⟩) | (go_at_call 30; have hNc := rheldN (by assumption); have hbel := rbelD (by assumption); (with_reducible refine (CI _ (HE.out.below hbel)).mono ?_); rintro x wx ⟨v1, rfl, l1, bx⟩; replace l1 := l1.mono hNc))
  rename_i g2
  clear l0'
  go_wp2_with fail
  refine (eqInt64S_same nn ff v1 v0 _ _ _ l1 g2.2.2.2.2.2.2 hnb).mono ?_
  rintro x wa ⟨rfl, ba⟩
  have l1a := l1.below ba (Nat.le_refl _)
  have g3 := rheldL ba g2
  clear ba l1
  go_wp2_with fail
  refine (mark1 nn _ v1 N M HM.out _ l1a hnb).mono ?_
  rintro x wb ⟨rfl, l1b, bb⟩
  have hnN : w.heap.size + 1 < N := Nat.lt_of_lt_of_le (rowAt_lt p2) hN0
  have g4 := rheldM bb (by omega) hnN (by omega) (fun h => h.kept2 bb lt0) g3
  clear bb l1a g3 g2 g
  go_wp2_with fail
  refine (held1 nn v1 N M HM.out _ l1b hnb).mono ?_
  rintro x wc ⟨rfl, rfl⟩
  go_wp2_with fail
  go_region_held3 (fun w' => rowAt w' w.heap.size = some c ∧ rowAt w' (w.heap.size + 1) = some l.toArray ∧ w'.rangeAt (w.heap.size + 1) 0 l ∧ Below w.heap.size w w' ∧ w.heap.size ≤ w'.heap.size ∧ N ≤ w'.heap.size ∧ IsList w' 0 v0 1 nn (fun i => .int .i64 (ff i)) ∧ IsList w' N v1 1 nn (fun i => .int .i64 ((1 + i : Nat) : Int)))
    (first | exact rheld0 g4.1 g4.2.1 g4.2.2.2.1 g4.2.2.2.2.1 g4.2.2.2.2.2.1 ⟨g4.2.2.2.2.2.2, l1b⟩ | exact rheldLL (by assumption) (by assumption))
    (first | (go_at_call 12; (with_reducible refine (toRoof_any c r _ hR).mono ?_); rintro x wx ⟨rfl, bx⟩) | (go_at_call 13; (with_reducible refine (toAges_any l.toArray t _ hT).mono ?_); rintro x wx ⟨rfl, bx⟩) | (go_at_call 30; have hbel := rbelD (by assumption); (with_reducible refine (CI _ (HE.out.below hbel)).mono ?_); rintro x wx ⟨v2, rfl, l2, bx⟩))
  rename_i g5
  clear g4 l1b
  go_wp2_with fail
  refine (eqInt64S_same nn ff v2 v0 _ _ _ l2 g5.2.2.2.2.2.2.1 hnb).mono ?_
  rintro x wd ⟨rfl, bd⟩
  have g6 := rheldLL bd g5
  clear bd l2 g5
  go_wp2_with fail
  refine (held1 nn v1 N M HM.out _ g6.2.2.2.2.2.2.2 hnb).mono ?_
  rintro x we ⟨rfl, rfl⟩
  go_wp2_with fail
  go_ret
  exact ⟨rfl, g6.2.2.2.1⟩

namespace LFnExactVisitsFor
open Go.RowKit Go.ChangeShapes Go.WideShapes Go.ChangeAt
theorem own : ownKnob Tryd.prog.godebug = none := by kernel_rfl
theorem laidOut : laidOutB Tryd.prog = true := by kernel_rfl
theorem door_met (os : Os) (args : Array Value) : laidMetH Tryd.prog Rows.fnExactVisitsForRow.laid ((World.doorLaid Tryd.prog 400 os).forCall (fun _ _ => 0) ⟨#[], args, []⟩).memory :=
  laidMetH_of_parts3 (fuel := 8) (laidMet_of_run' 8 (by kernel_rfl) (by kernel_rfl)) (by kernel_rfl) (by kernel_rfl)
set_option maxRecDepth 100000 in
theorem lifted (os : Os) (started : os.Started) (H : Type) (enc : TypeId × Value → H) :
    ReturnsInHanded {} Tryd.checked os 8 .any (fun w args => (Rows.fnExactVisitsForSpec.pre enc Tryd.prog Tryd.f8 [] false w args ∧ laidMetH Tryd.prog Rows.fnExactVisitsForRow.laid w) ∧ sizedMet enc Tryd.prog Tryd.f8 (OpenSpec.ofChange Rows.fnExactVisitsForSpec) false w args)
      (Rows.fnExactVisitsForSpec.post enc Tryd.prog Tryd.f8 false true false false) := by
  refine returnsInHanded_of_change_and (C := Tryd.checked) (X := fun w _ => laidMetH Tryd.prog Rows.fnExactVisitsForRow.laid w) (fun _ _ _ hh h => h.of_heap hh) own started (by kernel_rfl) Tryd.func8
    (ChangeSpec.witness_shaped (enc := enc) (C := Tryd.checked) (os := os) (X := fun w _ => laidMetH Tryd.prog Rows.fnExactVisitsForRow.laid w) false (World.doorLaid Tryd.prog 400 os) #[.agg Tryd.zeroCells26, .agg (Array.replicate 64 (.int .u8 0)), .int .i64 0, .int .i64 0] 8 rfl (World.shaped_of_RefB (by kernel_rfl) (by kernel_rfl)) (by kernel_rfl) (by kernel_rfl) (by kernel_rfl) (door_met os _)) ?_
  intro W base args ds gs before hval0 hW _ _ hL _
  have hval : ∀ (j : Nat) t v, Tryd.f8.params[j]? = some t → args[j]? = some v → Value.okWide Tryd.prog W .any base t v := hval0
  have hW' := hW
  obtain ⟨p, q, hA0, hV, rfl, hfz, hnd⟩ := hW
  have hA : DataW.TrodAll enc Tryd.prog W 0 (fun _ => true) true Tryd.f8.params.toList args.toList ds p := hA0
  rw [Tryd.params8] at hA hval
  obtain ⟨v0, vs0, d0, ds0, p0, q0, hargs, rfl, rfl, h0, r0⟩ := trodAll_cons hA
  obtain ⟨v1, vs1, d1, ds1, p1, q1, rfl, rfl, rfl, h1, r1⟩ := trodAll_cons r0
  obtain ⟨v2, vs2, d2, ds2, p2, q2, rfl, rfl, rfl, h2, r2⟩ := trodAll_cons r1
  obtain ⟨v3, vs3, d3, ds3, p3, q3, rfl, rfl, rfl, h3, r3⟩ := trodAll_cons r2
  obtain ⟨rfl, rfl, rfl⟩ := trodAll_nil r3
  obtain rfl : args = #[v0, v1, v2, v3] := by cases args; simp_all
  obtain ⟨rfl, rfl⟩ := trodVars_none hV
  have k0 := h0
  have lt0 : ∀ x ∈ p0, x.block < W.heap.size := by obtain ⟨m, hm⟩ := k0; exact DataW.trod_lt m _ _ _ hm
  have k1 := h1
  have lt1 : ∀ x ∈ p1, x.block < W.heap.size := by obtain ⟨m, hm⟩ := k1; exact DataW.trod_lt m _ _ _ hm
  obtain ⟨c0, f0, rfl, wf0⟩ := open_roof (hval 0 26 v0 rfl rfl) h0
  obtain ⟨c1, f1, rfl, wf1⟩ := open_ages (hval 1 24 v1 rfl rfl) h1
  obtain ⟨n2, rfl, rfl, rfl, wf2⟩ := open_int Tryd.underlying2 (hval 2 2 v2 rfl rfl) h2
  obtain ⟨n3, rfl, rfl, rfl, wf3⟩ := open_int Tryd.underlying2 (hval 3 2 v3 rfl rfl) h3
  clear hA0 hval0
  refine ((law_walk_FnExactVisitsFor wf0 wf1 (bounds_i64 wf2) (bounds_i64 wf3) W (errT_of hL))).mono fun e W' ⟨he, bel⟩ => ?_
  subst he
  exact ⟨_, rfl, _, _, _, [], _, [], hW', trodAll_mk1 (shut_bool Tryd.underlying4 _), (trodAll_cons_mk (Below.trod laidOut (by kernel_rfl) (of_decide_eq_true (by kernel_rfl)) k0 bel lt0) (trodAll_cons_mk (Below.trod laidOut (by kernel_rfl) (of_decide_eq_true (by kernel_rfl)) k1 bel lt1) (trodAll_cons_mk (shut_int Tryd.underlying2 wf2) (trodAll_cons_mk (shut_int Tryd.underlying2 wf3) trodAll_mk0)))), rfl, bel.frame _, fun h => by cases h⟩

theorem over : Rows.FnExactVisitsForSaid :=
  OpenClaim.holds_of_wide 8 Tryd.f8 rfl rfl rfl rfl rfl rfl rfl ⟨rfl, rfl, rfl, rfl, rfl⟩ rfl rfl rfl rfl rfl (by kernel_rfl) Tryd.func8 (by kernel_rfl)
    (of_decide_eq_true (by kernel_rfl)) (by unfold Func.isWrapper; first | (rw [if_pos (by decide +kernel)]; kernel_rfl) | (rw [if_neg (by decide +kernel)]; exact ⟨rfl, rfl⟩))
    (fun os started H enc _ => lifted os started H enc)

theorem proved : Rows.FnExactVisitsForCardSaid :=
  Claim7.holds_tied_plain_at .later [] Rows.fnExactVisitsForCard.laidKinds true Rows.fnExactVisitsForCard.stood.harness Rows.fnExactVisitsForCard.stood.looks
    over (fun _ h => by cases h) (by kernel_rfl) (fun _ h => by cases h) fnExactVisitsFor_row_tie rfl ⟨rfl, rfl⟩ (by kernel_rfl) rfl
    (fun f fn hf hfn => by
      obtain rfl : f = 8 := Option.some.inj ((show Tryd.prog.funcNamed "loop.example/g01376/laws.FnExactVisitsFor" = some 8 by kernel_rfl).symm.trans hf) |>.symm
      obtain rfl : fn = Tryd.f8 := (Option.some.inj (Tryd.func8.symm.trans hfn)).symm
      exact ⟨by kernel_rfl, fun j t ht => by
        rw [Tryd.params8] at ht
        have hm : t ∈ [26, 24, 2, 2] := by simpa using Array.mem_of_getElem? ht
        have hall : ([26, 24, 2, 2].all fun u => !Tryd.prog.wantsStandIn u) = true := by kernel_rfl
        exact (show Tryd.prog.wantsStandIn t = false by simpa using List.all_eq_true.1 hall t hm)⟩)
    (by kernel_rfl)
end LFnExactVisitsFor

end Go.Proofs.YtcdobpnejbfbpaaDoor
