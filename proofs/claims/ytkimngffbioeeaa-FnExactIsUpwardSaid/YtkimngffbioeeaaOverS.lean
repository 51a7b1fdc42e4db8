/- IsUpward: the model's side. -/
import Derived.Test.YtkimngffbioeeaaOverM
namespace Go.Proofs.Ytkimngffbioeeaa
open Go.RowKit

theorem l00In_b (n lo hi : Int) (w : World) : Calls Try.prog 95 #[.int .i64 n, .int .i64 lo, .int .i64 hi] w fun e w' => e = .returned (.bool (inB n lo hi)) ∧ Below w.heap.size w w' :=
  (l00In_any n lo hi w).mono fun _ _ h => ⟨h.1, by rw [← h.2]; exact Below.refl _ _⟩

set_option maxRecDepth 100000 in
set_option maxHeartbeats 2000000 in
theorem l04Over_any (n0 : Nat) (c : Array Value) (r : Rf) (i j u t : Nat) (w : World) (hr : rowAt w n0 = some c) (hR : IsRoof c r) (hi : i < 8) (hj : j < 8) (hu : u < 8) (ht : t < 8) :
    Calls Try.prog 78 #[.pointer (some ⟨n0, 0, none⟩), .agg #[.int .i8 i, .int .i8 j], .agg #[.int .i8 u, .int .i8 t]] w fun e w' => e = .returned (.bool (r.over i j u t)) ∧ Below w.heap.size w w' := by
  have hn0 := rowAt_lt hr
  obtain ⟨ya, yb⟩ := r.by_bd i
  obtain ⟨yc, yd⟩ := r.by_bd u
  have i0 : 0 ≤ (i : Int) := by omega
  have i1 : (i : Int) < 8 := by omega
  have j0 : 0 ≤ (j : Int) := by omega
  have j1 : (j : Int) < 8 := by omega
  have t0 : 0 ≤ (t : Int) := by omega
  have t1 : (t : Int) < 8 := by omega
  have e8 : IntKind.i8.wrap ((i : Int) + 1) = i + 1 := IntWalk.i8_in _ (by omega)
  by_cases hx : (i : Int) + 1 = u
  · have hxb : ((i : Int) + 1 == (i : Int) + 1) = true := by simp
    have hV : r.over i j u t = inB (2 * j + r.by i - (2 * t + r.by u)) (-1) 1 := by unfold Rf.over; simp [hx]
    rw [hV]
    have CA := fun W h => l01First_any n0 c r i j W h hR hi hj
    have CB := fun W h => l01First_any n0 c r u t W h hR hu ht
    have CI := fun W => l00In_b (2 * (j : Int) + r.by i - (2 * t + r.by u)) (-1) 1 W
    have e64 : IntKind.i64.wrap (2 * (j : Int) + r.by i - (2 * t + r.by u)) = 2 * (j : Int) + r.by i - (2 * t + r.by u) := IntWalk.i64_in _ (by omega)
    generalize inB (2 * (j : Int) + r.by i - (2 * t + r.by u)) (-1) 1 = z at *
    generalize 2 * (j : Int) + r.by i = X at *
    generalize 2 * (t : Int) + r.by u = Y at *
    rw [← hx] at CB ⊢
    clear hx hV
    go_enter Try.func78, Try.ntmps78
    go_wp2_with fail
    refine gen_world fun W0 hW => ?_
    have pB := Lib.hid (show Below w.heap.size w W0 by rw [hW]; exact ((Below.refl _ _).alloc (Nat.le_refl _) _).alloc (by simp) _)
    have PX := Lib.hid (show rowAt W0 w.heap.size = some #[.int .i8 i, .int .i8 j] by rw [hW]; exact (rowAt_alloc_past _ _ _ (by simp)).trans (rowAt_alloc_at _ _ _ _ rfl))
    have PY := Lib.hid (show rowAt W0 (w.heap.size + 1) = some #[.int .i8 ((i : Int) + 1), .int .i8 t] by rw [hW]; exact rowAt_alloc_at _ _ _ _ (by simp))
    have P0 := Lib.hid (brow pB.out hr)
    clear hW hr
    refine wp_region_held_drew (S := fun w' => Below W0.heap.size W0 w') (by kernel_rfl) ((Below.refl _ _).drew) (fun hH => ?_)
    refine wpAnyH_take (i := 0) (v := .pointer (some ⟨w.heap.size, 0, none⟩)) rfl (by kernel_rfl) (by kernel_rfl) (by kernel_rfl) (fun _ _ _ h => h) (Or.inl ⟨by rfl, ?_⟩) hH ?_
    · intro w1 hS; (try dsimp only at hS); go_simp
    (try simp only [List.getElem_toArray]); (try simp only [List.getElem_cons_succ]); (try simp only [List.getElem_cons_zero]); (try simp only [Act.put]); (try simp only [List.setIfInBounds_toArray]); (try simp only [List.set_cons_succ]); (try simp only [List.set_cons_zero])
    refine wpAnyH_take (i := 1) (v := .int .i8 i) rfl (by kernel_rfl) (by kernel_rfl) (by kernel_rfl) (fun _ _ _ h => h) (Or.inl ⟨by rfl, ?_⟩) hH ?_
    · intro w1 hS; (try dsimp only at hS); have x0 := cell_of_rowAt (brow hS PX.out) 0; have x1 := cell_of_rowAt (brow hS PX.out) 1; have y0 := cell_of_rowAt (brow hS PY.out) 0; have y1 := cell_of_rowAt (brow hS PY.out) 1; go_simp
    (try simp only [List.getElem_toArray]); (try simp only [List.getElem_cons_succ]); (try simp only [List.getElem_cons_zero]); (try simp only [Act.put]); (try simp only [List.setIfInBounds_toArray]); (try simp only [List.set_cons_succ]); (try simp only [List.set_cons_zero])
    refine wpAnyH_take (i := 2) (v := .int .i8 ((i : Int) + 1)) rfl (by kernel_rfl) (by kernel_rfl) (by kernel_rfl) (fun _ _ _ h => h) (Or.inl ⟨by rfl, ?_⟩) hH ?_
    · intro w1 hS; (try dsimp only at hS); go_simp
    (try simp only [List.getElem_toArray]); (try simp only [List.getElem_cons_succ]); (try simp only [List.getElem_cons_zero]); (try simp only [Act.put]); (try simp only [List.setIfInBounds_toArray]); (try simp only [List.set_cons_succ]); (try simp only [List.set_cons_zero])
    refine wpAnyH_take (i := 3) (v := .pointer (some ⟨w.heap.size + 1, 0, none⟩)) rfl (by kernel_rfl) (by kernel_rfl) (by kernel_rfl) (fun _ _ _ h => h) (Or.inl ⟨by rfl, ?_⟩) hH ?_
    · intro w1 hS; (try dsimp only at hS); go_simp
    (try simp only [List.getElem_toArray]); (try simp only [List.getElem_cons_succ]); (try simp only [List.getElem_cons_zero]); (try simp only [Act.put]); (try simp only [List.setIfInBounds_toArray]); (try simp only [List.set_cons_succ]); (try simp only [List.set_cons_zero])
    refine wpAnyH_take (i := 4) (v := .int .i8 ((i : Int) + 1)) rfl (by kernel_rfl) (by kernel_rfl) (by kernel_rfl) (fun _ _ _ h => h) (Or.inl ⟨by rfl, ?_⟩) hH ?_
    · intro w1 hS; (try dsimp only at hS); have x0 := cell_of_rowAt (brow hS PX.out) 0; have x1 := cell_of_rowAt (brow hS PX.out) 1; have y0 := cell_of_rowAt (brow hS PY.out) 0; have y1 := cell_of_rowAt (brow hS PY.out) 1; go_simp
    (try simp only [List.getElem_toArray]); (try simp only [List.getElem_cons_succ]); (try simp only [List.getElem_cons_zero]); (try simp only [Act.put]); (try simp only [List.setIfInBounds_toArray]); (try simp only [List.set_cons_succ]); (try simp only [List.set_cons_zero])
    refine wpAnyH_take (i := 5) (v := .bool true) rfl (by kernel_rfl) (by kernel_rfl) (by kernel_rfl) (fun _ _ _ h => h) (Or.inl ⟨by rfl, ?_⟩) hH ?_
    · intro w1 hS; (try dsimp only at hS); go_simp
    (try simp only [List.getElem_toArray]); (try simp only [List.getElem_cons_succ]); (try simp only [List.getElem_cons_zero]); (try simp only [Act.put]); (try simp only [List.setIfInBounds_toArray]); (try simp only [List.set_cons_succ]); (try simp only [List.set_cons_zero])
    refine wpAnyH_take (i := 6) (v := .bool true) rfl (by kernel_rfl) (by kernel_rfl) (by kernel_rfl) (fun _ _ _ h => h) (Or.inl ⟨by rfl, ?_⟩) hH ?_
    · intro w1 hS; (try dsimp only at hS); go_simp
    (try simp only [List.getElem_toArray]); (try simp only [List.getElem_cons_succ]); (try simp only [List.getElem_cons_zero]); (try simp only [Act.put]); (try simp only [List.setIfInBounds_toArray]); (try simp only [List.set_cons_succ]); (try simp only [List.set_cons_zero])
    refine wpAnyH_take (i := 7) (v := .pointer (some ⟨n0, 0, none⟩)) rfl (by kernel_rfl) (by kernel_rfl) (by kernel_rfl) (fun _ _ _ h => h) (Or.inl ⟨by rfl, ?_⟩) hH ?_
    · intro w1 hS; (try dsimp only at hS); go_simp
    (try simp only [List.getElem_toArray]); (try simp only [List.getElem_cons_succ]); (try simp only [List.getElem_cons_zero]); (try simp only [Act.put]); (try simp only [List.setIfInBounds_toArray]); (try simp only [List.set_cons_succ]); (try simp only [List.set_cons_zero])
    refine wpAnyH_take (i := 8) (v := .agg #[.int .i8 i, .int .i8 j]) rfl (by kernel_rfl) (by kernel_rfl) (by kernel_rfl) (fun _ _ _ h => h) (Or.inl ⟨by rfl, ?_⟩) hH ?_
    · intro w1 hS; (try dsimp only at hS); have x0 := cell_of_rowAt (brow hS PX.out) 0; have x1 := cell_of_rowAt (brow hS PX.out) 1; have y0 := cell_of_rowAt (brow hS PY.out) 0; have y1 := cell_of_rowAt (brow hS PY.out) 1; go_simp
    (try simp only [List.getElem_toArray]); (try simp only [List.getElem_cons_succ]); (try simp only [List.getElem_cons_zero]); (try simp only [Act.put]); (try simp only [List.setIfInBounds_toArray]); (try simp only [List.set_cons_succ]); (try simp only [List.set_cons_zero])
    refine wpAnyH_take (i := 10) (v := .pointer (some ⟨n0, 0, none⟩)) rfl (by kernel_rfl) (by kernel_rfl) (by kernel_rfl) (fun _ _ _ h => h) (Or.inl ⟨by rfl, ?_⟩) hH ?_
    · intro w1 hS; (try dsimp only at hS); go_simp
    (try simp only [List.getElem_toArray]); (try simp only [List.getElem_cons_succ]); (try simp only [List.getElem_cons_zero]); (try simp only [Act.put]); (try simp only [List.setIfInBounds_toArray]); (try simp only [List.set_cons_succ]); (try simp only [List.set_cons_zero])
    refine wpAnyH_take (i := 11) (v := .agg #[.int .i8 ((i : Int) + 1), .int .i8 t]) rfl (by kernel_rfl) (by kernel_rfl) (by kernel_rfl) (fun _ _ _ h => h) (Or.inl ⟨by rfl, ?_⟩) hH ?_
    · intro w1 hS; (try dsimp only at hS); have x0 := cell_of_rowAt (brow hS PX.out) 0; have x1 := cell_of_rowAt (brow hS PX.out) 1; have y0 := cell_of_rowAt (brow hS PY.out) 0; have y1 := cell_of_rowAt (brow hS PY.out) 1; go_simp
    (try simp only [List.getElem_toArray]); (try simp only [List.getElem_cons_succ]); (try simp only [List.getElem_cons_zero]); (try simp only [Act.put]); (try simp only [List.setIfInBounds_toArray]); (try simp only [List.set_cons_succ]); (try simp only [List.set_cons_zero])
    refine wpAnyH_ready (rs := [9]) (by kernel_rfl) (by simp) (AllReadyH.cons rfl (fun K hK => ?_) AllReadyH.nil)
    go_simp
    refine (CA _ (brow hH P0.out)).mono ?_
    rintro x wx ⟨rfl, bx⟩
    go_simp
    refine hK.out _ _ (bnext hH bx hH.size) (fun hG => ?_)
    clear hK K hH bx
    replace hH := hG
    clear hG
    (try simp only [List.getElem_toArray]); (try simp only [List.getElem_cons_succ]); (try simp only [List.getElem_cons_zero]); (try simp only [Act.put]); (try simp only [List.setIfInBounds_toArray]); (try simp only [List.set_cons_succ]); (try simp only [List.set_cons_zero])
    refine wpAnyH_ready (rs := [12]) (by kernel_rfl) (by simp) (AllReadyH.cons rfl (fun K hK => ?_) AllReadyH.nil)
    go_simp
    refine (CB _ (brow hH P0.out)).mono ?_
    rintro x wx ⟨rfl, bx⟩
    go_simp
    refine hK.out _ _ (bnext hH bx hH.size) (fun hG => ?_)
    clear hK K hH bx
    replace hH := hG
    clear hG
    (try simp only [List.getElem_toArray]); (try simp only [List.getElem_cons_succ]); (try simp only [List.getElem_cons_zero]); (try simp only [Act.put]); (try simp only [List.setIfInBounds_toArray]); (try simp only [List.set_cons_succ]); (try simp only [List.set_cons_zero])
    refine wpAnyH_take (i := 13) (v := .int .i64 (X - Y)) rfl (by kernel_rfl) (by kernel_rfl) (by kernel_rfl) (fun _ _ _ h => h) (Or.inl ⟨by rfl, ?_⟩) hH ?_
    · intro w1 hS; (try dsimp only at hS); go_simp
    (try simp only [List.getElem_toArray]); (try simp only [List.getElem_cons_succ]); (try simp only [List.getElem_cons_zero]); (try simp only [Act.put]); (try simp only [List.setIfInBounds_toArray]); (try simp only [List.set_cons_succ]); (try simp only [List.set_cons_zero])
    refine wpAnyH_ready (rs := [14]) (by kernel_rfl) (by simp) (AllReadyH.cons rfl (fun K hK => ?_) AllReadyH.nil)
    go_simp
    refine (CI _).mono ?_
    rintro x wx ⟨rfl, bx⟩
    go_simp
    refine hK.out _ _ (bnext hH bx hH.size) (fun hG => ?_)
    clear hK K hH bx
    replace hH := hG
    clear hG
    (try simp only [List.getElem_toArray]); (try simp only [List.getElem_cons_succ]); (try simp only [List.getElem_cons_zero]); (try simp only [Act.put]); (try simp only [List.setIfInBounds_toArray]); (try simp only [List.set_cons_succ]); (try simp only [List.set_cons_zero])
    refine wpAnyH_take (i := 15) (v := .bool z) rfl (by kernel_rfl) (by kernel_rfl) (by kernel_rfl) (fun _ _ _ h => h) (Or.inl ⟨by rfl, ?_⟩) hH ?_
    · intro w1 hS; (try dsimp only at hS); go_simp
    (try simp only [List.getElem_toArray]); (try simp only [List.getElem_cons_succ]); (try simp only [List.getElem_cons_zero]); (try simp only [Act.put]); (try simp only [List.setIfInBounds_toArray]); (try simp only [List.set_cons_succ]); (try simp only [List.set_cons_zero])
    refine wpAnyH_take (i := 16) (v := .bool z) rfl (by kernel_rfl) (by kernel_rfl) (by kernel_rfl) (fun _ _ _ h => h) (Or.inl ⟨by rfl, ?_⟩) hH ?_
    · intro w1 hS; (try dsimp only at hS); go_simp
    (try simp only [List.getElem_toArray]); (try simp only [List.getElem_cons_succ]); (try simp only [List.getElem_cons_zero]); (try simp only [Act.put]); (try simp only [List.setIfInBounds_toArray]); (try simp only [List.set_cons_succ]); (try simp only [List.set_cons_zero])
    refine wpAnyH_done (by kernel_rfl) ?_ _
    have B2 := Lib.hid (bnext pB.out hH pB.out.size)
    clear hH
    go_wp2_with fail
    go_ret
    exact ⟨rfl, B2.out⟩
  · have hxb : ((i : Int) + 1 == (u : Int)) = false := by simp [hx]
    have hV : r.over i j u t = false := by unfold Rf.over; simp [hx]
    rw [hV]
    clear hx hV
    go_enter Try.func78, Try.ntmps78
    go_wp2_with fail
    refine gen_world fun W0 hW => ?_
    have pB := Lib.hid (show Below w.heap.size w W0 by rw [hW]; exact ((Below.refl _ _).alloc (Nat.le_refl _) _).alloc (by simp) _)
    have PX := Lib.hid (show rowAt W0 w.heap.size = some #[.int .i8 i, .int .i8 j] by rw [hW]; exact (rowAt_alloc_past _ _ _ (by simp)).trans (rowAt_alloc_at _ _ _ _ rfl))
    have PY := Lib.hid (show rowAt W0 (w.heap.size + 1) = some #[.int .i8 u, .int .i8 t] by rw [hW]; exact rowAt_alloc_at _ _ _ _ (by simp))
    clear hW hr
    refine wp_region_held_drew (S := fun w' => Below W0.heap.size W0 w') (by kernel_rfl) ((Below.refl _ _).drew) (fun hH => ?_)
    refine wpAnyH_take (i := 0) (v := .pointer (some ⟨w.heap.size, 0, none⟩)) rfl (by kernel_rfl) (by kernel_rfl) (by kernel_rfl) (fun _ _ _ h => h) (Or.inl ⟨by rfl, ?_⟩) hH ?_
    · intro w1 hS; (try dsimp only at hS); go_simp
    (try simp only [List.getElem_toArray]); (try simp only [List.getElem_cons_succ]); (try simp only [List.getElem_cons_zero]); (try simp only [Act.put]); (try simp only [List.setIfInBounds_toArray]); (try simp only [List.set_cons_succ]); (try simp only [List.set_cons_zero])
    refine wpAnyH_take (i := 1) (v := .int .i8 i) rfl (by kernel_rfl) (by kernel_rfl) (by kernel_rfl) (fun _ _ _ h => h) (Or.inl ⟨by rfl, ?_⟩) hH ?_
    · intro w1 hS; (try dsimp only at hS); have x0 := cell_of_rowAt (brow hS PX.out) 0; have x1 := cell_of_rowAt (brow hS PX.out) 1; have y0 := cell_of_rowAt (brow hS PY.out) 0; have y1 := cell_of_rowAt (brow hS PY.out) 1; go_simp
    (try simp only [List.getElem_toArray]); (try simp only [List.getElem_cons_succ]); (try simp only [List.getElem_cons_zero]); (try simp only [Act.put]); (try simp only [List.setIfInBounds_toArray]); (try simp only [List.set_cons_succ]); (try simp only [List.set_cons_zero])
    refine wpAnyH_take (i := 2) (v := .int .i8 ((i : Int) + 1)) rfl (by kernel_rfl) (by kernel_rfl) (by kernel_rfl) (fun _ _ _ h => h) (Or.inl ⟨by rfl, ?_⟩) hH ?_
    · intro w1 hS; (try dsimp only at hS); go_simp
    (try simp only [List.getElem_toArray]); (try simp only [List.getElem_cons_succ]); (try simp only [List.getElem_cons_zero]); (try simp only [Act.put]); (try simp only [List.setIfInBounds_toArray]); (try simp only [List.set_cons_succ]); (try simp only [List.set_cons_zero])
    refine wpAnyH_take (i := 3) (v := .pointer (some ⟨w.heap.size + 1, 0, none⟩)) rfl (by kernel_rfl) (by kernel_rfl) (by kernel_rfl) (fun _ _ _ h => h) (Or.inl ⟨by rfl, ?_⟩) hH ?_
    · intro w1 hS; (try dsimp only at hS); go_simp
    (try simp only [List.getElem_toArray]); (try simp only [List.getElem_cons_succ]); (try simp only [List.getElem_cons_zero]); (try simp only [Act.put]); (try simp only [List.setIfInBounds_toArray]); (try simp only [List.set_cons_succ]); (try simp only [List.set_cons_zero])
    refine wpAnyH_take (i := 4) (v := .int .i8 u) rfl (by kernel_rfl) (by kernel_rfl) (by kernel_rfl) (fun _ _ _ h => h) (Or.inl ⟨by rfl, ?_⟩) hH ?_
    · intro w1 hS; (try dsimp only at hS); have x0 := cell_of_rowAt (brow hS PX.out) 0; have x1 := cell_of_rowAt (brow hS PX.out) 1; have y0 := cell_of_rowAt (brow hS PY.out) 0; have y1 := cell_of_rowAt (brow hS PY.out) 1; go_simp
    (try simp only [List.getElem_toArray]); (try simp only [List.getElem_cons_succ]); (try simp only [List.getElem_cons_zero]); (try simp only [Act.put]); (try simp only [List.setIfInBounds_toArray]); (try simp only [List.set_cons_succ]); (try simp only [List.set_cons_zero])
    refine wpAnyH_take (i := 5) (v := .bool false) rfl (by kernel_rfl) (by kernel_rfl) (by kernel_rfl) (fun _ _ _ h => h) (Or.inl ⟨by rfl, ?_⟩) hH ?_
    · intro w1 hS; (try dsimp only at hS); go_simp
    (try simp only [List.getElem_toArray]); (try simp only [List.getElem_cons_succ]); (try simp only [List.getElem_cons_zero]); (try simp only [Act.put]); (try simp only [List.setIfInBounds_toArray]); (try simp only [List.set_cons_succ]); (try simp only [List.set_cons_zero])
    refine wpAnyH_take (i := 6) (v := .bool false) rfl (by kernel_rfl) (by kernel_rfl) (by kernel_rfl) (fun _ _ _ h => h) (Or.inl ⟨by rfl, ?_⟩) hH ?_
    · intro w1 hS; (try dsimp only at hS); go_simp
    (try simp only [List.getElem_toArray]); (try simp only [List.getElem_cons_succ]); (try simp only [List.getElem_cons_zero]); (try simp only [Act.put]); (try simp only [List.setIfInBounds_toArray]); (try simp only [List.set_cons_succ]); (try simp only [List.set_cons_zero])
    refine wpAnyH_take (i := 7) (v := undef) rfl (by kernel_rfl) (by kernel_rfl) (by kernel_rfl) (fun _ _ _ h => h) (Or.inr ⟨by rfl, rfl⟩) hH ?_
    (try simp only [List.getElem_toArray]); (try simp only [List.getElem_cons_succ]); (try simp only [List.getElem_cons_zero]); (try simp only [Act.put]); (try simp only [List.setIfInBounds_toArray]); (try simp only [List.set_cons_succ]); (try simp only [List.set_cons_zero])
    refine wpAnyH_take (i := 8) (v := undef) rfl (by kernel_rfl) (by kernel_rfl) (by kernel_rfl) (fun _ _ _ h => h) (Or.inr ⟨by rfl, rfl⟩) hH ?_
    (try simp only [List.getElem_toArray]); (try simp only [List.getElem_cons_succ]); (try simp only [List.getElem_cons_zero]); (try simp only [Act.put]); (try simp only [List.setIfInBounds_toArray]); (try simp only [List.set_cons_succ]); (try simp only [List.set_cons_zero])
    refine wpAnyH_take (i := 9) (v := undef) rfl (by kernel_rfl) (by kernel_rfl) (by kernel_rfl) (fun _ _ _ h => h) (Or.inr ⟨by rfl, rfl⟩) hH ?_
    (try simp only [List.getElem_toArray]); (try simp only [List.getElem_cons_succ]); (try simp only [List.getElem_cons_zero]); (try simp only [Act.put]); (try simp only [List.setIfInBounds_toArray]); (try simp only [List.set_cons_succ]); (try simp only [List.set_cons_zero])
    refine wpAnyH_take (i := 10) (v := undef) rfl (by kernel_rfl) (by kernel_rfl) (by kernel_rfl) (fun _ _ _ h => h) (Or.inr ⟨by rfl, rfl⟩) hH ?_
    (try simp only [List.getElem_toArray]); (try simp only [List.getElem_cons_succ]); (try simp only [List.getElem_cons_zero]); (try simp only [Act.put]); (try simp only [List.setIfInBounds_toArray]); (try simp only [List.set_cons_succ]); (try simp only [List.set_cons_zero])
    refine wpAnyH_take (i := 11) (v := undef) rfl (by kernel_rfl) (by kernel_rfl) (by kernel_rfl) (fun _ _ _ h => h) (Or.inr ⟨by rfl, rfl⟩) hH ?_
    (try simp only [List.getElem_toArray]); (try simp only [List.getElem_cons_succ]); (try simp only [List.getElem_cons_zero]); (try simp only [Act.put]); (try simp only [List.setIfInBounds_toArray]); (try simp only [List.set_cons_succ]); (try simp only [List.set_cons_zero])
    refine wpAnyH_take (i := 12) (v := undef) rfl (by kernel_rfl) (by kernel_rfl) (by kernel_rfl) (fun _ _ _ h => h) (Or.inr ⟨by rfl, rfl⟩) hH ?_
    (try simp only [List.getElem_toArray]); (try simp only [List.getElem_cons_succ]); (try simp only [List.getElem_cons_zero]); (try simp only [Act.put]); (try simp only [List.setIfInBounds_toArray]); (try simp only [List.set_cons_succ]); (try simp only [List.set_cons_zero])
    refine wpAnyH_take (i := 13) (v := undef) rfl (by kernel_rfl) (by kernel_rfl) (by kernel_rfl) (fun _ _ _ h => h) (Or.inr ⟨by rfl, rfl⟩) hH ?_
    (try simp only [List.getElem_toArray]); (try simp only [List.getElem_cons_succ]); (try simp only [List.getElem_cons_zero]); (try simp only [Act.put]); (try simp only [List.setIfInBounds_toArray]); (try simp only [List.set_cons_succ]); (try simp only [List.set_cons_zero])
    refine wpAnyH_take (i := 14) (v := undef) rfl (by kernel_rfl) (by kernel_rfl) (by kernel_rfl) (fun _ _ _ h => h) (Or.inr ⟨by rfl, rfl⟩) hH ?_
    (try simp only [List.getElem_toArray]); (try simp only [List.getElem_cons_succ]); (try simp only [List.getElem_cons_zero]); (try simp only [Act.put]); (try simp only [List.setIfInBounds_toArray]); (try simp only [List.set_cons_succ]); (try simp only [List.set_cons_zero])
    refine wpAnyH_take (i := 15) (v := .bool false) rfl (by kernel_rfl) (by kernel_rfl) (by kernel_rfl) (fun _ _ _ h => h) (Or.inl ⟨by rfl, ?_⟩) hH ?_
    · intro w1 hS; (try dsimp only at hS); go_simp
    (try simp only [List.getElem_toArray]); (try simp only [List.getElem_cons_succ]); (try simp only [List.getElem_cons_zero]); (try simp only [Act.put]); (try simp only [List.setIfInBounds_toArray]); (try simp only [List.set_cons_succ]); (try simp only [List.set_cons_zero])
    refine wpAnyH_take (i := 16) (v := .bool false) rfl (by kernel_rfl) (by kernel_rfl) (by kernel_rfl) (fun _ _ _ h => h) (Or.inl ⟨by rfl, ?_⟩) hH ?_
    · intro w1 hS; (try dsimp only at hS); go_simp
    (try simp only [List.getElem_toArray]); (try simp only [List.getElem_cons_succ]); (try simp only [List.getElem_cons_zero]); (try simp only [Act.put]); (try simp only [List.setIfInBounds_toArray]); (try simp only [List.set_cons_succ]); (try simp only [List.set_cons_zero])
    refine wpAnyH_done (by kernel_rfl) ?_ _
    have B2 := Lib.hid (bnext pB.out hH pB.out.size)
    clear hH
    go_wp2_with fail
    go_ret
    exact ⟨rfl, B2.out⟩

noncomputable def Rf.upV (r : Rf) (f : Nat → Int) (n : Nat) : Bool := if r.liftC f n = 0 then r.upB f n else false

set_option maxRecDepth 100000 in
set_option maxHeartbeats 2000000 in
theorem specIsUpward_any (c : Array Value) (r : Rf) (B n : Nat) (f : Nat → Int) (u : Option Addr) (w : World) (hR : IsRoof c r)
    (hv : IsList w B (.slice u n n) 2 n (fun i => .int .i8 (f i))) (hn : n ≤ 2000000) (hf : ∀ i, i < n * 2 → -128 ≤ f i ∧ f i ≤ 127) :
    Calls Try.prog 38 #[.agg c, .slice u n n] w fun e w' => e = .returned (.tuple #[.bool (r.upV f n), .int .i64 (r.liftC f n)]) ∧ Below w.heap.size w w' := by
  have PB := Lib.hid (show Below w.heap.size w (w.alloc (.cells c 30)) from (Below.refl _ _).alloc (Nat.le_refl _) _)
  have P0 := Lib.hid (rowAt_alloc_at w c 30 w.heap.size rfl)
  have HV := Lib.hid (hv.below PB.out (Nat.le_refl _))
  have CO := fun W h H => l04Once_any w.heap.size B n c r f u true W h hR H hn hf
  rw [show r.ocode f n true = r.liftC f n from rfl] at CO
  clear hv
  by_cases hk : r.liftC f n = 0
  · have hb : (r.liftC f n != 0) = false := by simp [hk]
    obtain ⟨ho, _, hp, _, _⟩ := Rf.ocode_zero hk
    have HC : Hid (r.upV f n = r.upB f n) := Lib.hid (if_pos hk)
    have HK := Lib.hid hk
    have HP := Lib.hid hp
    clear hk hp
    go_enter Try.func38, Try.ntmps38
    go_wp2_with fail
    refine (CO _ P0.out HV.out).mono ?_
    rintro e w1 ⟨rfl, b1⟩
    have B1 := Lib.hid (bnext PB.out b1 PB.out.size)
    have P1 := Lib.hid (brow b1 P0.out)
    have HV1 := Lib.hid (HV.out.below b1 (Nat.le_refl _))
    clear b1 CO
    go_wp2_with fail
    go_loopw [7] (fun x W => ∃ m : Nat, m ≤ n ∧ x = .int .i64 m ∧ Hid (∀ q, q < m → r.down f q = false) ∧ Below w1.heap.size w1 W) (fun x _ => n - (intOf x).toNat)
    case atStart => exact ⟨0, by omega, rfl, Lib.hid (by omega), Below.refl _ _⟩
    case round =>
      obtain ⟨m, hm, rfl, hF, hB⟩ := hrel
      obtain ⟨wo, rfl⟩ : ∃ wo : World, wo = wr := ⟨_, rfl⟩
      have HB0 := Lib.hid hB
      clear hB
      by_cases hlt : m < n
      · have hm0 : 0 ≤ (m : Int) := by omega
        have hm1 : (m : Int) < n := by omega
        go_wp2_with fail
        go_loopw [8] (fun x W => ∃ k : Nat, k ≤ m ∧ x = .int .i64 k ∧ Hid (∀ q, q < k → r.over (f (q * 2)) (f (q * 2 + 1)) (f (m * 2)) (f (m * 2 + 1)) = false) ∧ Below w1.heap.size w1 W) (fun x _ => m - (intOf x).toNat)
        case atStart => exact ⟨0, by omega, rfl, Lib.hid (by omega), HB0.out⟩
        case round =>
          obtain ⟨k, hk, rfl, hG, hB⟩ := hrel
          have HB := Lib.hid hB
          clear hB
          by_cases hkm : k < m
          · obtain ⟨gg, rfl, c0, c1⟩ := (HV1.out.below HB.out (Nat.le_refl _)).pl (k := k) (by omega)
            obtain ⟨g2, eg, k0, k1⟩ := (HV1.out.below HB.out (Nat.le_refl _)).pl hlt
            cases eg
            obtain ⟨i, j, e0, e1, i8, j8, _, _, _, _⟩ := Rf.inP_nat ho (HP.out k (by omega))
            obtain ⟨i2, j2, e2, e3, i28, j28, _, _, _, _⟩ := Rf.inP_nat ho (HP.out m hlt)
            rw [e0] at c0
            rw [e1] at c1
            rw [e2] at k0
            rw [e3] at k1
            have hk0 : 0 ≤ (k : Int) := by omega
            have hk1 : (k : Int) < m := by omega
            have hk2 : (k : Int) < n := by omega
            have HO : Hid (r.over (f (k * 2)) (f (k * 2 + 1)) (f (m * 2)) (f (m * 2 + 1)) = r.over i j i2 j2) := Lib.hid (by rw [e0, e1, e2, e3])
            have CO := fun W h => l04Over_any w.heap.size c r i j i2 j2 W h hR i8 j8 i28 j28
            clear e0 e1 e2 e3
            cases hx : r.over i j i2 j2 with
            | true =>
              rw [hx] at CO
              have HX : Hid (r.down f m = true) := Lib.hid (anyI_t hkm (HO.out.trans hx))
              clear hx
              go_wp2_with fail
              refine wp_region_held_drew (S := fun w' => Below wr.heap.size wr w') (by kernel_rfl) ((Below.refl _ _).drew) (fun hH => ?_)
              refine wpAnyH_take (i := 0) (v := .slice (some ⟨gg, 0, none⟩) n n) rfl (by kernel_rfl) (by kernel_rfl) (by kernel_rfl) (fun _ _ _ h => h) (Or.inl ⟨by rfl, ?_⟩) hH ?_
              · intro w1 hS; (try dsimp only at hS); go_simp
              (try simp only [List.getElem_toArray]); (try simp only [List.getElem_cons_succ]); (try simp only [List.getElem_cons_zero]); (try simp only [Act.put]); (try simp only [List.setIfInBounds_toArray]); (try simp only [List.set_cons_succ]); (try simp only [List.set_cons_zero])
              refine wpAnyH_take (i := 1) (v := .int .i64 k) rfl (by kernel_rfl) (by kernel_rfl) (by kernel_rfl) (fun _ _ _ h => h) (Or.inl ⟨by rfl, ?_⟩) hH ?_
              · intro w1 hS; (try dsimp only at hS); go_simp
              (try simp only [List.getElem_toArray]); (try simp only [List.getElem_cons_succ]); (try simp only [List.getElem_cons_zero]); (try simp only [Act.put]); (try simp only [List.setIfInBounds_toArray]); (try simp only [List.set_cons_succ]); (try simp only [List.set_cons_zero])
              refine wpAnyH_take (i := 2) (v := .pointer (some ⟨gg, k * 2, none⟩)) rfl (by kernel_rfl) (by kernel_rfl) (by kernel_rfl) (fun _ _ _ h => h) (Or.inl ⟨by rfl, ?_⟩) hH ?_
              · intro w1 hS; (try dsimp only at hS); go_simp
              (try simp only [List.getElem_toArray]); (try simp only [List.getElem_cons_succ]); (try simp only [List.getElem_cons_zero]); (try simp only [Act.put]); (try simp only [List.setIfInBounds_toArray]); (try simp only [List.set_cons_succ]); (try simp only [List.set_cons_zero])
              refine wpAnyH_take (i := 3) (v := .agg #[.int .i8 i, .int .i8 j]) rfl (by kernel_rfl) (by kernel_rfl) (by kernel_rfl) (fun _ _ _ h => h) (Or.inl ⟨by rfl, ?_⟩) hH ?_
              · intro w1 hS; (try dsimp only at hS); have d0 := (hS.cell (p := ⟨gg, k * 2, none⟩) (lt_of_cellA c0)).trans c0; have d1 := (hS.cell (p := ⟨gg, k * 2 + 1, none⟩) (lt_of_cellA c1)).trans c1; go_simp
              (try simp only [List.getElem_toArray]); (try simp only [List.getElem_cons_succ]); (try simp only [List.getElem_cons_zero]); (try simp only [Act.put]); (try simp only [List.setIfInBounds_toArray]); (try simp only [List.set_cons_succ]); (try simp only [List.set_cons_zero])
              refine wpAnyH_take (i := 4) (v := .slice (some ⟨gg, 0, none⟩) n n) rfl (by kernel_rfl) (by kernel_rfl) (by kernel_rfl) (fun _ _ _ h => h) (Or.inl ⟨by rfl, ?_⟩) hH ?_
              · intro w1 hS; (try dsimp only at hS); go_simp
              (try simp only [List.getElem_toArray]); (try simp only [List.getElem_cons_succ]); (try simp only [List.getElem_cons_zero]); (try simp only [Act.put]); (try simp only [List.setIfInBounds_toArray]); (try simp only [List.set_cons_succ]); (try simp only [List.set_cons_zero])
              refine wpAnyH_take (i := 5) (v := .int .i64 m) rfl (by kernel_rfl) (by kernel_rfl) (by kernel_rfl) (fun _ _ _ h => h) (Or.inl ⟨by rfl, ?_⟩) hH ?_
              · intro w1 hS; (try dsimp only at hS); go_simp
              (try simp only [List.getElem_toArray]); (try simp only [List.getElem_cons_succ]); (try simp only [List.getElem_cons_zero]); (try simp only [Act.put]); (try simp only [List.setIfInBounds_toArray]); (try simp only [List.set_cons_succ]); (try simp only [List.set_cons_zero])
              refine wpAnyH_take (i := 6) (v := .pointer (some ⟨gg, m * 2, none⟩)) rfl (by kernel_rfl) (by kernel_rfl) (by kernel_rfl) (fun _ _ _ h => h) (Or.inl ⟨by rfl, ?_⟩) hH ?_
              · intro w1 hS; (try dsimp only at hS); go_simp
              (try simp only [List.getElem_toArray]); (try simp only [List.getElem_cons_succ]); (try simp only [List.getElem_cons_zero]); (try simp only [Act.put]); (try simp only [List.setIfInBounds_toArray]); (try simp only [List.set_cons_succ]); (try simp only [List.set_cons_zero])
              refine wpAnyH_take (i := 7) (v := .agg #[.int .i8 i2, .int .i8 j2]) rfl (by kernel_rfl) (by kernel_rfl) (by kernel_rfl) (fun _ _ _ h => h) (Or.inl ⟨by rfl, ?_⟩) hH ?_
              · intro w1 hS; (try dsimp only at hS); have d0 := (hS.cell (p := ⟨gg, m * 2, none⟩) (lt_of_cellA k0)).trans k0; have d1 := (hS.cell (p := ⟨gg, m * 2 + 1, none⟩) (lt_of_cellA k1)).trans k1; go_simp
              (try simp only [List.getElem_toArray]); (try simp only [List.getElem_cons_succ]); (try simp only [List.getElem_cons_zero]); (try simp only [Act.put]); (try simp only [List.setIfInBounds_toArray]); (try simp only [List.set_cons_succ]); (try simp only [List.set_cons_zero])
              refine wpAnyH_ready (rs := [8]) (by kernel_rfl) (by simp) (AllReadyH.cons rfl (fun K hK => ?_) AllReadyH.nil)
              go_simp
              refine (CO _ (brow hH (brow HB.out P1.out))).mono ?_
              rintro x wx ⟨rfl, bx⟩
              go_simp
              refine hK.out _ _ (bnext hH bx hH.size) (fun hG => ?_)
              clear hK K hH bx
              replace hH := hG
              clear hG
              (try simp only [List.getElem_toArray]); (try simp only [List.getElem_cons_succ]); (try simp only [List.getElem_cons_zero]); (try simp only [Act.put]); (try simp only [List.setIfInBounds_toArray]); (try simp only [List.set_cons_succ]); (try simp only [List.set_cons_zero])
              refine wpAnyH_done (by kernel_rfl) ?_ _
              have B2 := Lib.hid (bnext HB.out hH HB.out.size)
              clear hH c0 c1 k0 k1
              go_wp2_with fail
              go_ret2
              have hU : r.upB f n = false := by unfold Rf.upB; rw [anyI_t hlt HX.out]; rfl
              exact ⟨by rw [HC.out, HK.out, hU]; rfl, B1.out.trans (B2.out.mono B1.out.size)⟩
            | false =>
              rw [hx] at CO
              have HX : Hid (r.over (f (k * 2)) (f (k * 2 + 1)) (f (m * 2)) (f (m * 2 + 1)) = false) := Lib.hid (HO.out.trans hx)
              clear hx
              go_wp2_with fail
              refine wp_region_held_drew (S := fun w' => Below wr.heap.size wr w') (by kernel_rfl) ((Below.refl _ _).drew) (fun hH => ?_)
              refine wpAnyH_take (i := 0) (v := .slice (some ⟨gg, 0, none⟩) n n) rfl (by kernel_rfl) (by kernel_rfl) (by kernel_rfl) (fun _ _ _ h => h) (Or.inl ⟨by rfl, ?_⟩) hH ?_
              · intro w1 hS; (try dsimp only at hS); go_simp
              (try simp only [List.getElem_toArray]); (try simp only [List.getElem_cons_succ]); (try simp only [List.getElem_cons_zero]); (try simp only [Act.put]); (try simp only [List.setIfInBounds_toArray]); (try simp only [List.set_cons_succ]); (try simp only [List.set_cons_zero])
              refine wpAnyH_take (i := 1) (v := .int .i64 k) rfl (by kernel_rfl) (by kernel_rfl) (by kernel_rfl) (fun _ _ _ h => h) (Or.inl ⟨by rfl, ?_⟩) hH ?_
              · intro w1 hS; (try dsimp only at hS); go_simp
              (try simp only [List.getElem_toArray]); (try simp only [List.getElem_cons_succ]); (try simp only [List.getElem_cons_zero]); (try simp only [Act.put]); (try simp only [List.setIfInBounds_toArray]); (try simp only [List.set_cons_succ]); (try simp only [List.set_cons_zero])
              refine wpAnyH_take (i := 2) (v := .pointer (some ⟨gg, k * 2, none⟩)) rfl (by kernel_rfl) (by kernel_rfl) (by kernel_rfl) (fun _ _ _ h => h) (Or.inl ⟨by rfl, ?_⟩) hH ?_
              · intro w1 hS; (try dsimp only at hS); go_simp
              (try simp only [List.getElem_toArray]); (try simp only [List.getElem_cons_succ]); (try simp only [List.getElem_cons_zero]); (try simp only [Act.put]); (try simp only [List.setIfInBounds_toArray]); (try simp only [List.set_cons_succ]); (try simp only [List.set_cons_zero])
              refine wpAnyH_take (i := 3) (v := .agg #[.int .i8 i, .int .i8 j]) rfl (by kernel_rfl) (by kernel_rfl) (by kernel_rfl) (fun _ _ _ h => h) (Or.inl ⟨by rfl, ?_⟩) hH ?_
              · intro w1 hS; (try dsimp only at hS); have d0 := (hS.cell (p := ⟨gg, k * 2, none⟩) (lt_of_cellA c0)).trans c0; have d1 := (hS.cell (p := ⟨gg, k * 2 + 1, none⟩) (lt_of_cellA c1)).trans c1; go_simp
              (try simp only [List.getElem_toArray]); (try simp only [List.getElem_cons_succ]); (try simp only [List.getElem_cons_zero]); (try simp only [Act.put]); (try simp only [List.setIfInBounds_toArray]); (try simp only [List.set_cons_succ]); (try simp only [List.set_cons_zero])
              refine wpAnyH_take (i := 4) (v := .slice (some ⟨gg, 0, none⟩) n n) rfl (by kernel_rfl) (by kernel_rfl) (by kernel_rfl) (fun _ _ _ h => h) (Or.inl ⟨by rfl, ?_⟩) hH ?_
              · intro w1 hS; (try dsimp only at hS); go_simp
              (try simp only [List.getElem_toArray]); (try simp only [List.getElem_cons_succ]); (try simp only [List.getElem_cons_zero]); (try simp only [Act.put]); (try simp only [List.setIfInBounds_toArray]); (try simp only [List.set_cons_succ]); (try simp only [List.set_cons_zero])
              refine wpAnyH_take (i := 5) (v := .int .i64 m) rfl (by kernel_rfl) (by kernel_rfl) (by kernel_rfl) (fun _ _ _ h => h) (Or.inl ⟨by rfl, ?_⟩) hH ?_
              · intro w1 hS; (try dsimp only at hS); go_simp
              (try simp only [List.getElem_toArray]); (try simp only [List.getElem_cons_succ]); (try simp only [List.getElem_cons_zero]); (try simp only [Act.put]); (try simp only [List.setIfInBounds_toArray]); (try simp only [List.set_cons_succ]); (try simp only [List.set_cons_zero])
              refine wpAnyH_take (i := 6) (v := .pointer (some ⟨gg, m * 2, none⟩)) rfl (by kernel_rfl) (by kernel_rfl) (by kernel_rfl) (fun _ _ _ h => h) (Or.inl ⟨by rfl, ?_⟩) hH ?_
              · intro w1 hS; (try dsimp only at hS); go_simp
              (try simp only [List.getElem_toArray]); (try simp only [List.getElem_cons_succ]); (try simp only [List.getElem_cons_zero]); (try simp only [Act.put]); (try simp only [List.setIfInBounds_toArray]); (try simp only [List.set_cons_succ]); (try simp only [List.set_cons_zero])
              refine wpAnyH_take (i := 7) (v := .agg #[.int .i8 i2, .int .i8 j2]) rfl (by kernel_rfl) (by kernel_rfl) (by kernel_rfl) (fun _ _ _ h => h) (Or.inl ⟨by rfl, ?_⟩) hH ?_
              · intro w1 hS; (try dsimp only at hS); have d0 := (hS.cell (p := ⟨gg, m * 2, none⟩) (lt_of_cellA k0)).trans k0; have d1 := (hS.cell (p := ⟨gg, m * 2 + 1, none⟩) (lt_of_cellA k1)).trans k1; go_simp
              (try simp only [List.getElem_toArray]); (try simp only [List.getElem_cons_succ]); (try simp only [List.getElem_cons_zero]); (try simp only [Act.put]); (try simp only [List.setIfInBounds_toArray]); (try simp only [List.set_cons_succ]); (try simp only [List.set_cons_zero])
              refine wpAnyH_ready (rs := [8]) (by kernel_rfl) (by simp) (AllReadyH.cons rfl (fun K hK => ?_) AllReadyH.nil)
              go_simp
              refine (CO _ (brow hH (brow HB.out P1.out))).mono ?_
              rintro x wx ⟨rfl, bx⟩
              go_simp
              refine hK.out _ _ (bnext hH bx hH.size) (fun hG => ?_)
              clear hK K hH bx
              replace hH := hG
              clear hG
              (try simp only [List.getElem_toArray]); (try simp only [List.getElem_cons_succ]); (try simp only [List.getElem_cons_zero]); (try simp only [Act.put]); (try simp only [List.setIfInBounds_toArray]); (try simp only [List.set_cons_succ]); (try simp only [List.set_cons_zero])
              refine wpAnyH_done (by kernel_rfl) ?_ _
              have B2 := Lib.hid (bnext HB.out hH HB.out.size)
              clear hH c0 c1 k0 k1
              go_wp2_with fail
              refine ⟨⟨k + 1, by omega, by go_num, Lib.hid (fun q hq => ?_), B2.out⟩, by simp [intOf]; omega⟩
              by_cases e : q = k
              · subst e; exact HX.out
              · exact hG.out q (by omega)
          · obtain rfl : k = m := by omega
            have HX : Hid (r.down f k = false) := Lib.hid (anyI_f.2 hG.out)
            go_wp2_with fail
            refine ⟨⟨k + 1, by omega, by go_num, Lib.hid (fun q hq => ?_), HB.out⟩, by simp [intOf]; omega⟩
            by_cases e : q = k
            · subst e; exact HX.out
            · exact hF.out q (by omega)
      · obtain rfl : m = n := by omega
        have hU : Hid (r.upB f m = true) := Lib.hid (by unfold Rf.upB; rw [anyI_f.2 hF.out]; rfl)
        go_wp2_with fail
        go_ret2
        exact ⟨by rw [HC.out, HK.out, hU.out]; rfl, B1.out.trans (HB0.out.mono B1.out.size)⟩
  · have hb : (r.liftC f n != 0) = true := by simp [hk]
    have HC : Hid (r.upV f n = false) := Lib.hid (if_neg hk)
    clear hk
    go_enter Try.func38, Try.ntmps38
    go_wp2_with fail
    refine (CO _ P0.out HV.out).mono ?_
    rintro e w1 ⟨rfl, b1⟩
    have B1 := Lib.hid (bnext PB.out b1 PB.out.size)
    clear b1 CO
    go_wp2_with fail
    go_ret2
    exact ⟨by rw [HC.out]; rfl, B1.out⟩
end Go.Proofs.Ytkimngffbioeeaa
