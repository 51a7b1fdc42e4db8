/- StackRoofs: the program's side. -/
import Derived.Test.YtnhoclplledlfaaStackA
import Derived.Deep.RegionHeld3
import Derived.StillTailTactics
namespace Go.Proofs.Ytnhoclplledlfaa
open Go.RowKit

/-- Q at the region's end alone. -/
def OnlyN2 (Q : Exit → Act → World → Prop) : Exit → Act → World → Prop
  | .normal, a, w => Q .normal a w
  | _, _, _ => False
theorem onlyN_out2 {Q : Exit → Act → World → Prop} : ∀ e a w, OnlyN2 Q e a w → Q e a w
  | .normal, _, _, h => h
  | .exit _, _, _, h => h.elim
  | .goto _, _, _, h => h.elim
  | .ret, _, _, h => h.elim
  | .panic _, _, _, h => h.elim

set_option maxRecDepth 100000 in
set_option maxHeartbeats 4000000 in
theorem implStack_go (c e F : Array Value) (r q : Rf) (h k : Nat) (w : World) (hR : IsRoof c r) (hQ : IsRoof e q) (ho : r.Ok) (hp : q.Ok) (hw : r.w = q.w) (hb : r.by r.h = q.by 0) (hh : r.h = h) (hhk : q.h = k) (hk : h + k ≤ 8) (hF : stkF c e h k = F) :
    Calls Try.prog 12 #[.agg c, .agg e] w fun x w' => x = .returned (.tuple #[.agg F, .int .i64 0]) ∧ Below w.heap.size w w' := by
  have hc := hR.size
  have he := hQ.size
  have hzs := zroof_size
  have hzo := zroof_ones
  obtain ⟨p0, p1, p2, pB⟩ := three_boxes w c e Try.zeroCells27 27 27
  have fo := (stkF_is hR hQ (h := h) (k := k) hk).ones
  have fs := (stkF_is hR hQ (h := h) (k := k) hk).size
  rw [hF] at fo fs
  obtain ⟨ao, as'⟩ := stkA_ones hR hQ (h := h) (k := k) hk
  have g0 : c[0]? = some (.int .i8 r.w) := by rw [Array.getElem?_eq_getElem (by omega), hR.wide (by omega)]
  have g1 : c[1]? = some (.int .i8 h) := by rw [Array.getElem?_eq_getElem (by omega), hR.high (by omega), hh]
  have g2 : e[0]? = some (.int .i8 q.w) := by rw [Array.getElem?_eq_getElem (by omega), hQ.wide (by omega)]
  have g3 : e[1]? = some (.int .i8 k) := by rw [Array.getElem?_eq_getElem (by omega), hQ.high (by omega), hhk]
  have a1 : (stkA c e h k)[1]? = some (.int .i8 h) := by
    have hi := stkA_is hR hQ (h := h) (k := k) hk
    rw [Array.getElem?_eq_getElem (by omega), hi.high (by omega)]
    show some (Value.int .i8 r.h) = _
    rw [hh]
  have k1 : 1 ≤ k := by have := hp.2.2.1; omega
  have sw : (r.w != q.w) = false := by simp [hw]
  have sb : ((r.by h == 1) != (q.by 0 == 1)) = false := by rw [← hh, hb]; simp
  have e1 : IntKind.i8.wrap ((h : Int) + (k : Int)) = (h : Int) + (k : Int) := IntWalk.i8_in _ (by omega)
  have e2 : IntKind.i64.wrap (h : Int) = (h : Int) := IntWalk.i64_in _ (by omega)
  have d1 : decide ((8 : Int) < (h : Int) + (k : Int)) = false := by simp; omega
  have C1 := fun W => shifted_any c r h W hR (by omega)
  have C2 := fun W => shifted_any e q 0 W hQ (by omega)
  generalize (r.by h == 1) = x1 at *
  generalize (q.by 0 == 1) = x2 at *
  go_enter Try.func12, Try.ntmps12
  go_wp2_with fail
  refine (implValid_t c r _ hR ho).mono ?_
  rintro x w1 ⟨rfl, b1⟩
  have q0 := brow b1 p0
  have q1 := brow b1 p1
  have q2 := brow b1 p2
  have B1 := bnext pB b1 pB.size
  clear b1 p0 p1 p2 pB
  go_wp2_with fail
  refine (implValid_t e q _ hQ hp).mono ?_
  rintro x w2 ⟨rfl, b2⟩
  have p0 := brow b2 q0
  have p1 := brow b2 q1
  have p2 := brow b2 q2
  have B2 := bnext B1 b2 B1.size
  clear b2 q0 q1 q2 B1
  go_wp2_with fail
  refine Code.wp_mono onlyN_out2 ?_
  refine wp_region_held_drew (S := (fun w' => (rowAt w' w.heap.size = some c ∧ rowAt w' (w.heap.size + 1) = some e ∧ rowAt w' (w.heap.size + 1 + 1) = some Try.zeroCells27) ∧ Below w.heap.size w w')) (by kernel_rfl) (⟨⟨p0, p1, p2⟩, B2.drew⟩) (fun hH => ?_)
  refine wpAnyH_take (i := 0) (v := ?_) rfl (by kernel_rfl) (by kernel_rfl) (by kernel_rfl) (fun _ _ _ h => h) (Or.inl ⟨by rfl, ?_⟩) hH ?_
  rotate_left 1
  · intro w1 hS; (try dsimp only at hS); obtain ⟨⟨u0, u1, _⟩, _⟩ := hS; have cw := (cell_of_rowAt u0 0).trans g0; have ch := (cell_of_rowAt u0 1).trans g1; have dw := (cell_of_rowAt u1 0).trans g2; have dh := (cell_of_rowAt u1 1).trans g3; go_simp; (try with_reducible rfl)
  (try simp only [List.getElem_toArray]); (try simp only [List.getElem_cons_succ]); (try simp only [List.getElem_cons_zero]); (try simp only [Act.put]); (try simp only [List.setIfInBounds_toArray]); (try simp only [List.set_cons_succ]); (try simp only [List.set_cons_zero])
  refine wpAnyH_take (i := 1) (v := ?_) rfl (by kernel_rfl) (by kernel_rfl) (by kernel_rfl) (fun _ _ _ h => h) (Or.inl ⟨by rfl, ?_⟩) hH ?_
  rotate_left 1
  · intro w1 hS; (try dsimp only at hS); obtain ⟨⟨u0, u1, _⟩, _⟩ := hS; have cw := (cell_of_rowAt u0 0).trans g0; have ch := (cell_of_rowAt u0 1).trans g1; have dw := (cell_of_rowAt u1 0).trans g2; have dh := (cell_of_rowAt u1 1).trans g3; go_simp; (try with_reducible rfl)
  (try simp only [List.getElem_toArray]); (try simp only [List.getElem_cons_succ]); (try simp only [List.getElem_cons_zero]); (try simp only [Act.put]); (try simp only [List.setIfInBounds_toArray]); (try simp only [List.set_cons_succ]); (try simp only [List.set_cons_zero])
  refine wpAnyH_take (i := 2) (v := ?_) rfl (by kernel_rfl) (by kernel_rfl) (by kernel_rfl) (fun _ _ _ h => h) (Or.inl ⟨by rfl, ?_⟩) hH ?_
  rotate_left 1
  · intro w1 hS; (try dsimp only at hS); obtain ⟨⟨u0, u1, _⟩, _⟩ := hS; have cw := (cell_of_rowAt u0 0).trans g0; have ch := (cell_of_rowAt u0 1).trans g1; have dw := (cell_of_rowAt u1 0).trans g2; have dh := (cell_of_rowAt u1 1).trans g3; go_simp; (try with_reducible rfl)
  (try simp only [List.getElem_toArray]); (try simp only [List.getElem_cons_succ]); (try simp only [List.getElem_cons_zero]); (try simp only [Act.put]); (try simp only [List.setIfInBounds_toArray]); (try simp only [List.set_cons_succ]); (try simp only [List.set_cons_zero])
  refine wpAnyH_take (i := 3) (v := ?_) rfl (by kernel_rfl) (by kernel_rfl) (by kernel_rfl) (fun _ _ _ h => h) (Or.inl ⟨by rfl, ?_⟩) hH ?_
  rotate_left 1
  · intro w1 hS; (try dsimp only at hS); obtain ⟨⟨u0, u1, _⟩, _⟩ := hS; have cw := (cell_of_rowAt u0 0).trans g0; have ch := (cell_of_rowAt u0 1).trans g1; have dw := (cell_of_rowAt u1 0).trans g2; have dh := (cell_of_rowAt u1 1).trans g3; go_simp; (try with_reducible rfl)
  (try simp only [List.getElem_toArray]); (try simp only [List.getElem_cons_succ]); (try simp only [List.getElem_cons_zero]); (try simp only [Act.put]); (try simp only [List.setIfInBounds_toArray]); (try simp only [List.set_cons_succ]); (try simp only [List.set_cons_zero])
  refine wpAnyH_take (i := 4) (v := .bool false) rfl (by kernel_rfl) (by kernel_rfl) (by kernel_rfl) (fun _ _ _ h => h) (Or.inl ⟨by rfl, ?_⟩) hH ?_
  · intro w1 hS; (try dsimp only at hS); obtain ⟨⟨u0, u1, _⟩, _⟩ := hS; have cw := (cell_of_rowAt u0 0).trans g0; have ch := (cell_of_rowAt u0 1).trans g1; have dw := (cell_of_rowAt u1 0).trans g2; have dh := (cell_of_rowAt u1 1).trans g3; go_simp
  (try simp only [List.getElem_toArray]); (try simp only [List.getElem_cons_succ]); (try simp only [List.getElem_cons_zero]); (try simp only [Act.put]); (try simp only [List.setIfInBounds_toArray]); (try simp only [List.set_cons_succ]); (try simp only [List.set_cons_zero])
  refine wpAnyH_take (i := 5) (v := .bool false) rfl (by kernel_rfl) (by kernel_rfl) (by kernel_rfl) (fun _ _ _ h => h) (Or.inl ⟨by rfl, ?_⟩) hH ?_
  · intro w1 hS; (try dsimp only at hS); obtain ⟨⟨u0, u1, _⟩, _⟩ := hS; have cw := (cell_of_rowAt u0 0).trans g0; have ch := (cell_of_rowAt u0 1).trans g1; have dw := (cell_of_rowAt u1 0).trans g2; have dh := (cell_of_rowAt u1 1).trans g3; go_simp
  (try simp only [List.getElem_toArray]); (try simp only [List.getElem_cons_succ]); (try simp only [List.getElem_cons_zero]); (try simp only [Act.put]); (try simp only [List.setIfInBounds_toArray]); (try simp only [List.set_cons_succ]); (try simp only [List.set_cons_zero])
  refine wpAnyH_take (i := 6) (v := .agg c) rfl (by kernel_rfl) (by kernel_rfl) (by kernel_rfl) (fun _ _ _ h => h) (Or.inl ⟨by rfl, ?_⟩) hH ?_
  · intro w1 hS; (try dsimp only at hS); obtain ⟨⟨u0, u1, _⟩, _⟩ := hS; have cw := (cell_of_rowAt u0 0).trans g0; have ch := (cell_of_rowAt u0 1).trans g1; have dw := (cell_of_rowAt u1 0).trans g2; have dh := (cell_of_rowAt u1 1).trans g3; go_simp
  (try simp only [List.getElem_toArray]); (try simp only [List.getElem_cons_succ]); (try simp only [List.getElem_cons_zero]); (try simp only [Act.put]); (try simp only [List.setIfInBounds_toArray]); (try simp only [List.set_cons_succ]); (try simp only [List.set_cons_zero])
  refine wpAnyH_take (i := 7) (v := ?_) rfl (by kernel_rfl) (by kernel_rfl) (by kernel_rfl) (fun _ _ _ h => h) (Or.inl ⟨by rfl, ?_⟩) hH ?_
  rotate_left 1
  · intro w1 hS; (try dsimp only at hS); obtain ⟨⟨u0, u1, _⟩, _⟩ := hS; have cw := (cell_of_rowAt u0 0).trans g0; have ch := (cell_of_rowAt u0 1).trans g1; have dw := (cell_of_rowAt u1 0).trans g2; have dh := (cell_of_rowAt u1 1).trans g3; go_simp; (try with_reducible rfl)
  (try simp only [List.getElem_toArray]); (try simp only [List.getElem_cons_succ]); (try simp only [List.getElem_cons_zero]); (try simp only [Act.put]); (try simp only [List.setIfInBounds_toArray]); (try simp only [List.set_cons_succ]); (try simp only [List.set_cons_zero])
  refine wpAnyH_take (i := 8) (v := ?_) rfl (by kernel_rfl) (by kernel_rfl) (by kernel_rfl) (fun _ _ _ h => h) (Or.inl ⟨by rfl, ?_⟩) hH ?_
  rotate_left 1
  · intro w1 hS; (try dsimp only at hS); obtain ⟨⟨u0, u1, _⟩, _⟩ := hS; have cw := (cell_of_rowAt u0 0).trans g0; have ch := (cell_of_rowAt u0 1).trans g1; have dw := (cell_of_rowAt u1 0).trans g2; have dh := (cell_of_rowAt u1 1).trans g3; go_simp; (try with_reducible rfl)
  (try simp only [List.getElem_toArray]); (try simp only [List.getElem_cons_succ]); (try simp only [List.getElem_cons_zero]); (try simp only [Act.put]); (try simp only [List.setIfInBounds_toArray]); (try simp only [List.set_cons_succ]); (try simp only [List.set_cons_zero])
  refine wpAnyH_take (i := 9) (v := ?_) rfl (by kernel_rfl) (by kernel_rfl) (by kernel_rfl) (fun _ _ _ h => h) (Or.inl ⟨by rfl, ?_⟩) hH ?_
  rotate_left 1
  · intro w1 hS; (try dsimp only at hS); obtain ⟨⟨u0, u1, _⟩, _⟩ := hS; have cw := (cell_of_rowAt u0 0).trans g0; have ch := (cell_of_rowAt u0 1).trans g1; have dw := (cell_of_rowAt u1 0).trans g2; have dh := (cell_of_rowAt u1 1).trans g3; go_simp; (try with_reducible rfl)
  (try simp only [List.getElem_toArray]); (try simp only [List.getElem_cons_succ]); (try simp only [List.getElem_cons_zero]); (try simp only [Act.put]); (try simp only [List.setIfInBounds_toArray]); (try simp only [List.set_cons_succ]); (try simp only [List.set_cons_zero])
  refine wpAnyH_take (i := 11) (v := .agg e) rfl (by kernel_rfl) (by kernel_rfl) (by kernel_rfl) (fun _ _ _ h => h) (Or.inl ⟨by rfl, ?_⟩) hH ?_
  · intro w1 hS; (try dsimp only at hS); obtain ⟨⟨u0, u1, _⟩, _⟩ := hS; have cw := (cell_of_rowAt u0 0).trans g0; have ch := (cell_of_rowAt u0 1).trans g1; have dw := (cell_of_rowAt u1 0).trans g2; have dh := (cell_of_rowAt u1 1).trans g3; go_simp
  (try simp only [List.getElem_toArray]); (try simp only [List.getElem_cons_succ]); (try simp only [List.getElem_cons_zero]); (try simp only [Act.put]); (try simp only [List.setIfInBounds_toArray]); (try simp only [List.set_cons_succ]); (try simp only [List.set_cons_zero])
  refine wpAnyH_ready (rs := [10]) (by kernel_rfl) (by simp) (AllReadyH.cons rfl (fun K hK => ?_) AllReadyH.nil)
  go_simp
  refine (C1 _).mono ?_
  rintro x wx ⟨rfl, bx⟩
  go_simp
  refine hK.out _ _ (⟨⟨brow bx hH.1.1, brow bx hH.1.2.1, brow bx hH.1.2.2⟩, bnext hH.2 bx hH.2.size⟩) (fun hG => ?_)
  clear hK K hH bx
  replace hH := hG
  clear hG
  (try simp only [List.getElem_toArray]); (try simp only [List.getElem_cons_succ]); (try simp only [List.getElem_cons_zero]); (try simp only [Act.put]); (try simp only [List.setIfInBounds_toArray]); (try simp only [List.set_cons_succ]); (try simp only [List.set_cons_zero])
  refine wpAnyH_ready (rs := [12]) (by kernel_rfl) (by simp) (AllReadyH.cons rfl (fun K hK => ?_) AllReadyH.nil)
  go_simp
  refine (C2 _).mono ?_
  rintro x wx ⟨rfl, bx⟩
  go_simp
  refine hK.out _ _ (⟨⟨brow bx hH.1.1, brow bx hH.1.2.1, brow bx hH.1.2.2⟩, bnext hH.2 bx hH.2.size⟩) (fun hG => ?_)
  clear hK K hH bx
  replace hH := hG
  clear hG
  (try simp only [List.getElem_toArray]); (try simp only [List.getElem_cons_succ]); (try simp only [List.getElem_cons_zero]); (try simp only [Act.put]); (try simp only [List.setIfInBounds_toArray]); (try simp only [List.set_cons_succ]); (try simp only [List.set_cons_zero])
  refine wpAnyH_take (i := 13) (v := .bool false) rfl (by kernel_rfl) (by kernel_rfl) (by kernel_rfl) (fun _ _ _ h => h) (Or.inl ⟨by rfl, ?_⟩) hH ?_
  · intro w1 hS; (try dsimp only at hS); obtain ⟨⟨u0, u1, _⟩, _⟩ := hS; have cw := (cell_of_rowAt u0 0).trans g0; have ch := (cell_of_rowAt u0 1).trans g1; have dw := (cell_of_rowAt u1 0).trans g2; have dh := (cell_of_rowAt u1 1).trans g3; go_simp; (try (simpa using sb))
  (try simp only [List.getElem_toArray]); (try simp only [List.getElem_cons_succ]); (try simp only [List.getElem_cons_zero]); (try simp only [Act.put]); (try simp only [List.setIfInBounds_toArray]); (try simp only [List.set_cons_succ]); (try simp only [List.set_cons_zero])
  refine wpAnyH_take (i := 14) (v := .bool false) rfl (by kernel_rfl) (by kernel_rfl) (by kernel_rfl) (fun _ _ _ h => h) (Or.inl ⟨by rfl, ?_⟩) hH ?_
  · intro w1 hS; (try dsimp only at hS); obtain ⟨⟨u0, u1, _⟩, _⟩ := hS; have cw := (cell_of_rowAt u0 0).trans g0; have ch := (cell_of_rowAt u0 1).trans g1; have dw := (cell_of_rowAt u1 0).trans g2; have dh := (cell_of_rowAt u1 1).trans g3; go_simp
  (try simp only [List.getElem_toArray]); (try simp only [List.getElem_cons_succ]); (try simp only [List.getElem_cons_zero]); (try simp only [Act.put]); (try simp only [List.setIfInBounds_toArray]); (try simp only [List.set_cons_succ]); (try simp only [List.set_cons_zero])
  refine wpAnyH_done (by kernel_rfl) ?_ _
  dsimp only [OnlyN2]
  obtain ⟨⟨r0, r1, r2⟩, rB⟩ := hH
  clear C1 C2 sb sw e2
  have cw := (cell_of_rowAt r0 0).trans g0
  have ch := (cell_of_rowAt r0 1).trans g1
  have dw := (cell_of_rowAt r1 0).trans g2
  have dh := (cell_of_rowAt r1 1).trans g3
  have n1 : w.heap.size + 1 ≠ w.heap.size := by omega
  have n2 : w.heap.size + 1 + 1 ≠ w.heap.size := by omega
  have eo := hQ.ones
  have hna : ¬ 8 = h := by omega
  have h0 : 0 ≤ (h : Int) := by omega
  have h8 : (h : Int) ≤ 8 := by omega
  have k0 : 0 ≤ (k : Int) := by omega
  have k8 : (k : Int) ≤ 8 := by omega
  have HF := Lib.hid hF
  clear hF hR hQ ho hp hw hb
  go_wp2_with fail
  refine gen_world fun W hW => ?_
  rw [← hW] at r0 r1 r2 rB cw ch dw dh
  clear hW
  have hcp := run_copy_rowsN (P := Try.prog) W.drew 69 69 3 23 w.heap.size (3 + h * 8) (8 - h) (8 - h) (w.heap.size + 1) 3 k 8 k 8 c e Try.underlying69 (by kernel_rfl) r0 r1 (Nat.min_eq_left (by omega)).symm (by omega) (by omega) eo
  rw [show splice c (3 + h * 8) (e.extract 3 (3 + k * 8)) = stkA c e h k from rfl] at hcp
  generalize hE : stkA c e h k = E at *
  have hF : E.setIfInBounds 1 (.int .i8 ((h : Int) + (k : Int))) = F := by rw [← hE]; exact HF.out
  have ae : ∀ hh : 1 < E.size, E[1] = .int .i8 h := fun hh => by
    rw [Array.getElem?_eq_getElem hh] at a1
    exact Option.some.inj a1
  have s0 : rowAt (W.drew.setRow w.heap.size E) w.heap.size = some E := rowAt_setRow_at _ _ _ (Option.isSome_iff_exists.2 ⟨_, r0⟩)
  have s2 : rowAt (W.drew.setRow w.heap.size E) (w.heap.size + 1 + 1) = some Try.zeroCells27 := (rowAt_setRow_ne _ _ _ _ n2).trans r2
  have sB : Below w.heap.size w (W.drew.setRow w.heap.size E) := below_setRow rB.drew (Nat.le_refl _) _
  go_still_tail 8, (by kernel_rfl)
  change wpList _ _ _ _ _ W.drew
  repeat go_step
  go_wp2_with fail
  refine bodyPost_ret (v := .tuple #[.agg F, .int .i64 0]) (results_row2 (m := 67) rfl _ _ (w.heap.size + 1 + 1) _ _ rfl rfl (rowAt_setRow_at _ _ _ (Option.isSome_iff_exists.2 ⟨_, (rowAt_setCell_ne _ _ _ _ _ n2).trans s2⟩)) Try.underlying27 rfl (by kernel_rfl) fs) rfl ⟨rfl, ?_⟩
  exact below_setRow (sB.setCell (p := ⟨w.heap.size, 1, none⟩) (Nat.le_refl _) _) (by omega) _
end Go.Proofs.Ytnhoclplledlfaa
