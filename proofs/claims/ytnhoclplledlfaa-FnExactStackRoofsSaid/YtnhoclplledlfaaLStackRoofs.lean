/- laws.FnExactStackRoofs returns true for every two roofs, and leaves them as they were. No condition. -/
import Derived.Test.YtnhoclplledlfaaHelp
import Derived.Test.YtnhoclplledlfaaStackT
import Derived.Test.YtnhoclplledlfaaBox
import Derived.Test.YtnhoclplledlfaaSame
import Derived.Test.YtnhoclplledlfaaOpen
import Derived.Test.YtnhoclplledlfaaNums
import Derived.Deep.DeepCutAuto
import Derived.Deep.RegionHeld3
namespace Go.Proofs.Ytnhoclplledlfaa
open Go.RowKit

set_option maxRecDepth 100000 in
set_option maxHeartbeats 4000000 in
theorem law_walk_FnExactStackRoofs {c : Array Value} {r : Rf} (hR : IsRoof c r) {d : Array Value} {q : Rf} (hQ : IsRoof d q) (w : World) :
    Calls Try.prog 3 #[.agg c, .agg d] w fun e w' => e = .returned (.bool true) ∧ Below w.heap.size w w' := by
  have hc := hR.size
  have hzs := zroof_size
  have hd := hQ.size
  obtain ⟨qX, hX⟩ := skX_is hR hQ
  have CS := fun w => specStackRoofs_any c d r q w hR hQ
  have CI := fun w => implStackRoofs_any c d r q w hR hQ
  have hne : (r.skC q != r.skC q) = false := by simp
  generalize r.skC q = cd at *
  generalize r.skX q c d = X at *
  have hXs := hX.size
  have hXo := hX.ones
  have CE := fun w => eqRoof_same X _ w hX
  have pb := boxes2 w c d 26 26
  go_enter Try.func3, Try.ntmps3
  go_wp2_with fail
  refine gen_world fun W hW => ?_
  rw [← hW] at pb
  clear hW
  have mk : ∀ (N : Nat) (Y : List (Nat × Array Value)) (W' : World), Boxes N w (Y ++ [(w.heap.size + 1, d), (w.heap.size, c)]) W' → rowAt W' w.heap.size = some c ∧ rowAt W' (w.heap.size + 1) = some d := fun N Y W' h => by
    have r0 := h.rows (w.heap.size, c) (by simp)
    have r1 := h.rows (w.heap.size + 1, d) (by simp)
    exact ⟨r0, r1⟩
  have HM := Lib.hid mk
  clear mk
  have ls := pb.size
  go_cut [5, 6] (fun p q W' => ∃ n N : Nat, p = .pointer (some ⟨n, 0, none⟩) ∧ q = .int .i64 cd ∧ Boxes N w [(n, X), (w.heap.size + 1, d), (w.heap.size, c)] W')
  case first =>
    go_region_held3 (fun w' => (rowAt w' w.heap.size = some c ∧ rowAt w' (w.heap.size + 1) = some d) ∧ Boxes (w.heap.size + 1 + 1) w [(w.heap.size + 1, d), (w.heap.size, c)] w')
      ((refine mkS (HM.out _ [] _) ?_; first | exact pb.drew | exact Boxes.allocA (by assumption) | exact Boxes.callA (by assumption) (by assumption) | exact Boxes.setA (by assumption) (by omega) | exact Boxes.reallocA (by assumption) (by omega)))
      (first | (go_at_call 11; (with_reducible refine (toRoof_any c r _ hR).mono ?_); rintro x wx ⟨rfl, bx⟩; have hy := Boxes.szA (by assumption); have hq := bx.size; (try replace rz := brow bx rz); (try (have rz := brow bx (rowAt_alloc_at _ _ _ _ rfl)))) | (go_at_call 11; (with_reducible refine (toRoof_any d q _ hQ).mono ?_); rintro x wx ⟨rfl, bx⟩; have hy := Boxes.szA (by assumption); have hq := bx.size; (try replace rz := brow bx rz); (try (have rz := brow bx (rowAt_alloc_at _ _ _ _ rfl)))) | (go_at_call 10; (with_reducible refine (CS _).mono ?_); rintro x wx ⟨rfl, bx⟩; have hy := Boxes.szA (by assumption); have hq := bx.size; (try replace rz := brow bx rz); (try (have rz := brow bx (rowAt_alloc_at _ _ _ _ rfl)))))
    all_goals
      go_wp2_with fail
      go_meet
      case rel =>
        first
        | exact ⟨_, _, rfl, rfl, (Boxes.outA (by assumption)).more (rowAt_alloc_at _ _ _ _ rfl)⟩
        | exact ⟨_, _, rfl, rfl, (Boxes.outA (by assumption)).more (rowAt_setRow_at _ _ _ (by rw [rz]; rfl))⟩
  case rest =>
    obtain ⟨n, N, rfl, rfl, pc⟩ := hcut
    clear pb ls
    have ls := pc.size
    go_wp2_with fail
    go_cut [7, 8] (fun p q W' => ∃ m M : Nat, p = .pointer (some ⟨m, 0, none⟩) ∧ q = .int .i64 cd ∧ Boxes M w [(m, X), (n, X), (w.heap.size + 1, d), (w.heap.size, c)] W')
    case first =>
      go_region_held3 (fun w' => (rowAt w' w.heap.size = some c ∧ rowAt w' (w.heap.size + 1) = some d) ∧ Boxes N w [(n, X), (w.heap.size + 1, d), (w.heap.size, c)] w')
        ((refine mkS (HM.out _ [(n, X)] _) ?_; first | exact pc.drew | exact Boxes.allocA (by assumption) | exact Boxes.callA (by assumption) (by assumption) | exact Boxes.setA (by assumption) (by omega) | exact Boxes.reallocA (by assumption) (by omega)))
        (first | (go_at_call 11; (with_reducible refine (toRoof_any c r _ hR).mono ?_); rintro x wx ⟨rfl, bx⟩; have hy := Boxes.szA (by assumption); have hq := bx.size; (try replace rz := brow bx rz); (try (have rz := brow bx (rowAt_alloc_at _ _ _ _ rfl)))) | (go_at_call 11; (with_reducible refine (toRoof_any d q _ hQ).mono ?_); rintro x wx ⟨rfl, bx⟩; have hy := Boxes.szA (by assumption); have hq := bx.size; (try replace rz := brow bx rz); (try (have rz := brow bx (rowAt_alloc_at _ _ _ _ rfl)))) | (go_at_call 12; (with_reducible refine (CI _).mono ?_); rintro x wx ⟨rfl, bx⟩; have hy := Boxes.szA (by assumption); have hq := bx.size; (try replace rz := brow bx rz); (try (have rz := brow bx (rowAt_alloc_at _ _ _ _ rfl)))))
      all_goals
        go_wp2_with fail
        go_meet
        case rel =>
          first
          | exact ⟨_, _, rfl, rfl, (Boxes.outA (by assumption)).more (rowAt_alloc_at _ _ _ _ rfl)⟩
          | exact ⟨_, _, rfl, rfl, (Boxes.outA (by assumption)).more (rowAt_setRow_at _ _ _ (by rw [rz]; rfl))⟩
    case rest =>
      obtain ⟨m, M, rfl, rfl, pd⟩ := hcut
      have r1 := pd.rows (n, X) (by simp)
      have r2 := pd.rows (m, X) (by simp)
      have pB := pd.bel
      clear pc ls pd
      go_wp2_with fail
      refine (CE _).mono ?_
      rintro e w1 ⟨rfl, b1⟩
      have B1 := bnext pB b1 pB.size
      clear b1
      go_wp2_with fail
      go_ret
      exact ⟨rfl, B1⟩

namespace LFnExactStackRoofs
open Go.RowKit Go.ChangeShapes Go.WideShapes Go.ChangeAt
theorem own : ownKnob Try.prog.godebug = none := by kernel_rfl
theorem laidOut : laidOutB Try.prog = true := by kernel_rfl
set_option maxRecDepth 100000 in
theorem lifted (os : Os) (started : os.Started) (H : Type) (enc : TypeId × Value → H) :
    ReturnsInHanded {} Try.checked os 3 .any (Rows.fnExactStackRoofsSpec.pre6 enc Try.prog Try.f3 Rows.fnExactStackRoofsRow.domain false) (Rows.fnExactStackRoofsSpec.post enc Try.prog Try.f3 false true false false) := by
  refine returnsInHanded_of_change (C := Try.checked) own started (by kernel_rfl) Try.func3
    (ChangeSpec.witness6 (enc := enc) (C := Try.checked) false ⟨#[], #[.agg Try.zeroCells26, .agg Try.zeroCells26], []⟩ 8 (by kernel_rfl) (by kernel_rfl) (by kernel_rfl) (by kernel_rfl)) ?_
  intro W base args ds gs before hval0 hW hcnd _
  have hval : ∀ (j : Nat) t v, Try.f3.params[j]? = some t → args[j]? = some v → Value.okWide Try.prog W .any base t v := hval0
  have hW' := hW
  obtain ⟨p, q, hA0, hV, rfl, hfz, hnd⟩ := hW
  have hA : DataW.TrodAll enc Try.prog W 0 (fun _ => true) true Try.f3.params.toList args.toList ds p := hA0
  rw [Try.params3] at hA hval
  obtain ⟨v0, vs0, d0, ds0, p0, q0, hargs, rfl, rfl, h0, r0⟩ := trodAll_cons hA
  obtain ⟨v1, vs1, d1, ds1, p1, q1, rfl, rfl, rfl, h1, r1⟩ := trodAll_cons r0
  obtain ⟨rfl, rfl, rfl⟩ := trodAll_nil r1
  obtain rfl : args = #[v0, v1] := by cases args; simp_all
  obtain ⟨rfl, rfl⟩ := trodVars_none hV
  have k0 := h0
  have lt0 : ∀ x ∈ p0, x.block < W.heap.size := by obtain ⟨m, hm⟩ := k0; exact DataW.trod_lt m _ _ _ hm
  have k1 := h1
  have lt1 : ∀ x ∈ p1, x.block < W.heap.size := by obtain ⟨m, hm⟩ := k1; exact DataW.trod_lt m _ _ _ hm
  obtain ⟨c0, f0, rfl, wf0⟩ := open_roof (hval 0 26 v0 rfl rfl) h0
  obtain ⟨c1, f1, rfl, wf1⟩ := open_roof (hval 1 26 v1 rfl rfl) h1
  clear hA0 hval0
  refine (law_walk_FnExactStackRoofs wf0 wf1 W).mono fun e W' ⟨he, bel⟩ => ?_
  subst he
  exact ⟨_, rfl, _, _, _, [], _, [], hW', trodAll_mk1 (shut_bool Try.underlying4 _), (trodAll_cons_mk (Below.trod laidOut (by kernel_rfl) (of_decide_eq_true (by kernel_rfl)) k0 bel lt0) (trodAll_cons_mk (Below.trod laidOut (by kernel_rfl) (of_decide_eq_true (by kernel_rfl)) k1 bel lt1) trodAll_mk0)), rfl, bel.frame _, fun h => by cases h⟩

theorem over : Rows.fnExactStackRoofsRow.holds Try.pinned (OpenSpec.ofChange Rows.fnExactStackRoofsSpec) :=
  OpenClaim.holds_of_wide 3 Try.f3 rfl rfl rfl rfl rfl rfl rfl ⟨rfl, rfl, rfl, rfl, rfl⟩ rfl rfl rfl rfl rfl (by kernel_rfl) Try.func3 (by kernel_rfl)
    (of_decide_eq_true (by kernel_rfl)) (by unfold Func.isWrapper; first | (rw [if_pos (by decide +kernel)]; kernel_rfl) | (rw [if_neg (by decide +kernel)]; exact ⟨rfl, rfl⟩))
    (fun os started H enc _ => lifted os started H enc)

theorem proved : Rows.FnExactStackRoofsSaid := over
end LFnExactStackRoofs


end Go.Proofs.Ytnhoclplledlfaa
