/- laws.FnExactMirrorColours returns true for all its arguments, and leaves them as they were. No condition. -/
import Derived.Test.YtcdobpnejbfbpabHelp
import Derived.Test.YtcdobpnejbfbpabBox
import Derived.Test.YtcdobpnejbfbpabSame
import Derived.Test.YtcdobpnejbfbpabOpen
import Derived.Test.YtcdobpnejbfbpabNums
import Derived.Test.YtcdobpnejbfbpabColR
import Derived.Deep.DeepCutAuto
import Derived.Deep.RegionHeld3
namespace Go.Proofs.Ytcdobpnejbfbpab
open Go.RowKit

set_option maxRecDepth 100000 in
set_option maxHeartbeats 4000000 in
theorem law_walk_FnExactMirrorColours {c : Array Value} {r : Rf} (hR : IsRoof c r) {d0 : Array Value} {g0 : Nat → Nat} (hC0 : IsCol d0 g0) (w : World) :
    Calls Try.prog 6 #[.agg c, .agg d0] w fun e w' => e = .returned (.bool true) ∧ Below w.heap.size w w' := by
  have hs0 := hR.size
  have hs1 := hC0.size
  obtain ⟨X, hX⟩ : ∃ X, mkC (r.mirX g0) = X := ⟨_, rfl⟩
  have hI := (fun X hX => (show IsCol X (r.mirX g0) by rw [← hX]; exact isCol_mkC (fun i hi => Rf.mirX_lt i hi))) X hX
  have CS := fun w => specMirrorColours_any c d0 r g0 w hR hC0 X hX
  have CI := fun w => implMirrorColours_any c d0 r g0 w hR hC0 X hX
  have hne0 : ((r.mirC g0) != (r.mirC g0)) = false := by simp
  generalize (r.mirC g0) = v0 at *
  have hXs := hI.size
  have hXo := hI.ones
  have CE := fun w => eqCol_same X _ w hI
  clear hX
  have pb := boxes2 w c d0 26 23
  go_enter Try.func6, Try.ntmps6
  go_wp2_with fail
  refine gen_world fun W hW => ?_
  rw [← hW] at pb
  clear hW
  have mk : ∀ (N : Nat) (Y : List (Nat × Array Value)) (W' : World), Boxes N w (Y ++ [(w.heap.size + 1, d0), (w.heap.size, c)]) W' → rowAt W' (w.heap.size) = some c ∧ rowAt W' (w.heap.size + 1) = some d0 := fun N Y W' h => ⟨h.rows (w.heap.size, c) (by simp), h.rows (w.heap.size + 1, d0) (by simp)⟩
  have HM := Lib.hid mk
  clear mk
  have ls := pb.size
  go_cut [5, 6] (fun p q0 W' => ∃ n N : Nat, p = .pointer (some ⟨n, 0, none⟩) ∧ q0 = .int .i64 v0 ∧ Boxes N w ((n, X) :: [(w.heap.size + 1, d0), (w.heap.size, c)]) W')
  case first =>
    go_region_held3 (fun w' => (rowAt w' (w.heap.size) = some c ∧ rowAt w' (w.heap.size + 1) = some d0) ∧ Boxes (w.heap.size + 1 + 1) w ([(w.heap.size + 1, d0), (w.heap.size, c)]) w')
      ((refine mkS (HM.out _ [] _) ?_; first | exact pb.drew | exact Boxes.allocA (by assumption) | exact Boxes.callA (by assumption) (by assumption) | exact Boxes.setA (by assumption) (by omega) | exact Boxes.reallocA (by assumption) (by omega)))
      (first | (go_at_call 8; (with_reducible refine (toRoof_any c r _ hR).mono ?_); rintro x wx ⟨rfl, bx⟩; have hy := Boxes.szA (by assumption); have hq := bx.size; (try replace rz := brow bx rz); (try (have rz := brow bx (rowAt_alloc_at _ _ _ _ rfl)))) | (go_at_call 9; (with_reducible refine (toCol_any d0 g0 _ hC0).mono ?_); rintro x wx ⟨rfl, bx⟩; have hy := Boxes.szA (by assumption); have hq := bx.size; (try replace rz := brow bx rz); (try (have rz := brow bx (rowAt_alloc_at _ _ _ _ rfl)))) | (go_at_call 15; (with_reducible refine (CS _).mono ?_); rintro x wx ⟨rfl, bx⟩; have hy := Boxes.szA (by assumption); have hq := bx.size; (try replace rz := brow bx rz); (try (have rz := brow bx (rowAt_alloc_at _ _ _ _ rfl)))))
    all_goals
      go_wp2_with fail
      go_meet
      case rel =>
        first
        | exact ⟨_, _, rfl, rfl, (Boxes.outA (by assumption)).more (rowAt_alloc_at _ _ _ _ rfl)⟩
        | exact ⟨_, _, rfl, rfl, (Boxes.outA (by assumption)).more (rowAt_setRow_at _ _ _ (by rw [rz]; rfl))⟩
  case rest =>
    obtain ⟨n, N, rfl, rfl, pc⟩ := hcut
    clear pb ls
    have ls := pc.size
    go_wp2_with fail
    go_cut [7, 8] (fun p q0 W' => ∃ m M : Nat, p = .pointer (some ⟨m, 0, none⟩) ∧ q0 = .int .i64 v0 ∧ Boxes M w ((m, X) :: (n, X) :: [(w.heap.size + 1, d0), (w.heap.size, c)]) W')
    case first =>
      go_region_held3 (fun w' => (rowAt w' (w.heap.size) = some c ∧ rowAt w' (w.heap.size + 1) = some d0) ∧ Boxes (N) w ([(n, X), (w.heap.size + 1, d0), (w.heap.size, c)]) w')
        ((refine mkS (HM.out _ [(n, X)] _) ?_; first | exact pc.drew | exact Boxes.allocA (by assumption) | exact Boxes.callA (by assumption) (by assumption) | exact Boxes.setA (by assumption) (by omega) | exact Boxes.reallocA (by assumption) (by omega)))
        (first | (go_at_call 8; (with_reducible refine (toRoof_any c r _ hR).mono ?_); rintro x wx ⟨rfl, bx⟩; have hy := Boxes.szA (by assumption); have hq := bx.size; (try replace rz := brow bx rz); (try (have rz := brow bx (rowAt_alloc_at _ _ _ _ rfl)))) | (go_at_call 9; (with_reducible refine (toCol_any d0 g0 _ hC0).mono ?_); rintro x wx ⟨rfl, bx⟩; have hy := Boxes.szA (by assumption); have hq := bx.size; (try replace rz := brow bx rz); (try (have rz := brow bx (rowAt_alloc_at _ _ _ _ rfl)))) | (go_at_call 16; (with_reducible refine (CI _).mono ?_); rintro x wx ⟨rfl, bx⟩; have hy := Boxes.szA (by assumption); have hq := bx.size; (try replace rz := brow bx rz); (try (have rz := brow bx (rowAt_alloc_at _ _ _ _ rfl)))))
      all_goals
        go_wp2_with fail
        go_meet
        case rel =>
          first
          | exact ⟨_, _, rfl, rfl, (Boxes.outA (by assumption)).more (rowAt_alloc_at _ _ _ _ rfl)⟩
          | exact ⟨_, _, rfl, rfl, (Boxes.outA (by assumption)).more (rowAt_setRow_at _ _ _ (by rw [rz]; rfl))⟩
    case rest =>
      obtain ⟨m, M, rfl, rfl, pd⟩ := hcut
      have r1 := pd.rows (n, X) (by simp)
      have r2 := pd.rows (m, X) (by simp)
      have pB := pd.bel
      clear pc ls pd
      go_wp2_with fail
      refine (CE _).mono ?_
      rintro e w5 ⟨rfl, b5⟩
      have B5 := bnext pB b5 pB.size
      clear b5 r1 r2 pB
      go_wp2_with fail
      go_ret
      exact ⟨rfl, B5⟩

namespace LFnExactMirrorColours
open Go.RowKit Go.ChangeShapes Go.WideShapes Go.ChangeAt
theorem own : ownKnob Try.prog.godebug = none := by kernel_rfl
theorem laidOut : laidOutB Try.prog = true := by kernel_rfl
set_option maxRecDepth 100000 in
theorem lifted (os : Os) (started : os.Started) (H : Type) (enc : TypeId × Value → H) :
    ReturnsInHanded {} Try.checked os 6 .any (Rows.fnExactMirrorColoursSpec.pre6 enc Try.prog Try.f6 Rows.fnExactMirrorColoursRow.domain false) (Rows.fnExactMirrorColoursSpec.post enc Try.prog Try.f6 false true false false) := by
  refine returnsInHanded_of_change (C := Try.checked) own started (by kernel_rfl) Try.func6
    (ChangeSpec.witness6 (enc := enc) (C := Try.checked) false ⟨#[], #[.agg Try.zeroCells26, .agg (Array.replicate 8 (.int .u8 0))], []⟩ 8 (by kernel_rfl) (by kernel_rfl) (by kernel_rfl) (by kernel_rfl)) ?_
  intro W base args ds gs before hval0 hW hcnd _
  have hval : ∀ (j : Nat) t v, Try.f6.params[j]? = some t → args[j]? = some v → Value.okWide Try.prog W .any base t v := hval0
  have hW' := hW
  obtain ⟨p, q, hA0, hV, rfl, hfz, hnd⟩ := hW
  have hA : DataW.TrodAll enc Try.prog W 0 (fun _ => true) true Try.f6.params.toList args.toList ds p := hA0
  rw [Try.params6] at hA hval
  obtain ⟨v0, vs0, d0, ds0, p0, q0, hargs, rfl, rfl, h0, r0⟩ := trodAll_cons hA
  obtain ⟨v1, vs1, d1, ds1, p1, q1, rfl, rfl, rfl, h1, r1⟩ := trodAll_cons r0
  obtain ⟨rfl, rfl, rfl⟩ := trodAll_nil r1
  obtain rfl : args = #[v0, v1] := by cases args; simp_all
  obtain ⟨rfl, rfl⟩ := trodVars_none hV
  have k0 := h0
  have lt0 : ∀ x ∈ p0, x.block < W.heap.size := by obtain ⟨m, hm⟩ := k0; exact DataW.trod_lt m _ _ _ hm
  have k1 := h1
  have lt1 : ∀ x ∈ p1, x.block < W.heap.size := by obtain ⟨m, hm⟩ := k1; exact DataW.trod_lt m _ _ _ hm
  obtain ⟨c0, f0, rfl, wf0⟩ := open_roof (hval 0 26 v0 rfl rfl) h0
  obtain ⟨c1, f1, rfl, wf1⟩ := open_col (hval 1 23 v1 rfl rfl) h1
  clear hA0 hval0
  refine (law_walk_FnExactMirrorColours wf0 wf1 W).mono fun e W' ⟨he, bel⟩ => ?_
  subst he
  exact ⟨_, rfl, _, _, _, [], _, [], hW', trodAll_mk1 (shut_bool Try.underlying4 _), (trodAll_cons_mk (Below.trod laidOut (by kernel_rfl) (of_decide_eq_true (by kernel_rfl)) k0 bel lt0) (trodAll_cons_mk (Below.trod laidOut (by kernel_rfl) (of_decide_eq_true (by kernel_rfl)) k1 bel lt1) trodAll_mk0)), rfl, bel.frame _, fun h => by cases h⟩

theorem over : Rows.fnExactMirrorColoursRow.holds Try.pinned (OpenSpec.ofChange Rows.fnExactMirrorColoursSpec) :=
  OpenClaim.holds_of_wide 6 Try.f6 rfl rfl rfl rfl rfl rfl rfl ⟨rfl, rfl, rfl, rfl, rfl⟩ rfl rfl rfl rfl rfl (by kernel_rfl) Try.func6 (by kernel_rfl)
    (of_decide_eq_true (by kernel_rfl)) (by unfold Func.isWrapper; first | (rw [if_pos (by decide +kernel)]; kernel_rfl) | (rw [if_neg (by decide +kernel)]; exact ⟨rfl, rfl⟩))
    (fun os started H enc _ => lifted os started H enc)

theorem proved : Rows.FnExactMirrorColoursSaid := over
end LFnExactMirrorColours


end Go.Proofs.Ytcdobpnejbfbpab
