/- laws.FnExactColoursText returns true for every roof and colours, and leaves them as they were. No condition. -/
import Derived.Test.YtgdhfcpmeaeioaaCol
import Derived.Test.YtgdhfcpmeaeioaaBox
import Derived.Test.YtgdhfcpmeaeioaaSame
import Derived.Test.YtgdhfcpmeaeioaaColX
import Derived.Deep.RegionHeld3
namespace Go.Proofs.Ytgdhfcpmeaeioaa
open Go.RowKit

set_option maxRecDepth 100000 in
set_option maxHeartbeats 4000000 in
theorem law_walk_FnExactColoursText {c : Array Value} {r : Rf} (hR : IsRoof c r) {d0 : Array Value} {g0 : Nat → Nat} (hC0 : IsCol d0 g0) (w : World) :
    Calls Try.prog 4 #[.agg c, .agg d0] w fun e w' => e = .returned (.bool true) ∧ Below w.heap.size w w' := by
  have hc := hR.size
  have hd0 := hC0.size
  have CS := fun w => specColoursText_any c d0 r g0 w hR hC0
  have CI := fun w => implColoursText_any c d0 r g0 w hR hC0
  generalize (⟨(r.ctx g0).toArray⟩ : ByteArray) = S at *
  have pb := boxes2 w c d0 26 23
  go_enter Try.func4, Try.ntmps4
  go_wp2_with fail
  refine gen_world fun W hW => ?_
  rw [← hW] at pb
  clear hW
  have mk : ∀ W', Boxes (w.heap.size + 1 + 1) w [(w.heap.size + 1, d0), (w.heap.size, c)] W' → (rowAt W' w.heap.size = some c ∧ rowAt W' (w.heap.size + 1) = some d0) := fun W' h => ⟨h.rows (w.heap.size, c) (by simp), h.rows (w.heap.size + 1, d0) (by simp)⟩
  have HM := Lib.hid mk
  clear mk
  go_region_held3 (fun w' => (rowAt w' w.heap.size = some c ∧ rowAt w' (w.heap.size + 1) = some d0) ∧ Boxes (w.heap.size + 1 + 1) w [(w.heap.size + 1, d0), (w.heap.size, c)] w')
    ((refine mkS (HM.out _) ?_; first | exact pb.drew | exact Boxes.callA (by assumption) (by assumption)))
    (first | (go_at_call 7; (with_reducible refine (toRoof_any c r _ hR).mono ?_); rintro x wx ⟨rfl, bx⟩) | (go_at_call 10; (with_reducible refine (toCol_any d0 g0 _ hC0).mono ?_); rintro x wx ⟨rfl, bx⟩) | (go_at_call 9; (with_reducible refine (CS _).mono ?_); rintro x wx ⟨rfl, bx⟩))
  rename_i g
  clear pb
  replace g := Boxes.outA g
  go_wp2_with fail
  go_region_held3 (fun w' => (rowAt w' w.heap.size = some c ∧ rowAt w' (w.heap.size + 1) = some d0) ∧ Boxes (w.heap.size + 1 + 1) w [(w.heap.size + 1, d0), (w.heap.size, c)] w')
    ((refine mkS (HM.out _) ?_; first | exact g.drew | exact Boxes.callA (by assumption) (by assumption)))
    (first | (go_at_call 7; (with_reducible refine (toRoof_any c r _ hR).mono ?_); rintro x wx ⟨rfl, bx⟩) | (go_at_call 10; (with_reducible refine (toCol_any d0 g0 _ hC0).mono ?_); rintro x wx ⟨rfl, bx⟩) | (go_at_call 11; (with_reducible refine (CI _).mono ?_); rintro x wx ⟨rfl, bx⟩))
  rename_i g2
  replace g2 := Boxes.outA g2
  go_wp2_with fail
  go_ret
  exact ⟨rfl, g2.bel⟩

namespace LFnExactColoursText
open Go.RowKit Go.ChangeShapes Go.WideShapes Go.ChangeAt
theorem own : ownKnob Try.prog.godebug = none := by kernel_rfl
theorem laidOut : laidOutB Try.prog = true := by kernel_rfl
set_option maxRecDepth 100000 in
theorem lifted (os : Os) (started : os.Started) (H : Type) (enc : TypeId × Value → H) :
    ReturnsInHanded {} Try.checked os 4 .any (Rows.fnExactColoursTextSpec.pre6 enc Try.prog Try.f4 Rows.fnExactColoursTextRow.domain false) (Rows.fnExactColoursTextSpec.post enc Try.prog Try.f4 false true false false) := by
  refine returnsInHanded_of_change (C := Try.checked) own started (by kernel_rfl) Try.func4
    (ChangeSpec.witness6 (enc := enc) (C := Try.checked) false ⟨#[], #[.agg Try.zeroCells26, .agg (Array.replicate 8 (.int .u8 0))], []⟩ 8 (by kernel_rfl) (by kernel_rfl) (by kernel_rfl) (by kernel_rfl)) ?_
  intro W base args ds gs before hval0 hW hcnd _
  have hval : ∀ (j : Nat) t v, Try.f4.params[j]? = some t → args[j]? = some v → Value.okWide Try.prog W .any base t v := hval0
  have hW' := hW
  obtain ⟨p, q, hA0, hV, rfl, hfz, hnd⟩ := hW
  have hA : DataW.TrodAll enc Try.prog W 0 (fun _ => true) true Try.f4.params.toList args.toList ds p := hA0
  rw [Try.params4] at hA hval
  obtain ⟨v0, vs0, d0, ds0, p0, q0, hargs, rfl, rfl, h0, r0⟩ := trodAll_cons hA
  obtain ⟨v1, vs1, d1, ds1, p1, q1, rfl, rfl, rfl, h1, r1⟩ := trodAll_cons r0
  obtain ⟨rfl, rfl, rfl⟩ := trodAll_nil r1
  obtain rfl : args = #[v0, v1] := by cases args; simp_all
  obtain ⟨rfl, rfl⟩ := trodVars_none hV
  have k0 := h0
  have lt0 : ∀ x ∈ p0, x.block < W.heap.size := by obtain ⟨m, hm⟩ := k0; exact DataW.trod_lt m _ _ _ hm
  have k1 := h1
  have lt1 : ∀ x ∈ p1, x.block < W.heap.size := by obtain ⟨m, hm⟩ := k1; exact DataW.trod_lt m _ _ _ hm
  obtain ⟨c0, f0, rfl, wf0⟩ := open_roof (hval 0 26 v0 rfl rfl) h0
  obtain ⟨c1, f1, rfl, wf1⟩ := open_col (hval 1 23 v1 rfl rfl) h1
  clear hA0 hval0
  refine (law_walk_FnExactColoursText wf0 wf1 W).mono fun e W' ⟨he, bel⟩ => ?_
  subst he
  exact ⟨_, rfl, _, _, _, [], _, [], hW', trodAll_mk1 (shut_bool Try.underlying4 _), (trodAll_cons_mk (Below.trod laidOut (by kernel_rfl) (of_decide_eq_true (by kernel_rfl)) k0 bel lt0) (trodAll_cons_mk (Below.trod laidOut (by kernel_rfl) (of_decide_eq_true (by kernel_rfl)) k1 bel lt1) trodAll_mk0)), rfl, bel.frame _, fun h => by cases h⟩

theorem over : Rows.fnExactColoursTextRow.holds Try.pinned (OpenSpec.ofChange Rows.fnExactColoursTextSpec) :=
  OpenClaim.holds_of_wide 4 Try.f4 rfl rfl rfl rfl rfl rfl rfl ⟨rfl, rfl, rfl, rfl, rfl⟩ rfl rfl rfl rfl rfl (by kernel_rfl) Try.func4 (by kernel_rfl)
    (of_decide_eq_true (by kernel_rfl)) (by unfold Func.isWrapper; first | (rw [if_pos (by decide +kernel)]; kernel_rfl) | (rw [if_neg (by decide +kernel)]; exact ⟨rfl, rfl⟩))
    (fun os started H enc _ => lifted os started H enc)

theorem proved : Rows.FnExactColoursTextSaid := over
end LFnExactColoursText


end Go.Proofs.Ytgdhfcpmeaeioaa
