/- laws.FnExactClimbTo returns true for every roof and place, and leaves them as they were. No condition. -/
import Derived.Test.YtkimngffbioeeaaClimb
import Derived.Test.YtkimngffbioeeaaOpen
import Derived.Test.YtkimngffbioeeaaEnd
import Derived.Deep.RegionHeld3
namespace Go.Proofs.Ytkimngffbioeeaa
open Go.RowKit

set_option maxHeartbeats 400000 in
theorem law_walk_FnExactClimbTo {c : Array Value} {r : Rf} (hR : IsRoof c r) {a b : Int} (ha : -128 ≤ a ∧ a ≤ 127) (hb : -128 ≤ b ∧ b ≤ 127) (w : World) :
    Calls Try.prog 7 #[.agg c, .agg #[.int .i8 a, .int .i8 b]] w fun e w' => e = .returned (.bool true) ∧ Below w.heap.size w w' := by
  have hc := hR.size
  have hbb : (r.climbAns a b != r.climbAns a b) = false := by simp
  have hcc : (r.ask a b true != r.ask a b true) = false := by simp
  go_enter Try.func7, Try.ntmps7
  go_wp2_with fail
  generalize hW : ((w.alloc (.cells c 26)).alloc (.cells #[.int .i8 a, .int .i8 b] 51)) = W
  have p0 : rowAt W w.heap.size = some c := by rw [← hW]; exact (rowAt_alloc_past _ _ _ (by simp)).trans (rowAt_alloc_at _ _ _ _ rfl)
  have p1 : rowAt W (w.heap.size + 1) = some #[.int .i8 a, .int .i8 b] := by rw [← hW]; exact rowAt_alloc_at _ _ _ _ (by simp)
  have pB : Below w.heap.size w W := by rw [← hW]; exact ((Below.refl _ _).alloc (Nat.le_refl _) _).alloc (by simp) _
  clear hW
  go_region_held3 (fun w' => rowAt w' w.heap.size = some c ∧ (w'.cell? ⟨w.heap.size + 1, 0, none⟩ = some (.int .i8 a) ∧ w'.cell? ⟨w.heap.size + 1, 1, none⟩ = some (.int .i8 b)) ∧ rowAt w' (w.heap.size + 1) = some #[.int .i8 a, .int .i8 b] ∧ Below w.heap.size w w' ∧ w.heap.size ≤ w'.heap.size)
    (first | exact keepP0 p0 p1 pB pB.size | exact keepP (by assumption) (by assumption))
    (first | (go_at_call 16; (with_reducible refine (toRoof_any c r _ hR).mono ?_); rintro x wx ⟨rfl, bx⟩) | (go_at_call 34; (with_reducible refine (toPlace_any a b _).mono ?_); rintro x wx ⟨rfl, bx⟩) | (go_at_call 33; (with_reducible refine (specClimbTo_any c r a b _ hR ha hb).mono ?_); rintro x wx ⟨rfl, bx⟩))
  rename_i wa ba wb bb g
  clear p0 p1 pB
  go_wp2_with fail
  go_region_held3 (fun w' => rowAt w' w.heap.size = some c ∧ (w'.cell? ⟨w.heap.size + 1, 0, none⟩ = some (.int .i8 a) ∧ w'.cell? ⟨w.heap.size + 1, 1, none⟩ = some (.int .i8 b)) ∧ rowAt w' (w.heap.size + 1) = some #[.int .i8 a, .int .i8 b] ∧ Below w.heap.size w w' ∧ w.heap.size ≤ w'.heap.size)
    (first | exact keepP0 g.1 g.2.2.1 g.2.2.2.1 g.2.2.2.2 | exact keepP (by assumption) (by assumption))
    (first | (go_at_call 16; (with_reducible refine (toRoof_any c r _ hR).mono ?_); rintro x wx ⟨rfl, bx⟩) | (go_at_call 34; (with_reducible refine (toPlace_any a b _).mono ?_); rintro x wx ⟨rfl, bx⟩) | (go_at_call 35; (with_reducible refine (implClimbTo_any c r a b _ hR).mono ?_); rintro x wx ⟨rfl, bx⟩))
  rename_i g2
  go_wp2_with fail
  go_ret
  exact ⟨rfl, g2.2.2.2.1⟩

namespace LFnExactClimbTo
open Go.RowKit Go.ChangeShapes Go.WideShapes Go.ChangeAt
theorem own : ownKnob Try.prog.godebug = none := by kernel_rfl
theorem laidOut : laidOutB Try.prog = true := by kernel_rfl
set_option maxRecDepth 100000 in
theorem lifted (os : Os) (started : os.Started) (H : Type) (enc : TypeId × Value → H) :
    ReturnsInHanded {} Try.checked os 7 .any (Rows.fnExactClimbToSpec.pre6 enc Try.prog Try.f7 Rows.fnExactClimbToRow.domain false) (Rows.fnExactClimbToSpec.post enc Try.prog Try.f7 false true false false) := by
  refine returnsInHanded_of_change (C := Try.checked) own started (by kernel_rfl) Try.func7
    (ChangeSpec.witness6 (enc := enc) (C := Try.checked) false ⟨#[], #[.agg Try.zeroCells26, .agg #[.int .i8 0, .int .i8 0]], []⟩ 8 (by kernel_rfl) (by kernel_rfl) (by kernel_rfl) (by kernel_rfl)) ?_
  intro W base args ds gs before hval0 hW hcnd _
  have hval : ∀ (j : Nat) t v, Try.f7.params[j]? = some t → args[j]? = some v → Value.okWide Try.prog W .any base t v := hval0
  have hW' := hW
  obtain ⟨p, q, hA0, hV, rfl, hfz, hnd⟩ := hW
  have hA : DataW.TrodAll enc Try.prog W 0 (fun _ => true) true Try.f7.params.toList args.toList ds p := hA0
  rw [Try.params7] at hA hval
  obtain ⟨v0, vs0, d0, ds0, p0, q0, hargs, rfl, rfl, h0, r0⟩ := trodAll_cons hA
  obtain ⟨v1, vs1, d1, ds1, p1, q1, rfl, rfl, rfl, h1, r1⟩ := trodAll_cons r0
  obtain ⟨rfl, rfl, rfl⟩ := trodAll_nil r1
  obtain rfl : args = #[v0, v1] := by cases args; simp_all
  obtain ⟨rfl, rfl⟩ := trodVars_none hV
  have k0 := h0
  have lt0 : ∀ x ∈ p0, x.block < W.heap.size := by obtain ⟨m, hm⟩ := k0; exact DataW.trod_lt m _ _ _ hm
  have k1 := h1
  have lt1 : ∀ x ∈ p1, x.block < W.heap.size := by obtain ⟨m, hm⟩ := k1; exact DataW.trod_lt m _ _ _ hm
  obtain ⟨c0, f0, rfl, wf0⟩ := open_roof (hval 0 26 v0 rfl rfl) h0
  obtain ⟨a1, b1, rfl, wa1, wb1⟩ := open_place (hval 1 51 v1 rfl rfl) h1
  clear hA0 hval0
  refine (law_walk_FnExactClimbTo wf0 wa1 wb1 W).mono fun e W' ⟨he, bel⟩ => ?_
  subst he
  exact ⟨_, rfl, _, _, _, [], _, [], hW', trodAll_mk1 (shut_bool Try.underlying4 _), (trodAll_cons_mk (Below.trod laidOut (by kernel_rfl) (of_decide_eq_true (by kernel_rfl)) k0 bel lt0) (trodAll_cons_mk (Below.trod laidOut (by kernel_rfl) (of_decide_eq_true (by kernel_rfl)) k1 bel lt1) trodAll_mk0)), rfl, bel.frame _, fun h => by cases h⟩

theorem over : Rows.fnExactClimbToRow.holds Try.pinned (OpenSpec.ofChange Rows.fnExactClimbToSpec) :=
  OpenClaim.holds_of_wide 7 Try.f7 rfl rfl rfl rfl rfl rfl rfl ⟨rfl, rfl, rfl, rfl, rfl⟩ rfl rfl rfl rfl rfl (by kernel_rfl) Try.func7 (by kernel_rfl)
    (of_decide_eq_true (by kernel_rfl)) (by unfold Func.isWrapper; first | (rw [if_pos (by decide +kernel)]; kernel_rfl) | (rw [if_neg (by decide +kernel)]; exact ⟨rfl, rfl⟩))
    (fun os started H enc _ => lifted os started H enc)

theorem proved : Rows.FnExactClimbToSaid := over
end LFnExactClimbTo

end Go.Proofs.Ytkimngffbioeeaa
