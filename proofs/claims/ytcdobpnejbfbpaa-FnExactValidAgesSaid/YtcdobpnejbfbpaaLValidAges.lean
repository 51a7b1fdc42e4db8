/- laws.FnExactValidAges returns true for every roof and ages, and leaves them as they were. No condition. -/
import Derived.Test.YtcdobpnejbfbpaaAge
import Derived.Test.YtcdobpnejbfbpaaAgeV
import Derived.Test.YtcdobpnejbfbpaaAgeS
import Derived.Deep.RegionHeld3
namespace Go.Proofs.Ytcdobpnejbfbpaa
open Go.RowKit

set_option maxRecDepth 100000 in
set_option maxHeartbeats 2000000 in
theorem law_walk_FnExactValidAges {c : Array Value} {r : Rf} (hR : IsRoof c r) {d : Array Value} {t : Nat → Int} (hT : IsU8 d 64 t) (w : World) :
    Calls Try.prog 3 #[.agg c, .agg d] w fun e w' => e = .returned (.bool true) ∧ Below w.heap.size w w' := by
  obtain ⟨l⟩ := d
  obtain ⟨p0, p1, pB⟩ := two_boxes w c l.toArray 26 24
  have hc := hR.size
  have hl : l.length = 64 := by have := hT.size; simpa using this
  have htk : List.take 64 l = l := List.take_of_length_le (by omega)
  have hu := Try.underlying24
  have hi : (Try.prog.info? 24).map (·.size) = some l.length := by rw [hl]; kernel_rfl
  have hne0 : ((r.aok t) != (r.aok t)) = false := by simp
  go_enter Try.func3, Try.ntmps3
  go_wp2_with fail
  refine gen_world fun W hW => ?_
  rw [← hW] at p0 p1 pB
  clear hW
  go_region_held3 (fun w' => rowAt w' w.heap.size = some c ∧ rowAt w' (w.heap.size + 1) = some l.toArray ∧ w'.rangeAt (w.heap.size + 1) 0 l ∧ Below w.heap.size w w' ∧ w.heap.size ≤ w'.heap.size)
    (first | exact keepR0 p0 p1 pB pB.size | exact keepR (by assumption) (by assumption))
    (first | (go_at_call 5; (with_reducible refine (toRoof_any c r _ hR).mono ?_); rintro x wx ⟨rfl, bx⟩) | (go_at_call 6; (with_reducible refine (toAges_any l.toArray t _ hT).mono ?_); rintro x wx ⟨rfl, bx⟩) | (go_at_call 4; (with_reducible refine (specValidAges_any c l.toArray r t _ hR hT).mono ?_); rintro x wx ⟨rfl, bx⟩))
  rename_i g
  clear p0 p1 pB
  go_wp2_with fail
  go_region_held3 (fun w' => rowAt w' w.heap.size = some c ∧ rowAt w' (w.heap.size + 1) = some l.toArray ∧ w'.rangeAt (w.heap.size + 1) 0 l ∧ Below w.heap.size w w' ∧ w.heap.size ≤ w'.heap.size)
    (first | exact keepR0 g.1 g.2.1 g.2.2.2.1 g.2.2.2.2 | exact keepR (by assumption) (by assumption))
    (first | (go_at_call 5; (with_reducible refine (toRoof_any c r _ hR).mono ?_); rintro x wx ⟨rfl, bx⟩) | (go_at_call 6; (with_reducible refine (toAges_any l.toArray t _ hT).mono ?_); rintro x wx ⟨rfl, bx⟩) | (go_at_call 7; (with_reducible refine (implValidAges_any c l.toArray r t _ hR hT).mono ?_); rintro x wx ⟨rfl, bx⟩))
  rename_i g2
  go_wp2_with fail
  go_ret
  exact ⟨rfl, g2.2.2.2.1⟩

namespace LFnExactValidAges
open Go.RowKit Go.ChangeShapes Go.WideShapes Go.ChangeAt
theorem own : ownKnob Try.prog.godebug = none := by kernel_rfl
theorem laidOut : laidOutB Try.prog = true := by kernel_rfl
set_option maxRecDepth 100000 in
theorem lifted (os : Os) (started : os.Started) (H : Type) (enc : TypeId × Value → H) :
    ReturnsInHanded {} Try.checked os 3 .any (Rows.fnExactValidAgesSpec.pre6 enc Try.prog Try.f3 Rows.fnExactValidAgesRow.domain false) (Rows.fnExactValidAgesSpec.post enc Try.prog Try.f3 false true false false) := by
  refine returnsInHanded_of_change (C := Try.checked) own started (by kernel_rfl) Try.func3
    (ChangeSpec.witness6 (enc := enc) (C := Try.checked) false ⟨#[], #[.agg Try.zeroCells26, .agg (Array.replicate 64 (.int .u8 0))], []⟩ 8 (by kernel_rfl) (by kernel_rfl) (by kernel_rfl) (by kernel_rfl)) ?_
  intro W base args ds gs before hval0 hW hcnd _
  have hval : ∀ (j : Nat) t v, Try.f3.params[j]? = some t → args[j]? = some v → Value.okWide Try.prog W .any base t v := hval0
  have hW' := hW
  obtain ⟨p, q, hA0, hV, rfl, hfz, hnd⟩ := hW
  have hA : DataW.TrodAll enc Try.prog W 0 (fun _ => true) true Try.f3.params.toList args.toList ds p := hA0
  rw [Try.params3] at hA hval
  obtain ⟨v0, vs0, d0, ds0, p0, q0, hargs, rfl, rfl, h0, r0⟩ := trodAll_cons hA
  obtain ⟨v1, vs1, d1, ds1, p1, q1, rfl, rfl, rfl, h1, r1⟩ := trodAll_cons r0
  obtain ⟨rfl, rfl, rfl⟩ := trodAll_nil r1
  obtain rfl : args = #[v0, v1] := by cases args; simp_all
  obtain ⟨rfl, rfl⟩ := trodVars_none hV
  have k0 := h0
  have lt0 : ∀ x ∈ p0, x.block < W.heap.size := by obtain ⟨m, hm⟩ := k0; exact DataW.trod_lt m _ _ _ hm
  have k1 := h1
  have lt1 : ∀ x ∈ p1, x.block < W.heap.size := by obtain ⟨m, hm⟩ := k1; exact DataW.trod_lt m _ _ _ hm
  obtain ⟨c0, f0, rfl, wf0⟩ := open_roof (hval 0 26 v0 rfl rfl) h0
  obtain ⟨c1, f1, rfl, wf1⟩ := open_ages (hval 1 24 v1 rfl rfl) h1
  clear hA0 hval0
  refine (law_walk_FnExactValidAges wf0 wf1 W).mono fun e W' ⟨he, bel⟩ => ?_
  subst he
  exact ⟨_, rfl, _, _, _, [], _, [], hW', trodAll_mk1 (shut_bool Try.underlying4 _), (trodAll_cons_mk (Below.trod laidOut (by kernel_rfl) (of_decide_eq_true (by kernel_rfl)) k0 bel lt0) (trodAll_cons_mk (Below.trod laidOut (by kernel_rfl) (of_decide_eq_true (by kernel_rfl)) k1 bel lt1) trodAll_mk0)), rfl, bel.frame _, fun h => by cases h⟩

theorem over : Rows.fnExactValidAgesRow.holds Try.pinned (OpenSpec.ofChange Rows.fnExactValidAgesSpec) :=
  OpenClaim.holds_of_wide 3 Try.f3 rfl rfl rfl rfl rfl rfl rfl ⟨rfl, rfl, rfl, rfl, rfl⟩ rfl rfl rfl rfl rfl (by kernel_rfl) Try.func3 (by kernel_rfl)
    (of_decide_eq_true (by kernel_rfl)) (by unfold Func.isWrapper; first | (rw [if_pos (by decide +kernel)]; kernel_rfl) | (rw [if_neg (by decide +kernel)]; exact ⟨rfl, rfl⟩))
    (fun os started H enc _ => lifted os started H enc)

theorem proved : Rows.FnExactValidAgesSaid := over
end LFnExactValidAges


end Go.Proofs.Ytcdobpnejbfbpaa
