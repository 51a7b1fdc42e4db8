/- laws.FnExactPailsFor returns true for every roof and rain and numbers, and leaves them as they were. No condition. -/
import Derived.Test.YtnjodicaehiadaaRainV
import Derived.Test.YtnjodicaehiadaaPails
import Derived.Deep.RegionHeld3
namespace Go.Proofs.Ytnjodicaehiadaa
open Go.RowKit

set_option maxRecDepth 100000 in
set_option maxHeartbeats 2000000 in
theorem law_walk_FnExactPailsFor {c : Array Value} {r : Rf} (hR : IsRoof c r) {d : Array Value} {t : Nat → Int} (hT : IsRain d t) {size : Int} (_hsize : -9223372036854775808 ≤ size ∧ size ≤ 9223372036854775807) (w : World) :
    Calls Try.prog 14 #[.agg c, .agg d, .int .i64 size] w fun e w' => e = .returned (.bool true) ∧ Below w.heap.size w w' := by
  obtain ⟨l⟩ := d
  obtain ⟨p0, p1, pB⟩ := two_boxes w c l.toArray 26 28
  have hc := hR.size
  have hl : l.length = 17 := by have := hT.size; simpa using this
  have hu := Try.underlying28
  have hi : (Try.prog.info? 28).map (·.size) = some l.length := by rw [hl]; kernel_rfl
  have hne0 : ((r.pval t size (sumTo (pails (r.drips t) size) (2 * r.w + 1).toNat)) != (r.pval t size (sumTo (pails (r.drips t) size) (2 * r.w + 1).toNat))) = false := by simp
  have hne1 : ((r.pcode t size) != (r.pcode t size)) = false := by simp
  go_enter Try.func14, Try.ntmps14
  go_wp2_with fail
  refine gen_world fun W hW => ?_
  rw [← hW] at p0 p1 pB
  clear hW
  go_region_held3 (fun w' => rowAt w' w.heap.size = some c ∧ rowAt w' (w.heap.size + 1) = some l.toArray ∧ w'.rangeAt (w.heap.size + 1) 0 l ∧ Below w.heap.size w w' ∧ w.heap.size ≤ w'.heap.size)
    (first | exact keepR0 p0 p1 pB pB.size | exact keepR (by assumption) (by assumption))
    (first | (go_at_call 16; (with_reducible refine (toRoof_any c r _ hR).mono ?_); rintro x wx ⟨rfl, bx⟩) | (go_at_call 17; (with_reducible refine (toRain_any l.toArray t _ hT).mono ?_); rintro x wx ⟨rfl, bx⟩) | (go_at_call 47; (with_reducible refine (specPailsFor_any c l.toArray r t size _ hR hT).mono ?_); rintro x wx ⟨rfl, bx⟩))
  rename_i g
  clear p0 p1 pB
  go_wp2_with fail
  go_region_held3 (fun w' => rowAt w' w.heap.size = some c ∧ rowAt w' (w.heap.size + 1) = some l.toArray ∧ w'.rangeAt (w.heap.size + 1) 0 l ∧ Below w.heap.size w w' ∧ w.heap.size ≤ w'.heap.size)
    (first | exact keepR0 g.1 g.2.1 g.2.2.2.1 g.2.2.2.2 | exact keepR (by assumption) (by assumption))
    (first | (go_at_call 16; (with_reducible refine (toRoof_any c r _ hR).mono ?_); rintro x wx ⟨rfl, bx⟩) | (go_at_call 17; (with_reducible refine (toRain_any l.toArray t _ hT).mono ?_); rintro x wx ⟨rfl, bx⟩) | (go_at_call 48; (with_reducible refine (implPailsFor_any c l.toArray r t size _ hR hT).mono ?_); rintro x wx ⟨rfl, bx⟩))
  rename_i g2
  go_wp2_with fail
  go_ret
  exact ⟨rfl, g2.2.2.2.1⟩

namespace LFnExactPailsFor
open Go.RowKit Go.ChangeShapes Go.WideShapes Go.ChangeAt
theorem own : ownKnob Try.prog.godebug = none := by kernel_rfl
theorem laidOut : laidOutB Try.prog = true := by kernel_rfl
set_option maxRecDepth 100000 in
theorem lifted (os : Os) (started : os.Started) (H : Type) (enc : TypeId × Value → H) :
    ReturnsInHanded {} Try.checked os 14 .any (Rows.fnExactPailsForSpec.pre6 enc Try.prog Try.f14 Rows.fnExactPailsForRow.domain false) (Rows.fnExactPailsForSpec.post enc Try.prog Try.f14 false true false false) := by
  refine returnsInHanded_of_change (C := Try.checked) own started (by kernel_rfl) Try.func14
    (ChangeSpec.witness6 (enc := enc) (C := Try.checked) false ⟨#[], #[.agg Try.zeroCells26, .agg (Array.replicate 17 (.int .i16 0)), .int .i64 0], []⟩ 8 (by kernel_rfl) (by kernel_rfl) (by kernel_rfl) (by kernel_rfl)) ?_
  intro W base args ds gs before hval0 hW hcnd _
  have hval : ∀ (j : Nat) t v, Try.f14.params[j]? = some t → args[j]? = some v → Value.okWide Try.prog W .any base t v := hval0
  have hW' := hW
  obtain ⟨p, q, hA0, hV, rfl, hfz, hnd⟩ := hW
  have hA : DataW.TrodAll enc Try.prog W 0 (fun _ => true) true Try.f14.params.toList args.toList ds p := hA0
  rw [Try.params14] at hA hval
  obtain ⟨v0, vs0, d0, ds0, p0, q0, hargs, rfl, rfl, h0, r0⟩ := trodAll_cons hA
  obtain ⟨v1, vs1, d1, ds1, p1, q1, rfl, rfl, rfl, h1, r1⟩ := trodAll_cons r0
  obtain ⟨v2, vs2, d2, ds2, p2, q2, rfl, rfl, rfl, h2, r2⟩ := trodAll_cons r1
  obtain ⟨rfl, rfl, rfl⟩ := trodAll_nil r2
  obtain rfl : args = #[v0, v1, v2] := by cases args; simp_all
  obtain ⟨rfl, rfl⟩ := trodVars_none hV
  have k0 := h0
  have lt0 : ∀ x ∈ p0, x.block < W.heap.size := by obtain ⟨m, hm⟩ := k0; exact DataW.trod_lt m _ _ _ hm
  have k1 := h1
  have lt1 : ∀ x ∈ p1, x.block < W.heap.size := by obtain ⟨m, hm⟩ := k1; exact DataW.trod_lt m _ _ _ hm
  obtain ⟨c0, f0, rfl, wf0⟩ := open_roof (hval 0 26 v0 rfl rfl) h0
  obtain ⟨c1, f1, rfl, wf1⟩ := open_rain (hval 1 28 v1 rfl rfl) h1
  obtain ⟨x2, rfl, rfl, rfl, wx2⟩ := open_int Try.underlying2 (hval 2 2 v2 rfl rfl) h2
  clear hA0 hval0
  refine (law_walk_FnExactPailsFor wf0 wf1 (bounds_i64 wx2) W).mono fun e W' ⟨he, bel⟩ => ?_
  subst he
  exact ⟨_, rfl, _, _, _, [], _, [], hW', trodAll_mk1 (shut_bool Try.underlying4 _), (trodAll_cons_mk (Below.trod laidOut (by kernel_rfl) (of_decide_eq_true (by kernel_rfl)) k0 bel lt0) (trodAll_cons_mk (Below.trod laidOut (by kernel_rfl) (of_decide_eq_true (by kernel_rfl)) k1 bel lt1) (trodAll_cons_mk (shut_int Try.underlying2 wx2) trodAll_mk0))), rfl, bel.frame _, fun h => by cases h⟩

theorem over : Rows.fnExactPailsForRow.holds Try.pinned (OpenSpec.ofChange Rows.fnExactPailsForSpec) :=
  OpenClaim.holds_of_wide 14 Try.f14 rfl rfl rfl rfl rfl rfl rfl ⟨rfl, rfl, rfl, rfl, rfl⟩ rfl rfl rfl rfl rfl (by kernel_rfl) Try.func14 (by kernel_rfl)
    (of_decide_eq_true (by kernel_rfl)) (by unfold Func.isWrapper; first | (rw [if_pos (by decide +kernel)]; kernel_rfl) | (rw [if_neg (by decide +kernel)]; exact ⟨rfl, rfl⟩))
    (fun os started H enc _ => lifted os started H enc)

theorem proved : Rows.FnExactPailsForSaid := over
end LFnExactPailsFor


end Go.Proofs.Ytnjodicaehiadaa
