/- laws.FnExactSaveOf returns true for every roof, rain and place, and leaves them as they were. No condition. -/
import Derived.Test.YtfkcjgeeklngiaaSaveS
import Derived.Test.YtfkcjgeeklngiaaBox
import Derived.Test.YtfkcjgeeklngiaaOpen
import Derived.Deep.RegionHeld3
namespace Go.Proofs.Ytfkcjgeeklngiaa
open Go.RowKit

set_option maxRecDepth 100000 in
set_option maxHeartbeats 4000000 in
theorem law_walk_FnExactSaveOf {c : Array Value} {r : Rf} (hR : IsRoof c r) {d : Array Value} {t : Nat → Int} (hT : IsRain d t) {a b : Int} (ha : -128 ≤ a ∧ a ≤ 127) (hb : -128 ≤ b ∧ b ≤ 127) (w : World) :
    Calls Try.prog 3 #[.agg c, .agg d, .agg #[.int .i8 a, .int .i8 b]] w fun e w' => e = .returned (.bool true) ∧ Below w.heap.size w w' := by
  obtain ⟨l⟩ := d
  have pb := boxes3 w c l.toArray #[.int .i8 a, .int .i8 b] 26 28 30
  have hc := hR.size
  have hl : l.length = 17 := by have := hT.size; simpa using this
  have hu := Try.underlying28
  have hi : (Try.prog.info? 28).map (·.size) = some l.length := by rw [hl]; kernel_rfl
  have CS := fun w => specSaveOf_any c l.toArray r t a b w hR hT ha hb
  have CI := fun w => implSaveOf_any c l.toArray r t a b w hR hT
  have hne0 : (r.sval t a b != r.sval t a b) = false := by simp
  have hne1 : (r.scode t a b != r.scode t a b) = false := by simp
  generalize r.sval t a b = sv at *
  generalize r.scode t a b = cd at *
  go_enter Try.func3, Try.ntmps3
  go_wp2_with fail
  refine gen_world fun W hW => ?_
  rw [← hW] at pb
  clear hW
  have mk : ∀ (N : Nat) (W' : World), Boxes N w [(w.heap.size + 1 + 1, #[.int .i8 a, .int .i8 b]), (w.heap.size + 1, l.toArray), (w.heap.size, c)] W' → rowAt W' w.heap.size = some c ∧ W'.rangeAt (w.heap.size + 1) 0 l ∧ W'.cell? ⟨w.heap.size + 1 + 1, 0, none⟩ = some (.int .i8 a) ∧ W'.cell? ⟨w.heap.size + 1 + 1, 1, none⟩ = some (.int .i8 b) := fun N W' h => by
    have r0 := h.rows (w.heap.size, c) (by simp)
    have r1 := h.rows (w.heap.size + 1, l.toArray) (by simp)
    have r2 := h.rows (w.heap.size + 1 + 1, #[.int .i8 a, .int .i8 b]) (by simp)
    exact ⟨r0, rangeAt_of_row r1, cell_of_rowAt r2 0, cell_of_rowAt r2 1⟩
  have HM := Lib.hid mk
  clear mk
  go_region_held3 (fun w' => (rowAt w' w.heap.size = some c ∧ w'.rangeAt (w.heap.size + 1) 0 l ∧ w'.cell? ⟨w.heap.size + 1 + 1, 0, none⟩ = some (.int .i8 a) ∧ w'.cell? ⟨w.heap.size + 1 + 1, 1, none⟩ = some (.int .i8 b)) ∧ Boxes (w.heap.size + 1 + 1 + 1) w [(w.heap.size + 1 + 1, #[.int .i8 a, .int .i8 b]), (w.heap.size + 1, l.toArray), (w.heap.size, c)] w')
    ((refine mkS (HM.out _ _) ?_; first | exact pb.drew | exact Boxes.callA (by assumption) (by assumption)))
    (first | (go_at_call 16; (with_reducible refine (toRoof_any c r _ hR).mono ?_); rintro x wx ⟨rfl, bx⟩) | (go_at_call 17; (with_reducible refine (toRain_any l.toArray t _ hT).mono ?_); rintro x wx ⟨rfl, bx⟩) | (go_at_call 18; (with_reducible refine (toPlace_any a b _).mono ?_); rintro x wx ⟨rfl, bx⟩) | (go_at_call 15; (with_reducible refine (CS _).mono ?_); rintro x wx ⟨rfl, bx⟩))
  rename_i g
  clear pb
  go_wp2_with fail
  go_region_held3 (fun w' => (rowAt w' w.heap.size = some c ∧ w'.rangeAt (w.heap.size + 1) 0 l ∧ w'.cell? ⟨w.heap.size + 1 + 1, 0, none⟩ = some (.int .i8 a) ∧ w'.cell? ⟨w.heap.size + 1 + 1, 1, none⟩ = some (.int .i8 b)) ∧ Boxes (w.heap.size + 1 + 1 + 1) w [(w.heap.size + 1 + 1, #[.int .i8 a, .int .i8 b]), (w.heap.size + 1, l.toArray), (w.heap.size, c)] w')
    ((refine mkS (HM.out _ _) ?_; first | exact g.2.drew | exact Boxes.callA (by assumption) (by assumption)))
    (first | (go_at_call 16; (with_reducible refine (toRoof_any c r _ hR).mono ?_); rintro x wx ⟨rfl, bx⟩) | (go_at_call 17; (with_reducible refine (toRain_any l.toArray t _ hT).mono ?_); rintro x wx ⟨rfl, bx⟩) | (go_at_call 18; (with_reducible refine (toPlace_any a b _).mono ?_); rintro x wx ⟨rfl, bx⟩) | (go_at_call 19; (with_reducible refine (CI _).mono ?_); rintro x wx ⟨rfl, bx⟩))
  rename_i g2
  go_wp2_with fail
  go_ret
  exact ⟨rfl, g2.2.bel⟩

namespace LFnExactSaveOf
open Go.RowKit Go.ChangeShapes Go.WideShapes Go.ChangeAt
theorem own : ownKnob Try.prog.godebug = none := by kernel_rfl
theorem laidOut : laidOutB Try.prog = true := by kernel_rfl
set_option maxRecDepth 100000 in
theorem lifted (os : Os) (started : os.Started) (H : Type) (enc : TypeId × Value → H) :
    ReturnsInHanded {} Try.checked os 3 .any (Rows.fnExactSaveOfSpec.pre6 enc Try.prog Try.f3 Rows.fnExactSaveOfRow.domain false) (Rows.fnExactSaveOfSpec.post enc Try.prog Try.f3 false true false false) := by
  refine returnsInHanded_of_change (C := Try.checked) own started (by kernel_rfl) Try.func3
    (ChangeSpec.witness6 (enc := enc) (C := Try.checked) false ⟨#[], #[.agg Try.zeroCells26, .agg (Array.replicate 17 (.int .i16 0)), .agg #[.int .i8 0, .int .i8 0]], []⟩ 8 (by kernel_rfl) (by kernel_rfl) (by kernel_rfl) (by kernel_rfl)) ?_
  intro W base args ds gs before hval0 hW hcnd _
  have hval : ∀ (j : Nat) t v, Try.f3.params[j]? = some t → args[j]? = some v → Value.okWide Try.prog W .any base t v := hval0
  have hW' := hW
  obtain ⟨p, q, hA0, hV, rfl, hfz, hnd⟩ := hW
  have hA : DataW.TrodAll enc Try.prog W 0 (fun _ => true) true Try.f3.params.toList args.toList ds p := hA0
  rw [Try.params3] at hA hval
  obtain ⟨v0, vs0, d0, ds0, p0, q0, hargs, rfl, rfl, h0, r0⟩ := trodAll_cons hA
  obtain ⟨v1, vs1, d1, ds1, p1, q1, rfl, rfl, rfl, h1, r1⟩ := trodAll_cons r0
  obtain ⟨v2, vs2, d2, ds2, p2, q2, rfl, rfl, rfl, h2, r2⟩ := trodAll_cons r1
  obtain ⟨rfl, rfl, rfl⟩ := trodAll_nil r2
  obtain rfl : args = #[v0, v1, v2] := by cases args; simp_all
  obtain ⟨rfl, rfl⟩ := trodVars_none hV
  have k0 := h0
  have lt0 : ∀ x ∈ p0, x.block < W.heap.size := by obtain ⟨m, hm⟩ := k0; exact DataW.trod_lt m _ _ _ hm
  have k1 := h1
  have lt1 : ∀ x ∈ p1, x.block < W.heap.size := by obtain ⟨m, hm⟩ := k1; exact DataW.trod_lt m _ _ _ hm
  have k2 := h2
  have lt2 : ∀ x ∈ p2, x.block < W.heap.size := by obtain ⟨m, hm⟩ := k2; exact DataW.trod_lt m _ _ _ hm
  obtain ⟨c0, f0, rfl, wf0⟩ := open_roof (hval 0 26 v0 rfl rfl) h0
  obtain ⟨c1, f1, rfl, wf1⟩ := open_rain (hval 1 28 v1 rfl rfl) h1
  obtain ⟨a2, b2, rfl, wa2, wb2⟩ := open_place (hval 2 30 v2 rfl rfl) h2
  clear hA0 hval0
  refine (law_walk_FnExactSaveOf wf0 wf1 wa2 wb2 W).mono fun e W' ⟨he, bel⟩ => ?_
  subst he
  exact ⟨_, rfl, _, _, _, [], _, [], hW', trodAll_mk1 (shut_bool Try.underlying4 _), (trodAll_cons_mk (Below.trod laidOut (by kernel_rfl) (of_decide_eq_true (by kernel_rfl)) k0 bel lt0) (trodAll_cons_mk (Below.trod laidOut (by kernel_rfl) (of_decide_eq_true (by kernel_rfl)) k1 bel lt1) (trodAll_cons_mk (Below.trod laidOut (by kernel_rfl) (of_decide_eq_true (by kernel_rfl)) k2 bel lt2) trodAll_mk0))), rfl, bel.frame _, fun h => by cases h⟩

theorem over : Rows.fnExactSaveOfRow.holds Try.pinned (OpenSpec.ofChange Rows.fnExactSaveOfSpec) :=
  OpenClaim.holds_of_wide 3 Try.f3 rfl rfl rfl rfl rfl rfl rfl ⟨rfl, rfl, rfl, rfl, rfl⟩ rfl rfl rfl rfl rfl (by kernel_rfl) Try.func3 (by kernel_rfl)
    (of_decide_eq_true (by kernel_rfl)) (by unfold Func.isWrapper; first | (rw [if_pos (by decide +kernel)]; kernel_rfl) | (rw [if_neg (by decide +kernel)]; exact ⟨rfl, rfl⟩))
    (fun os started H enc _ => lifted os started H enc)

theorem proved : Rows.FnExactSaveOfSaid := over
end LFnExactSaveOf


end Go.Proofs.Ytfkcjgeeklngiaa
