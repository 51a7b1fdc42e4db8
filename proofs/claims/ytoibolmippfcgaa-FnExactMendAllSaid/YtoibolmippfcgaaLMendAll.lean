/- laws.FnExactMendAll returns true for every roof, and leaves them as they were. No condition. -/
import Derived.Test.YtoibolmippfcgaaHelp
import Derived.Test.YtoibolmippfcgaaOpen
import Derived.Test.YtoibolmippfcgaaNums
import Derived.Test.YtoibolmippfcgaaSame
import Derived.Test.YtoibolmippfcgaaEnd
import Derived.Test.YtoibolmippfcgaaMendAll
namespace Go.Proofs.Ytoibolmippfcgaa
open Go.RowKit

theorem gen_callsX {P : Program} {f : FuncId} {args : Array Value} {Q : Ending → World → Prop} {w : World} (h : ∀ W, W = w → Calls P f args W Q) : Calls P f args w Q := h w rfl

set_option maxRecDepth 100000 in
set_option maxHeartbeats 2000000 in
theorem law_walk_FnExactMendAll {c : Array Value} {r : Rf} (hR : IsRoof c r) (w : World) :
    Calls Try.prog 5 #[.agg c] w fun e w' => e = .returned (.bool true) ∧ Below w.heap.size w w' := by
  have hc := hR.size
  have p0 := rowAt_alloc_at w c 26 w.heap.size rfl
  have pB : Below w.heap.size w (w.alloc (.cells c 26)) := (Below.refl _ _).alloc (Nat.le_refl _) _
  have CS := fun w => specMendAll_any c r w hR
  have CI := fun w => implMendAll_any c r w hR
  have hX := Rf.maA_is (r := r) hR
  generalize (r.maA c) = X at *
  have hne0 : ((r.maN) != (r.maN)) = false := by simp
  generalize (r.maN) = v0 at *
  have hne1 : ((r.okc) != (r.okc)) = false := by simp
  generalize (r.okc) = v1 at *
  have hzs := zroof_size
  have hXs := hX.size
  have hXo := hX.ones
  have CE := fun w => eqRoof_same X _ w hX
  go_enter Try.func5, Try.ntmps5
  go_wp2_with fail
  refine (toRoof_any c r _ hR).mono ?_
  rintro e w1 ⟨rfl, b1⟩
  have q1 := brow b1 p0
  have B1 := bnext pB b1 pB.size
  clear b1 p0 pB
  go_wp2_with fail
  refine (CS _).mono ?_
  rintro e w2 ⟨rfl, b2⟩
  have q2 := brow b2 q1
  have B2 := bnext B1 b2 B1.size
  have lt2 := rowAt_lt q2
  clear b2 q1 B1
  go_wp2_with fail
  refine gen_callsX fun W hW => ?_
  have p0 : rowAt W w.heap.size = some c := by rw [hW]; exact (rowAt_alloc_past _ _ _ lt2).trans q2
  have p1 : rowAt W w2.heap.size = some X := by rw [hW]; exact rowAt_alloc_at _ _ _ _ rfl
  have pB : Below w.heap.size w W := by rw [hW]; exact B2.alloc B2.size _
  clear hW q2 B2
  refine (toRoof_any c r _ hR).mono ?_
  rintro e w3 ⟨rfl, b3⟩
  have q3 := brow b3 p1
  have B3 := bnext pB b3 pB.size
  clear b3 p0 p1 pB
  go_wp2_with fail
  refine (CI _).mono ?_
  rintro e w4 ⟨rfl, b4⟩
  have q4 := brow b4 q3
  have B4 := bnext B3 b4 B3.size
  have lt4 := rowAt_lt q4
  clear b4 q3 B3
  go_wp2_with fail
  refine (CE _).mono ?_
  rintro e w5 ⟨rfl, b5⟩
  have B5 := bnext (B4.alloc B4.size _) b5 (by have := B4.size; simp; omega)
  clear b5 B4
  go_wp2_with fail
  go_ret
  exact ⟨rfl, B5⟩

namespace LFnExactMendAll
open Go.RowKit Go.ChangeShapes Go.WideShapes Go.ChangeAt
theorem own : ownKnob Try.prog.godebug = none := by kernel_rfl
theorem laidOut : laidOutB Try.prog = true := by kernel_rfl
set_option maxRecDepth 100000 in
theorem lifted (os : Os) (started : os.Started) (H : Type) (enc : TypeId × Value → H) :
    ReturnsInHanded {} Try.checked os 5 .any (Rows.fnExactMendAllSpec.pre6 enc Try.prog Try.f5 Rows.fnExactMendAllRow.domain false) (Rows.fnExactMendAllSpec.post enc Try.prog Try.f5 false true false false) := by
  refine returnsInHanded_of_change (C := Try.checked) own started (by kernel_rfl) Try.func5
    (ChangeSpec.witness6 (enc := enc) (C := Try.checked) false ⟨#[], #[.agg Try.zeroCells26], []⟩ 8 (by kernel_rfl) (by kernel_rfl) (by kernel_rfl) (by kernel_rfl)) ?_
  intro W base args ds gs before hval0 hW hcnd _
  have hval : ∀ (j : Nat) t v, Try.f5.params[j]? = some t → args[j]? = some v → Value.okWide Try.prog W .any base t v := hval0
  have hW' := hW
  obtain ⟨p, q, hA0, hV, rfl, hfz, hnd⟩ := hW
  have hA : DataW.TrodAll enc Try.prog W 0 (fun _ => true) true Try.f5.params.toList args.toList ds p := hA0
  rw [Try.params5] at hA hval
  obtain ⟨v0, vs0, d0, ds0, p0, q0, hargs, rfl, rfl, h0, r0⟩ := trodAll_cons hA
  obtain ⟨rfl, rfl, rfl⟩ := trodAll_nil r0
  obtain rfl : args = #[v0] := by cases args; simp_all
  obtain ⟨rfl, rfl⟩ := trodVars_none hV
  have k0 := h0
  have lt0 : ∀ x ∈ p0, x.block < W.heap.size := by obtain ⟨m, hm⟩ := k0; exact DataW.trod_lt m _ _ _ hm
  obtain ⟨c0, f0, rfl, wf0⟩ := open_roof (hval 0 26 v0 rfl rfl) h0
  clear hA0 hval0
  refine (law_walk_FnExactMendAll wf0 W).mono fun e W' ⟨he, bel⟩ => ?_
  subst he
  exact ⟨_, rfl, _, _, _, [], _, [], hW', trodAll_mk1 (shut_bool Try.underlying4 _), (trodAll_cons_mk (Below.trod laidOut (by kernel_rfl) (of_decide_eq_true (by kernel_rfl)) k0 bel lt0) trodAll_mk0), rfl, bel.frame _, fun h => by cases h⟩

theorem over : Rows.fnExactMendAllRow.holds Try.pinned (OpenSpec.ofChange Rows.fnExactMendAllSpec) :=
  OpenClaim.holds_of_wide 5 Try.f5 rfl rfl rfl rfl rfl rfl rfl ⟨rfl, rfl, rfl, rfl, rfl⟩ rfl rfl rfl rfl rfl (by kernel_rfl) Try.func5 (by kernel_rfl)
    (of_decide_eq_true (by kernel_rfl)) (by unfold Func.isWrapper; first | (rw [if_pos (by decide +kernel)]; kernel_rfl) | (rw [if_neg (by decide +kernel)]; exact ⟨rfl, rfl⟩))
    (fun os started H enc _ => lifted os started H enc)

theorem proved : Rows.FnExactMendAllSaid := over
end LFnExactMendAll


end Go.Proofs.Ytoibolmippfcgaa
