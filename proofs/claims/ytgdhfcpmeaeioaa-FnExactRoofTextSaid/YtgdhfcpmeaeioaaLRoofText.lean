/- laws.FnExactRoofText returns true for every roof, and leaves it as it was. No condition. -/
import Derived.Test.YtgdhfcpmeaeioaaHelp
import Derived.Test.YtgdhfcpmeaeioaaRfY
import Derived.Test.YtgdhfcpmeaeioaaOpen
namespace Go.Proofs.Ytgdhfcpmeaeioaa
open Go.RowKit

set_option maxHeartbeats 400000 in
theorem law_walk_FnExactRoofText {c : Array Value} {r : Rf} (hR : IsRoof c r) (w : World) :
    Calls Try.prog 3 #[.agg c] w fun e w' => e = .returned (.bool true) ∧ Below w.heap.size w w' := by
  have hc := hR.size
  have CS := fun W => specRoofText_any c r W hR
  have CI := fun W => implRoofText_any c r W hR
  generalize (⟨r.text.toArray⟩ : ByteArray) = S at *
  go_enter Try.func3, Try.ntmps3
  go_wp2_with fail
  refine (toRoof_any c r _ hR).mono ?_
  rintro e w1 ⟨rfl, b1⟩
  have q1 := brow b1 (rowAt_alloc_at _ _ _ _ rfl)
  have B1 : Below w.heap.size w w1 := ((Below.refl _ _).alloc (Nat.le_refl _) _).trans (b1.mono (by simp))
  clear b1
  go_wp2_with fail
  refine (CS _).mono ?_
  rintro e w2 ⟨rfl, b2⟩
  have q2 := brow b2 q1
  have B2 := B1.trans (b2.mono B1.size)
  clear b2 q1 B1
  go_wp2_with fail
  refine (toRoof_any c r _ hR).mono ?_
  rintro e w3 ⟨rfl, b3⟩
  have B3 := B2.trans (b3.mono B2.size)
  clear b3 q2 B2
  go_wp2_with fail
  refine (CI _).mono ?_
  rintro e w4 ⟨rfl, b4⟩
  have B4 := B3.trans (b4.mono B3.size)
  clear b4 B3
  go_wp2_with fail
  go_ret
  exact ⟨rfl, B4⟩

namespace LFnExactRoofText
open Go.RowKit Go.ChangeShapes Go.WideShapes Go.ChangeAt
theorem own : ownKnob Try.prog.godebug = none := by kernel_rfl
theorem laidOut : laidOutB Try.prog = true := by kernel_rfl
set_option maxRecDepth 100000 in
theorem lifted (os : Os) (started : os.Started) (H : Type) (enc : TypeId × Value → H) :
    ReturnsInHanded {} Try.checked os 3 .any (Rows.fnExactRoofTextSpec.pre6 enc Try.prog Try.f3 Rows.fnExactRoofTextRow.domain false) (Rows.fnExactRoofTextSpec.post enc Try.prog Try.f3 false true false false) := by
  refine returnsInHanded_of_change (C := Try.checked) own started (by kernel_rfl) Try.func3
    (ChangeSpec.witness6 (enc := enc) (C := Try.checked) false ⟨#[], #[.agg Try.zeroCells26], []⟩ 8 (by kernel_rfl) (by kernel_rfl) (by kernel_rfl) (by kernel_rfl)) ?_
  intro W base args ds gs before hval0 hW hcnd _
  have hval : ∀ (j : Nat) t v, Try.f3.params[j]? = some t → args[j]? = some v → Value.okWide Try.prog W .any base t v := hval0
  have hW' := hW
  obtain ⟨p, q, hA0, hV, rfl, hfz, hnd⟩ := hW
  have hA : DataW.TrodAll enc Try.prog W 0 (fun _ => true) true Try.f3.params.toList args.toList ds p := hA0
  rw [Try.params3] at hA hval
  obtain ⟨v0, vs0, d0, ds0, p0, q0, hargs, rfl, rfl, h0, r0⟩ := trodAll_cons hA
  obtain ⟨rfl, rfl, rfl⟩ := trodAll_nil r0
  obtain rfl : args = #[v0] := by cases args; simp_all
  obtain ⟨rfl, rfl⟩ := trodVars_none hV
  have k0 := h0
  have lt0 : ∀ x ∈ p0, x.block < W.heap.size := by obtain ⟨m, hm⟩ := k0; exact DataW.trod_lt m _ _ _ hm
  obtain ⟨c0, f0, rfl, wf0⟩ := open_roof (hval 0 26 v0 rfl rfl) h0
  clear hA0 hval0
  refine (law_walk_FnExactRoofText wf0 W).mono fun e W' ⟨he, bel⟩ => ?_
  subst he
  exact ⟨_, rfl, _, _, _, [], _, [], hW', trodAll_mk1 (shut_bool Try.underlying4 _), (trodAll_cons_mk (Below.trod laidOut (by kernel_rfl) (of_decide_eq_true (by kernel_rfl)) k0 bel lt0) trodAll_mk0), rfl, bel.frame _, fun h => by cases h⟩

theorem over : Rows.fnExactRoofTextRow.holds Try.pinned (OpenSpec.ofChange Rows.fnExactRoofTextSpec) :=
  OpenClaim.holds_of_wide 3 Try.f3 rfl rfl rfl rfl rfl rfl rfl ⟨rfl, rfl, rfl, rfl, rfl⟩ rfl rfl rfl rfl rfl (by kernel_rfl) Try.func3 (by kernel_rfl)
    (of_decide_eq_true (by kernel_rfl)) (by unfold Func.isWrapper; first | (rw [if_pos (by decide +kernel)]; kernel_rfl) | (rw [if_neg (by decide +kernel)]; exact ⟨rfl, rfl⟩))
    (fun os started H enc _ => lifted os started H enc)

theorem proved : Rows.FnExactRoofTextSaid := over
end LFnExactRoofText

end Go.Proofs.Ytgdhfcpmeaeioaa
