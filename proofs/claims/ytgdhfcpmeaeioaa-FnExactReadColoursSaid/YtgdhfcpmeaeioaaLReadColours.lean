/- laws.FnExactReadColours returns true for every roof and every text. No condition. -/
import Derived.Test.YtgdhfcpmeaeioaaHelp
import Derived.Test.YtgdhfcpmeaeioaaOpen
import Derived.Test.YtgdhfcpmeaeioaaTcI
import Derived.Test.YtgdhfcpmeaeioaaTcS
import Derived.ShutString
namespace Go.Proofs.Ytgdhfcpmeaeioaa
open Go.RowKit
open Go.ChangeMaps (open_string shut_string)

set_option maxRecDepth 100000 in
set_option maxHeartbeats 2000000 in
theorem law_walk_FnExactReadColours {w : World} {c : Array Value} {r : Rf} (hR : IsRoof c r) {s : ByteArray} (hs : s.size ≤ maxLen) :
    Calls Try.prog 5 #[.agg c, .string s] w fun e w' => e = .returned (.bool true) ∧ Below w.heap.size w w' := by
  have hc := hR.size
  unfold maxLen at hs
  have q0 := rowAt_alloc_at w c 26 w.heap.size rfl
  have PB0 : Below w.heap.size w (w.alloc (.cells c 26)) := (Below.refl _ _).alloc (Nat.le_refl _) _
  by_cases hl : s.size ≤ 1048576
  rotate_left
  · have hl1 : (1048576 : Int) < s.size := by omega
    go_enter Try.func5, Try.ntmps5
    go_wp2_with fail
    go_ret
    exact ⟨rfl, PB0⟩
  have hl1 : ¬ (1048576 : Int) < s.size := by omega
  obtain ⟨X, hX⟩ : ∃ X, mkC (r.rcG s.data.toList) = X := ⟨_, rfl⟩
  have hI : IsCol X (r.rcG s.data.toList) := by rw [← hX]; exact isCol_mkC rcG_lt
  have CS := fun W => specReadColours_any c r s W hR (by omega) X hX
  have CI := fun W => implReadColours_any c r s W hR X hX
  have hne : ((r.rcC s.data.toList) != (r.rcC s.data.toList)) = false := by simp
  generalize r.rcC s.data.toList = v0 at *
  have hXs := hI.size
  have hXo := hI.ones
  have CE := fun w => eqCol_same X _ w hI
  clear hX hl
  go_enter Try.func5, Try.ntmps5
  go_wp2_with fail
  refine gen_callsW fun W0 hW => ?_
  rw [← hW] at q0 PB0
  clear hW
  refine (toRoof_any c r _ hR).mono ?_
  rintro e w1 ⟨rfl, b1⟩
  have q1 := brow b1 q0
  have B1 := bnext PB0 b1 PB0.size
  clear b1 q0 PB0
  go_wp2_with fail
  refine (CS _).mono ?_
  rintro e w2 ⟨rfl, b2⟩
  have q2 := brow b2 q1
  have B2 := bnext B1 b2 B1.size
  clear b2 q1 B1 CS
  have lq := rowAt_lt q2
  have nq : w.heap.size ≠ w2.heap.size := Nat.ne_of_lt lq
  go_wp2_with fail
  refine gen_callsW fun W3 hW => ?_
  have q3 : rowAt W3 w.heap.size = some c := by rw [hW]; exact (rowAt_alloc_past _ _ _ (rowAt_lt q2)).trans q2
  have x3 : rowAt W3 w2.heap.size = some X := by rw [hW]; exact rowAt_alloc_at _ _ _ _ rfl
  have B3 : Below w.heap.size w W3 := by rw [hW]; exact B2.alloc B2.size _
  clear hW q2 B2
  refine (toRoof_any c r _ hR).mono ?_
  rintro e w4 ⟨rfl, b4⟩
  have x4 := brow b4 x3
  have B4 := bnext B3 b4 B3.size
  clear b4 q3 x3 B3 lq nq
  go_wp2_with fail
  refine (CI _).mono ?_
  rintro e w5 ⟨rfl, b5⟩
  have x5 := brow b5 x4
  have B5 := bnext B4 b5 B4.size
  clear b5 x4 B4 CI
  have lx := rowAt_lt x5
  have nx : w2.heap.size ≠ w5.heap.size := Nat.ne_of_lt lx
  go_wp2_with fail
  refine gen_callsW fun W6 hW => ?_
  have B6 : Below w.heap.size w W6 := by rw [hW]; first | exact B5.alloc B5.size _ | exact (B5.alloc B5.size _).drew
  clear hW x5
  refine (CE _).mono ?_
  rintro e w7 ⟨rfl, b7⟩
  have B7 := bnext B6 b7 B6.size
  clear b7 B6
  go_wp2_with fail
  go_ret
  exact ⟨rfl, B7⟩

namespace LFnExactReadColours
open Go.RowKit Go.ChangeShapes Go.WideShapes Go.ChangeAt
theorem own : ownKnob Try.prog.godebug = none := by kernel_rfl
theorem laidOut : laidOutB Try.prog = true := by kernel_rfl
set_option maxRecDepth 100000 in
theorem lifted (os : Os) (started : os.Started) (H : Type) (enc : TypeId × Value → H) :
    ReturnsInHanded {} Try.checked os 5 .any (Rows.fnExactReadColoursSpec.pre6 enc Try.prog Try.f5 Rows.fnExactReadColoursRow.domain false) (Rows.fnExactReadColoursSpec.post enc Try.prog Try.f5 false true false false) := by
  refine returnsInHanded_of_change (C := Try.checked) own started (by kernel_rfl) Try.func5
    (ChangeSpec.witness6 (enc := enc) (C := Try.checked) false ⟨#[], #[.agg Try.zeroCells26, .string ByteArray.empty], []⟩ 8 (by kernel_rfl) (by kernel_rfl) (by kernel_rfl) (by kernel_rfl)) ?_
  intro W base args ds gs before hval0 hW hcnd _
  have hval : ∀ (j : Nat) t v, Try.f5.params[j]? = some t → args[j]? = some v → Value.okWide Try.prog W .any base t v := hval0
  have hW' := hW
  obtain ⟨p, q, hA0, hV, rfl, hfz, hnd⟩ := hW
  have hA : DataW.TrodAll enc Try.prog W 0 (fun _ => true) true Try.f5.params.toList args.toList ds p := hA0
  rw [Try.params5] at hA hval
  obtain ⟨v0, vs0, d0, ds0, p0, q0, hargs, rfl, rfl, h0, r0⟩ := trodAll_cons hA
  obtain ⟨v1, vs1, d1, ds1, p1, q1, rfl, rfl, rfl, h1, r1⟩ := trodAll_cons r0
  obtain ⟨rfl, rfl, rfl⟩ := trodAll_nil r1
  obtain rfl : args = #[v0, v1] := by cases args; simp_all
  obtain ⟨rfl, rfl⟩ := trodVars_none hV
  have k0 := h0
  have lt0 : ∀ x ∈ p0, x.block < W.heap.size := by obtain ⟨m, hm⟩ := k0; exact DataW.trod_lt m _ _ _ hm
  obtain ⟨c0, f0, rfl, wf0⟩ := open_roof (hval 0 26 v0 rfl rfl) h0
  obtain ⟨s1, rfl, rfl, rfl, ws1⟩ := open_string Try.underlying9 (hval 1 9 v1 rfl rfl) h1
  clear hA0 hval0
  refine (law_walk_FnExactReadColours (w := W) wf0 ws1).mono fun e W' ⟨he, bel⟩ => ?_
  subst he
  exact ⟨_, rfl, _, _, _, [], _, [], hW', trodAll_mk1 (shut_bool Try.underlying4 _), (trodAll_cons_mk (Below.trod laidOut (by kernel_rfl) (of_decide_eq_true (by kernel_rfl)) k0 bel lt0) (trodAll_cons_mk (shut_string (s := s1) Try.underlying9 ws1) trodAll_mk0)), rfl, bel.frame _, fun h => by cases h⟩

theorem over : Rows.fnExactReadColoursRow.holds Try.pinned (OpenSpec.ofChange Rows.fnExactReadColoursSpec) :=
  OpenClaim.holds_of_wide 5 Try.f5 rfl rfl rfl rfl rfl rfl rfl ⟨rfl, rfl, rfl, rfl, rfl⟩ rfl rfl rfl rfl rfl (by kernel_rfl) Try.func5 (by kernel_rfl)
    (of_decide_eq_true (by kernel_rfl)) (by unfold Func.isWrapper; first | (rw [if_pos (by decide +kernel)]; kernel_rfl) | (rw [if_neg (by decide +kernel)]; exact ⟨rfl, rfl⟩))
    (fun os started H enc _ => lifted os started H enc)

theorem proved : Rows.FnExactReadColoursSaid := over
end LFnExactReadColours


end Go.Proofs.Ytgdhfcpmeaeioaa
