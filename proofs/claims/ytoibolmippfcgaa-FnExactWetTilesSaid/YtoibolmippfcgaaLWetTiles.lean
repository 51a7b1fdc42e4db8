/- laws.FnExactWetTiles returns true for every roof and rain, and leaves them as they were. No condition. -/
import Derived.Test.YtoibolmippfcgaaRainV
import Derived.Test.YtoibolmippfcgaaRHeld
import Derived.Test.YtoibolmippfcgaaListP
import Derived.Test.YtoibolmippfcgaaHeld
import Derived.Test.YtoibolmippfcgaaWetT
import Derived.Deep.RegionHeld3
namespace Go.Proofs.Ytoibolmippfcgaa
open Go.RowKit

set_option maxRecDepth 100000 in
set_option maxHeartbeats 4000000 in
theorem law_walk_FnExactWetTiles {c : Array Value} {r : Rf} (hR : IsRoof c r) {d : Array Value} {t : Nat → Int} (hT : IsRain d t) (w : World) :
    Calls Try.prog 7 #[.agg c, .agg d] w fun e w' => e = .returned (.bool true) ∧ Below w.heap.size w w' := by
  obtain ⟨l⟩ := d
  obtain ⟨p0, p1, pB⟩ := two_boxes w c l.toArray 26 44
  have hc := hR.size
  have hl : l.length = 17 := by have := hT.size; simpa using this
  have hu := Try.underlying44
  have hi : (Try.prog.info? 44).map (·.size) = some l.length := by rw [hl]; kernel_rfl
  have CS := fun w => specWetTiles_any c l.toArray r t w hR hT
  have CI := fun w => implWetTiles_any c l.toArray r t w hR hT
  unfold GivesPs at CS CI
  generalize hcode : r.rcode t = code at CS CI
  have hcc : (code != code) = false := by simp
  have hle : (r.wtL t true).length ≤ 64 := r.wtL_le t true
  generalize hnn : (r.wtL t true).length = nn at *
  generalize hff : plAt (r.wtL t true) = ff at *
  have hnb : nn ≤ 1000000 := by omega
  obtain ⟨M, hM⟩ : ∃ M : Int, M = ((1 + 2 * nn : Nat) : Int) := ⟨_, rfl⟩
  have hM0 : 0 ≤ M := by omega
  have hmm : (M != M) = false := by simp
  have hml : decide (M < 0) = false := by simp; omega
  have HM := Lib.hid hM
  clear hM hcode hnn hff
  go_enter Try.func7, Try.ntmps7
  go_wp2_with fail
  refine gen_world fun W hW => ?_
  rw [← hW] at p0 p1 pB
  clear hW
  go_region_held3 (fun w' => rowAt w' w.heap.size = some c ∧ rowAt w' (w.heap.size + 1) = some l.toArray ∧ w'.rangeAt (w.heap.size + 1) 0 l ∧ Below w.heap.size w w' ∧ w.heap.size ≤ w'.heap.size ∧ w.heap.size ≤ w'.heap.size ∧ True)
    (first | exact rheld0 p0 p1 pB pB.size pB.size trivial | exact rheldX (by assumption) id (by assumption))
    (first | (go_at_call 13; (with_reducible refine (toRoof_any c r _ hR).mono ?_); rintro x wx ⟨rfl, bx⟩) | (go_at_call 26; (with_reducible refine (toRain_any l.toArray t _ hT).mono ?_); rintro x wx ⟨rfl, bx⟩) | (go_at_call 25; (with_reducible refine (CS _).mono ?_); rintro x wx ⟨v0, rfl, l0, bx⟩))
  rename_i g
  clear p0 p1 pB
  obtain ⟨N, hN⟩ : ∃ N, N = wx.heap.size := ⟨_, rfl⟩
  have hNle : N ≤ wx.heap.size := by omega
  have lt0 := l0.lt (Nat.le_of_eq hN.symm)
  have hN0 : wx.heap.size ≤ N := by omega
  have p2 := g.2.1
  have l0' := l0.mono (Nat.zero_le _)
  clear l0 hN
  go_wp2_with fail
  go_region_held3 (fun w' => rowAt w' w.heap.size = some c ∧ rowAt w' (w.heap.size + 1) = some l.toArray ∧ w'.rangeAt (w.heap.size + 1) 0 l ∧ Below w.heap.size w w' ∧ w.heap.size ≤ w'.heap.size ∧ N ≤ w'.heap.size ∧ IsList w' 0 v0 2 nn (fun i => .int .i8 (ff i)))
    (first | exact rheld0 g.1 g.2.1 g.2.2.2.1 g.2.2.2.2.1 hNle l0' | exact rheldL (by assumption) (by assumption))
    (first | (go_at_call 13; (with_reducible refine (toRoof_any c r _ hR).mono ?_); rintro x wx ⟨rfl, bx⟩) | (go_at_call 26; (with_reducible refine (toRain_any l.toArray t _ hT).mono ?_); rintro x wx ⟨rfl, bx⟩) | (go_at_call 27; have hNc := rheldN (by assumption); (with_reducible refine (CI _).mono ?_); rintro x wx ⟨v1, rfl, l1, bx⟩; replace l1 := l1.mono hNc))
  rename_i g2
  clear l0'
  go_wp2_with fail
  refine (eqPlaceS_same nn ff v1 v0 _ _ _ l1 g2.2.2.2.2.2.2 (by omega)).mono ?_
  rintro x wa ⟨rfl, ba⟩
  have l1a := l1.below ba (Nat.le_refl _)
  have g3 := rheldL ba g2
  clear ba l1
  go_wp2_with fail
  refine (markP1 nn _ v1 N M HM.out _ l1a hnb).mono ?_
  rintro x wb ⟨rfl, l1b, bb⟩
  have hnN : w.heap.size + 1 < N := Nat.lt_of_lt_of_le (rowAt_lt p2) hN0
  have g4 := rheldM bb (by omega) hnN (by omega) (fun h => h.kept2 bb lt0) g3
  clear bb l1a g3 g2 g
  go_wp2_with fail
  refine (heldP1 nn v1 N M HM.out _ l1b hnb).mono ?_
  rintro x wc ⟨rfl, rfl⟩
  go_wp2_with fail
  go_region_held3 (fun w' => rowAt w' w.heap.size = some c ∧ rowAt w' (w.heap.size + 1) = some l.toArray ∧ w'.rangeAt (w.heap.size + 1) 0 l ∧ Below w.heap.size w w' ∧ w.heap.size ≤ w'.heap.size ∧ N ≤ w'.heap.size ∧ IsList w' 0 v0 2 nn (fun i => .int .i8 (ff i)) ∧ IsList w' N v1 2 nn (fun i => .int .i8 (markP 1 i)))
    (first | exact rheld0 g4.1 g4.2.1 g4.2.2.2.1 g4.2.2.2.2.1 g4.2.2.2.2.2.1 ⟨g4.2.2.2.2.2.2, l1b⟩ | exact rheldLL (by assumption) (by assumption))
    (first | (go_at_call 13; (with_reducible refine (toRoof_any c r _ hR).mono ?_); rintro x wx ⟨rfl, bx⟩) | (go_at_call 26; (with_reducible refine (toRain_any l.toArray t _ hT).mono ?_); rintro x wx ⟨rfl, bx⟩) | (go_at_call 27; (with_reducible refine (CI _).mono ?_); rintro x wx ⟨v2, rfl, l2, bx⟩))
  rename_i g5
  clear g4 l1b
  go_wp2_with fail
  refine (eqPlaceS_same nn ff v2 v0 _ _ _ l2 g5.2.2.2.2.2.2.1 (by omega)).mono ?_
  rintro x wd ⟨rfl, bd⟩
  have g6 := rheldLL bd g5
  clear bd l2 g5
  go_wp2_with fail
  refine (heldP1 nn v1 N M HM.out _ g6.2.2.2.2.2.2.2 hnb).mono ?_
  rintro x we ⟨rfl, rfl⟩
  go_wp2_with fail
  go_ret
  exact ⟨rfl, g6.2.2.2.1⟩

namespace LFnExactWetTiles
open Go.RowKit Go.ChangeShapes Go.WideShapes Go.ChangeAt
theorem own : ownKnob Try.prog.godebug = none := by kernel_rfl
theorem laidOut : laidOutB Try.prog = true := by kernel_rfl
set_option maxRecDepth 100000 in
theorem lifted (os : Os) (started : os.Started) (H : Type) (enc : TypeId × Value → H) :
    ReturnsInHanded {} Try.checked os 7 .any (Rows.fnExactWetTilesSpec.pre6 enc Try.prog Try.f7 Rows.fnExactWetTilesRow.domain false) (Rows.fnExactWetTilesSpec.post enc Try.prog Try.f7 false true false false) := by
  refine returnsInHanded_of_change (C := Try.checked) own started (by kernel_rfl) Try.func7
    (ChangeSpec.witness6 (enc := enc) (C := Try.checked) false ⟨#[], #[.agg Try.zeroCells26, .agg (Array.replicate 17 (.int .i16 0))], []⟩ 8 (by kernel_rfl) (by kernel_rfl) (by kernel_rfl) (by kernel_rfl)) ?_
  intro W base args ds gs before hval0 hW hcnd _
  have hval : ∀ (j : Nat) t v, Try.f7.params[j]? = some t → args[j]? = some v → Value.okWide Try.prog W .any base t v := hval0
  have hW' := hW
  obtain ⟨p, q, hA0, hV, rfl, hfz, hnd⟩ := hW
  have hA : DataW.TrodAll enc Try.prog W 0 (fun _ => true) true Try.f7.params.toList args.toList ds p := hA0
  rw [Try.params7] at hA hval
  obtain ⟨v0, vs0, d0, ds0, p0, q0, hargs, rfl, rfl, h0, r0⟩ := trodAll_cons hA
  obtain ⟨v1, vs1, d1, ds1, p1, q1, rfl, rfl, rfl, h1, r1⟩ := trodAll_cons r0
  obtain ⟨rfl, rfl, rfl⟩ := trodAll_nil r1
  obtain rfl : args = #[v0, v1] := by cases args; simp_all
  obtain ⟨rfl, rfl⟩ := trodVars_none hV
  have k0 := h0
  have lt0 : ∀ x ∈ p0, x.block < W.heap.size := by obtain ⟨m, hm⟩ := k0; exact DataW.trod_lt m _ _ _ hm
  have k1 := h1
  have lt1 : ∀ x ∈ p1, x.block < W.heap.size := by obtain ⟨m, hm⟩ := k1; exact DataW.trod_lt m _ _ _ hm
  obtain ⟨c0, f0, rfl, wf0⟩ := open_roof (hval 0 26 v0 rfl rfl) h0
  obtain ⟨c1, f1, rfl, wf1⟩ := open_rain (hval 1 44 v1 rfl rfl) h1
  clear hA0 hval0
  refine (law_walk_FnExactWetTiles wf0 wf1 W).mono fun e W' ⟨he, bel⟩ => ?_
  subst he
  exact ⟨_, rfl, _, _, _, [], _, [], hW', trodAll_mk1 (shut_bool Try.underlying4 _), (trodAll_cons_mk (Below.trod laidOut (by kernel_rfl) (of_decide_eq_true (by kernel_rfl)) k0 bel lt0) (trodAll_cons_mk (Below.trod laidOut (by kernel_rfl) (of_decide_eq_true (by kernel_rfl)) k1 bel lt1) trodAll_mk0)), rfl, bel.frame _, fun h => by cases h⟩

theorem over : Rows.fnExactWetTilesRow.holds Try.pinned (OpenSpec.ofChange Rows.fnExactWetTilesSpec) :=
  OpenClaim.holds_of_wide 7 Try.f7 rfl rfl rfl rfl rfl rfl rfl ⟨rfl, rfl, rfl, rfl, rfl⟩ rfl rfl rfl rfl rfl (by kernel_rfl) Try.func7 (by kernel_rfl)
    (of_decide_eq_true (by kernel_rfl)) (by unfold Func.isWrapper; first | (rw [if_pos (by decide +kernel)]; kernel_rfl) | (rw [if_neg (by decide +kernel)]; exact ⟨rfl, rfl⟩))
    (fun os started H enc _ => lifted os started H enc)

theorem proved : Rows.FnExactWetTilesSaid := over
end LFnExactWetTiles


end Go.Proofs.Ytoibolmippfcgaa
