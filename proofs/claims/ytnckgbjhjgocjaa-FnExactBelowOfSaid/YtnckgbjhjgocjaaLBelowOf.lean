/- laws.FnExactBelowOf returns true for every roof and place, and leaves them as they were. No condition. -/
import Derived.Test.YtnckgbjhjgocjaaHelp
import Derived.Test.YtnckgbjhjgocjaaMeet
import Derived.Test.YtnckgbjhjgocjaaListP
import Derived.Test.YtnckgbjhjgocjaaOpen
import Derived.Test.YtnckgbjhjgocjaaHeld
import Derived.Deep.RegionHeld3
namespace Go.Proofs.Ytnckgbjhjgocjaa
open Go.RowKit

noncomputable def nN (r : Rf) (a b : Int) : Nat := if r.ask a b true = 0 then (r.laps a b (a + 1)).length else 0
noncomputable def nF (r : Rf) (a b : Int) : Nat → Int := plF (a + 1) (r.laps a b (a + 1))
theorem nN_le (r : Rf) (a b : Int) : nN r a b ≤ 1000000 := by
  have : (r.laps a b (a + 1)).length ≤ 2 := by
    unfold Rf.laps
    split
    · exact List.length_filter_le _ _
    · simp
  unfold nN; split <;> omega
/-- What a call that makes a list of places ends with. -/
def GivesPls (w : World) (n : Nat) (f : Nat → Int) (code : Int) (e : Ending) (w' : World) : Prop :=
  ∃ v, e = .returned (.tuple #[v, .int .i64 code]) ∧ IsList w' w.heap.size v 2 n (fun i => .int .i8 (f i)) ∧ Below w.heap.size w w'

set_option maxHeartbeats 400000 in
theorem specBelowOf_any (c : Array Value) (r : Rf) (a b : Int) (w : World) (hR : IsRoof c r) (ha : -128 ≤ a ∧ a ≤ 127) (hb : -128 ≤ b ∧ b ≤ 127) :
    Calls Try.prog 44 #[.agg c, .agg #[.int .i8 a, .int .i8 b]] w (GivesPls w (nN r a b) (nF r a b) (r.ask a b true)) := by
  have hc := hR.size
  by_cases hk : r.ask a b true = 0
  · obtain ⟨ho, hp, _⟩ := Rf.ask_zero hk
    obtain ⟨i, hi⟩ := Int.eq_ofNat_of_zero_le hp.1
    obtain ⟨j, hj⟩ := Int.eq_ofNat_of_zero_le hp.2.2.1
    have hka : nN r a b = (r.laps a b (a + 1)).length := by unfold nN; rw [if_pos hk]
    rw [hka]
    unfold nF
    clear hka
    subst hi hj
    have hi8 : i < 8 := by have := ho.2.2.2.1; omega
    have hj8 : j < 8 := by have := ho.2.1; omega
    have hjw : (j : Int) < r.w := hp.2.2.2
    have hb1 : (r.ask i j true != 0) = false := by simp [hk]
    have HK := Lib.hid hk
    clear hk
    go_enter Try.func44, Try.ntmps44
    go_wp2_with fail
    refine (l01Asked_any w.heap.size c r _ _ true _ ((rowAt_alloc_past _ _ _ (by simp)).trans (rowAt_alloc_at w c 29 _ rfl)) hR ha hb).mono ?_
    rintro e w1 ⟨rfl, b1⟩
    have q1 := brow b1 ((rowAt_alloc_past _ (.cells #[.int .i8 i, .int .i8 j] 33) _ (by simp)).trans (rowAt_alloc_at w c 29 _ rfl))
    obtain ⟨v1, v2, v3, v4⟩ := bview b1
    have B1 : Below w.heap.size w w1 := (((Below.refl _ _).alloc (Nat.le_refl _) _).alloc (by simp) _).trans (b1.mono (by simp; omega))
    clear b1
    go_wp2_with fail
    refine (l01Laps_any w.heap.size c r i j 1 _ q1 hR ho hi8 hj8 hjw (by omega)).mono ?_
    rintro e w2 ⟨v, rfl, l2, b2⟩
    replace l2 := l2.mono B1.size
    have B2 := bnext B1 b2 B1.size
    clear b2 v1 v2 v3 v4
    go_wp2_with fail
    go_ret2
    rw [HK.out]
    exact ⟨_, rfl, l2, B2⟩
  · have hka : nN r a b = 0 := by unfold nN; rw [if_neg hk]
    rw [hka]
    have hb1 : (r.ask a b true != 0) = true := by simp [hk]
    clear hk hka
    go_enter Try.func44, Try.ntmps44
    go_wp2_with fail
    refine (l01Asked_any w.heap.size c r a b true _ ((rowAt_alloc_past _ _ _ (by simp)).trans (rowAt_alloc_at w c 29 _ rfl)) hR ha hb).mono ?_
    rintro e w1 ⟨rfl, b1⟩
    have B1 : Below w.heap.size w w1 := (((Below.refl _ _).alloc (Nat.le_refl _) _).alloc (by simp) _).trans (b1.mono (by simp; omega))
    clear b1
    go_wp2_with fail
    go_ret2
    exact ⟨_, rfl, .inl ⟨rfl, _, _, rfl⟩, B1.alloc B1.size _⟩

set_option maxHeartbeats 400000 in
theorem implBelowOf_any (c : Array Value) (r : Rf) (a b : Int) (w : World) (hR : IsRoof c r) :
    Calls Try.prog 45 #[.agg c, .agg #[.int .i8 a, .int .i8 b]] w (GivesPls w (nN r a b) (nF r a b) (r.ask a b true)) := by
  have hc := hR.size
  by_cases hk : r.ask a b true = 0
  · obtain ⟨ho, hp, _⟩ := Rf.ask_zero hk
    obtain ⟨i, hi⟩ := Int.eq_ofNat_of_zero_le hp.1
    obtain ⟨j, hj⟩ := Int.eq_ofNat_of_zero_le hp.2.2.1
    have hka : nN r a b = (r.laps a b (a + 1)).length := by unfold nN; rw [if_pos hk]
    rw [hka]
    unfold nF
    clear hka
    subst hi hj
    have hi8 : i < 8 := by have := ho.2.2.2.1; omega
    have hj8 : j < 8 := by have := ho.2.1; omega
    have hjw : (j : Int) < r.w := hp.2.2.2
    have hb1 : (r.ask i j true != 0) = false := by simp [hk]
    have HK := Lib.hid hk
    clear hk
    go_enter Try.func45, Try.ntmps45
    go_wp2_with fail
    refine (checkPlace_any c r _ _ _ hR).mono ?_
    rintro e w1 ⟨rfl, b1⟩
    obtain ⟨v1, v2, v3, v4⟩ := bview b1
    have B1 : Below w.heap.size w w1 := (((Below.refl _ _).alloc (Nat.le_refl _) _).alloc (by simp) _).trans (b1.mono (by simp; omega))
    clear b1
    go_wp2_with fail
    refine (below_any c r i j _ hR ho hi8 hj8 hjw).mono ?_
    rintro e w2 ⟨v, rfl, l2, b2⟩
    replace l2 := l2.mono B1.size
    have B2 := bnext B1 b2 B1.size
    clear b2 v1 v2 v3 v4
    go_wp2_with fail
    go_ret2
    rw [HK.out]
    exact ⟨_, rfl, l2, B2⟩
  · have hka : nN r a b = 0 := by unfold nN; rw [if_neg hk]
    rw [hka]
    have hb1 : (r.ask a b true != 0) = true := by simp [hk]
    clear hk hka
    go_enter Try.func45, Try.ntmps45
    go_wp2_with fail
    refine (checkPlace_any c r a b _ hR).mono ?_
    rintro e w1 ⟨rfl, b1⟩
    have B1 : Below w.heap.size w w1 := (((Below.refl _ _).alloc (Nat.le_refl _) _).alloc (by simp) _).trans (b1.mono (by simp; omega))
    clear b1
    go_wp2_with fail
    go_ret2
    exact ⟨_, rfl, .inl ⟨rfl, _, _, rfl⟩, B1⟩

set_option maxHeartbeats 2000000 in
theorem law_walk_FnExactBelowOf {c : Array Value} {r : Rf} (hR : IsRoof c r) {a b : Int} (ha : -128 ≤ a ∧ a ≤ 127) (hb : -128 ≤ b ∧ b ≤ 127) (w : World) :
    Calls Try.prog 14 #[.agg c, .agg #[.int .i8 a, .int .i8 b]] w fun e w' => e = .returned (.bool true) ∧ Below w.heap.size w w' := by
  have hc := hR.size
  have hcc : (r.ask a b true != r.ask a b true) = false := by simp
  have hnb : nN r a b ≤ 1000000 := nN_le r a b
  generalize hnn : nN r a b = nn at hnb
  have HN := Lib.hid hnn
  clear hnn
  generalize hff : nF r a b = ff
  have HF := Lib.hid hff
  clear hff
  obtain ⟨M, hM⟩ : ∃ M : Int, M = ((1 + 2 * nn : Nat) : Int) := ⟨_, rfl⟩
  have hM0 : 0 ≤ M := by omega
  have hmm : (M != M) = false := by simp
  have hml : decide (M < 0) = false := by simp; omega
  have HM := Lib.hid hM
  clear hM
  go_enter Try.func14, Try.ntmps14
  go_wp2_with fail
  generalize hW : ((w.alloc (.cells c 26)).alloc (.cells #[.int .i8 a, .int .i8 b] 28)) = W
  have p0 : rowAt W w.heap.size = some c := by rw [← hW]; exact (rowAt_alloc_past _ _ _ (by simp)).trans (rowAt_alloc_at _ _ _ _ rfl)
  have p1 : rowAt W (w.heap.size + 1) = some #[.int .i8 a, .int .i8 b] := by rw [← hW]; exact rowAt_alloc_at _ _ _ _ (by simp)
  have pB : Below w.heap.size w W := by rw [← hW]; exact ((Below.refl _ _).alloc (Nat.le_refl _) _).alloc (by simp) _
  clear hW
  go_region_held3 (fun w' => rowAt w' w.heap.size = some c ∧ (w'.cell? ⟨w.heap.size + 1, 0, none⟩ = some (.int .i8 a) ∧ w'.cell? ⟨w.heap.size + 1, 1, none⟩ = some (.int .i8 b)) ∧ rowAt w' (w.heap.size + 1) = some #[.int .i8 a, .int .i8 b] ∧ Below w.heap.size w w' ∧ w.heap.size ≤ w'.heap.size ∧ w.heap.size ≤ w'.heap.size ∧ True)
    (first | exact held0 p0 p1 pB pB.size pB.size trivial | exact heldX (by assumption) id (by assumption))
    (first | (go_at_call 16; (with_reducible refine (toRoof_any c r _ hR).mono ?_); rintro x wx ⟨rfl, bx⟩) | (go_at_call 17; (with_reducible refine (toPlace_any a b _).mono ?_); rintro x wx ⟨rfl, bx⟩) | (go_at_call 44; (with_reducible refine (specBelowOf_any c r a b _ hR ha hb).mono ?_); rintro x wx ⟨v0, rfl, l0, bx⟩))
  rename_i g
  rw [HN.out, HF.out] at l0
  clear p0 p1 pB
  obtain ⟨N, hN⟩ : ∃ N, N = wx.heap.size := ⟨_, rfl⟩
  have hNle : N ≤ wx.heap.size := by omega
  have lt0 := l0.lt (Nat.le_of_eq hN.symm)
  have hN0 : wx.heap.size ≤ N := by omega
  have p2 := g.2.2.1
  have l0' := l0.mono (Nat.zero_le _)
  clear l0 hN
  go_wp2_with fail
  go_region_held3 (fun w' => rowAt w' w.heap.size = some c ∧ (w'.cell? ⟨w.heap.size + 1, 0, none⟩ = some (.int .i8 a) ∧ w'.cell? ⟨w.heap.size + 1, 1, none⟩ = some (.int .i8 b)) ∧ rowAt w' (w.heap.size + 1) = some #[.int .i8 a, .int .i8 b] ∧ Below w.heap.size w w' ∧ w.heap.size ≤ w'.heap.size ∧ N ≤ w'.heap.size ∧ IsList w' 0 v0 2 nn (fun i => .int .i8 (ff i)))
    (first | exact held0 g.1 g.2.2.1 g.2.2.2.1 g.2.2.2.2.1 hNle l0' | exact heldL (by assumption) (by assumption))
    (first | (go_at_call 16; (with_reducible refine (toRoof_any c r _ hR).mono ?_); rintro x wx ⟨rfl, bx⟩) | (go_at_call 17; (with_reducible refine (toPlace_any a b _).mono ?_); rintro x wx ⟨rfl, bx⟩) | (go_at_call 45; have hNc := heldN (by assumption); (with_reducible refine (implBelowOf_any c r a b _ hR).mono ?_); rintro x wx ⟨v1, rfl, l1, bx⟩; replace l1 := l1.mono hNc))
  rename_i g2
  rw [HN.out, HF.out] at l1
  clear l0'
  go_wp2_with fail
  refine (eqPlaceS_same nn ff v1 v0 _ _ _ l1 g2.2.2.2.2.2.2 hnb).mono ?_
  rintro x wa ⟨rfl, ba⟩
  have l1a := l1.below ba (Nat.le_refl _)
  have g3 := heldL ba g2
  clear ba l1
  go_wp2_with fail
  refine (markP1 nn _ v1 N M HM.out _ l1a hnb).mono ?_
  rintro x wb ⟨rfl, l1b, bb⟩
  have hnN : w.heap.size + 1 < N := Nat.lt_of_lt_of_le (rowAt_lt p2) hN0
  have g4 := heldM bb (by omega) hnN (by omega) (fun h => h.kept2 bb lt0) g3
  clear bb l1a g3 g2 g
  go_wp2_with fail
  refine (heldP1 nn v1 N M HM.out _ l1b hnb).mono ?_
  rintro x wc ⟨rfl, rfl⟩
  go_wp2_with fail
  go_region_held3 (fun w' => rowAt w' w.heap.size = some c ∧ (w'.cell? ⟨w.heap.size + 1, 0, none⟩ = some (.int .i8 a) ∧ w'.cell? ⟨w.heap.size + 1, 1, none⟩ = some (.int .i8 b)) ∧ rowAt w' (w.heap.size + 1) = some #[.int .i8 a, .int .i8 b] ∧ Below w.heap.size w w' ∧ w.heap.size ≤ w'.heap.size ∧ N ≤ w'.heap.size ∧ IsList w' 0 v0 2 nn (fun i => .int .i8 (ff i)) ∧ IsList w' N v1 2 nn (fun i => .int .i8 (markP 1 i)))
    (first | exact held0 g4.1 g4.2.2.1 g4.2.2.2.1 g4.2.2.2.2.1 g4.2.2.2.2.2.1 ⟨g4.2.2.2.2.2.2, l1b⟩ | exact heldLL (by assumption) (by assumption))
    (first | (go_at_call 16; (with_reducible refine (toRoof_any c r _ hR).mono ?_); rintro x wx ⟨rfl, bx⟩) | (go_at_call 17; (with_reducible refine (toPlace_any a b _).mono ?_); rintro x wx ⟨rfl, bx⟩) | (go_at_call 45; (with_reducible refine (implBelowOf_any c r a b _ hR).mono ?_); rintro x wx ⟨v2, rfl, l2, bx⟩))
  rename_i g5
  rw [HN.out, HF.out] at l2
  clear g4 l1b
  go_wp2_with fail
  refine (eqPlaceS_same nn ff v2 v0 _ _ _ l2 g5.2.2.2.2.2.2.1 hnb).mono ?_
  rintro x wd ⟨rfl, bd⟩
  have g6 := heldLL bd g5
  clear bd l2 g5
  go_wp2_with fail
  refine (heldP1 nn v1 N M HM.out _ g6.2.2.2.2.2.2.2 hnb).mono ?_
  rintro x we ⟨rfl, rfl⟩
  go_wp2_with fail
  go_ret
  exact ⟨rfl, g6.2.2.2.1⟩

namespace LFnExactBelowOf
open Go.RowKit Go.ChangeShapes Go.WideShapes Go.ChangeAt
theorem own : ownKnob Try.prog.godebug = none := by kernel_rfl
theorem laidOut : laidOutB Try.prog = true := by kernel_rfl
set_option maxRecDepth 100000 in
theorem lifted (os : Os) (started : os.Started) (H : Type) (enc : TypeId × Value → H) :
    ReturnsInHanded {} Try.checked os 14 .any (Rows.fnExactBelowOfSpec.pre6 enc Try.prog Try.f14 Rows.fnExactBelowOfRow.domain false) (Rows.fnExactBelowOfSpec.post enc Try.prog Try.f14 false true false false) := by
  refine returnsInHanded_of_change (C := Try.checked) own started (by kernel_rfl) Try.func14
    (ChangeSpec.witness6 (enc := enc) (C := Try.checked) false ⟨#[], #[.agg Try.zeroCells26, .agg #[.int .i8 0, .int .i8 0]], []⟩ 8 (by kernel_rfl) (by kernel_rfl) (by kernel_rfl) (by kernel_rfl)) ?_
  intro W base args ds gs before hval0 hW hcnd _
  have hval : ∀ (j : Nat) t v, Try.f14.params[j]? = some t → args[j]? = some v → Value.okWide Try.prog W .any base t v := hval0
  have hW' := hW
  obtain ⟨p, q, hA0, hV, rfl, hfz, hnd⟩ := hW
  have hA : DataW.TrodAll enc Try.prog W 0 (fun _ => true) true Try.f14.params.toList args.toList ds p := hA0
  rw [Try.params14] at hA hval
  obtain ⟨v0, vs0, d0, ds0, p0, q0, hargs, rfl, rfl, h0, r0⟩ := trodAll_cons hA
  obtain ⟨v1, vs1, d1, ds1, p1, q1, rfl, rfl, rfl, h1, r1⟩ := trodAll_cons r0
  obtain ⟨rfl, rfl, rfl⟩ := trodAll_nil r1
  obtain rfl : args = #[v0, v1] := by cases args; simp_all
  obtain ⟨rfl, rfl⟩ := trodVars_none hV
  have k0 := h0
  have lt0 : ∀ x ∈ p0, x.block < W.heap.size := by obtain ⟨m, hm⟩ := k0; exact DataW.trod_lt m _ _ _ hm
  have k1 := h1
  have lt1 : ∀ x ∈ p1, x.block < W.heap.size := by obtain ⟨m, hm⟩ := k1; exact DataW.trod_lt m _ _ _ hm
  obtain ⟨c0, f0, rfl, wf0⟩ := open_roof (hval 0 26 v0 rfl rfl) h0
  obtain ⟨a1, b1, rfl, wa1, wb1⟩ := open_place (hval 1 28 v1 rfl rfl) h1
  clear hA0 hval0
  refine (law_walk_FnExactBelowOf wf0 wa1 wb1 W).mono fun e W' ⟨he, bel⟩ => ?_
  subst he
  exact ⟨_, rfl, _, _, _, [], _, [], hW', trodAll_mk1 (shut_bool Try.underlying4 _), (trodAll_cons_mk (Below.trod laidOut (by kernel_rfl) (of_decide_eq_true (by kernel_rfl)) k0 bel lt0) (trodAll_cons_mk (Below.trod laidOut (by kernel_rfl) (of_decide_eq_true (by kernel_rfl)) k1 bel lt1) trodAll_mk0)), rfl, bel.frame _, fun h => by cases h⟩

theorem over : Rows.fnExactBelowOfRow.holds Try.pinned (OpenSpec.ofChange Rows.fnExactBelowOfSpec) :=
  OpenClaim.holds_of_wide 14 Try.f14 rfl rfl rfl rfl rfl rfl rfl ⟨rfl, rfl, rfl, rfl, rfl⟩ rfl rfl rfl rfl rfl (by kernel_rfl) Try.func14 (by kernel_rfl)
    (of_decide_eq_true (by kernel_rfl)) (by unfold Func.isWrapper; first | (rw [if_pos (by decide +kernel)]; kernel_rfl) | (rw [if_neg (by decide +kernel)]; exact ⟨rfl, rfl⟩))
    (fun os started H enc _ => lifted os started H enc)

theorem proved : Rows.FnExactBelowOfSaid := over
end LFnExactBelowOf

end Go.Proofs.Ytnckgbjhjgocjaa
