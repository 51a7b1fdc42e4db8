/- laws.FnExactKindAt returns true for every roof and place, and leaves them as they were. No condition. -/
import Derived.Test.YtajdcdihbklafaaHelp
import Derived.Test.YtajdcdihbklafaaImplB
import Derived.Test.YtajdcdihbklafaaOpen
import Derived.Test.YtajdcdihbklafaaEnd
import Derived.Deep.RegionHeld3
namespace Go.Proofs.Ytajdcdihbklafaa
open Go.RowKit

noncomputable def Rf.kindAns (r : Rf) (a b : Int) : Int := if r.ask a b true = 0 then r.t (a.toNat * 8 + b.toNat) else 0

set_option maxHeartbeats 400000 in
theorem specKindAt_any (c : Array Value) (r : Rf) (a b : Int) (w : World) (hR : IsRoof c r) (ha : -128 ≤ a ∧ a ≤ 127) (hb : -128 ≤ b ∧ b ≤ 127) :
    Calls Try.prog 23 #[.agg c, .agg #[.int .i8 a, .int .i8 b]] w fun e w' => e = .returned (.tuple #[.int .i64 (r.kindAns a b), .int .i64 (r.ask a b true)]) ∧ Below w.heap.size w w' := by
  have hc := hR.size
  by_cases hk : r.ask a b true = 0
  · obtain ⟨ho, hp, _⟩ := Rf.ask_zero hk
    obtain ⟨i, hi⟩ := Int.eq_ofNat_of_zero_le hp.1
    obtain ⟨j, hj⟩ := Int.eq_ofNat_of_zero_le hp.2.2.1
    have hka : r.kindAns a b = r.t (i * 8 + j) := by unfold Rf.kindAns; rw [if_pos hk, hi, hj]; simp
    rw [hka]
    subst hi hj
    have hi8 : i < 8 := by have := ho.2.2.2.1; omega
    have hj8 : j < 8 := by have := ho.2.1; omega
    have hb1 : (r.ask i j true != 0) = false := by simp [hk]
    have HK := Lib.hid hk
    have HA := Lib.hid hka
    clear hk hka
    go_enter Try.func23, Try.ntmps23
    go_wp2_with fail
    refine (l01Asked_any w.heap.size c r _ _ true _ ((rowAt_alloc_past _ _ _ (by simp)).trans (rowAt_alloc_at w c 28 _ rfl)) hR ha hb).mono ?_
    rintro e w1 ⟨rfl, b1⟩
    have q1 := brow b1 ((rowAt_alloc_past _ (.cells #[.int .i8 i, .int .i8 j] 40) _ (by simp)).trans (rowAt_alloc_at w c 28 _ rfl))
    obtain ⟨v1, v2, v3, v4⟩ := bview b1
    have B1 : Below w.heap.size w w1 := (((Below.refl _ _).alloc (Nat.le_refl _) _).alloc (by simp) _).trans (b1.mono (by simp; omega))
    clear b1
    go_wp2_with fail
    refine (l01At_any w.heap.size c r i j _ q1 hR hi8 hj8).mono ?_
    rintro e w2 ⟨rfl, b2⟩
    have B2 := bnext B1 b2 B1.size
    clear b2 v1 v2 v3 v4
    go_wp2_with fail
    go_ret2
    exact ⟨by simp [HK.out], B2⟩
  · have hka : r.kindAns a b = 0 := by unfold Rf.kindAns; rw [if_neg hk]
    rw [hka]
    have hb1 : (r.ask a b true != 0) = true := by simp [hk]
    clear hk hka
    go_enter Try.func23, Try.ntmps23
    go_wp2_with fail
    refine (l01Asked_any w.heap.size c r a b true _ ((rowAt_alloc_past _ _ _ (by simp)).trans (rowAt_alloc_at w c 28 _ rfl)) hR ha hb).mono ?_
    rintro e w1 ⟨rfl, b1⟩
    have B1 : Below w.heap.size w w1 := (((Below.refl _ _).alloc (Nat.le_refl _) _).alloc (by simp) _).trans (b1.mono (by simp; omega))
    clear b1
    go_wp2_with fail
    go_ret2
    exact ⟨rfl, B1⟩

set_option maxHeartbeats 400000 in
theorem implKindAt_any (c : Array Value) (r : Rf) (a b : Int) (w : World) (hR : IsRoof c r) :
    Calls Try.prog 25 #[.agg c, .agg #[.int .i8 a, .int .i8 b]] w fun e w' => e = .returned (.tuple #[.int .i64 (r.kindAns a b), .int .i64 (r.ask a b true)]) ∧ Below w.heap.size w w' := by
  have hc := hR.size
  by_cases hk : r.ask a b true = 0
  · obtain ⟨ho, hp, _⟩ := Rf.ask_zero hk
    obtain ⟨i, hi⟩ := Int.eq_ofNat_of_zero_le hp.1
    obtain ⟨j, hj⟩ := Int.eq_ofNat_of_zero_le hp.2.2.1
    have hka : r.kindAns a b = r.t (i * 8 + j) := by unfold Rf.kindAns; rw [if_pos hk, hi, hj]; simp
    rw [hka]
    subst hi hj
    have hi8 : i < 8 := by have := ho.2.2.2.1; omega
    have hj8 : j < 8 := by have := ho.2.1; omega
    have hb1 : (r.ask i j true != 0) = false := by simp [hk]
    have HK := Lib.hid hk
    have HA := Lib.hid hka
    clear hk hka
    go_enter Try.func25, Try.ntmps25
    go_wp2_with fail
    refine (checkPlace_any c r _ _ _ hR).mono ?_
    rintro e w1 ⟨rfl, b1⟩
    have q1 := brow b1 ((rowAt_alloc_past _ (.cells #[.int .i8 i, .int .i8 j] 40) _ (by simp)).trans (rowAt_alloc_at w c 28 _ rfl))
    obtain ⟨v1, v2, v3, v4⟩ := bview b1
    have B1 : Below w.heap.size w w1 := (((Below.refl _ _).alloc (Nat.le_refl _) _).alloc (by simp) _).trans (b1.mono (by simp; omega))
    clear b1
    go_wp2_with fail
    refine (kind_any c r i j _ hR hi8 hj8).mono ?_
    rintro e w2 ⟨rfl, b2⟩
    have B2 := bnext B1 b2 B1.size
    clear b2 v1 v2 v3 v4
    go_wp2_with fail
    go_ret2
    exact ⟨by simp [HK.out], B2⟩
  · have hka : r.kindAns a b = 0 := by unfold Rf.kindAns; rw [if_neg hk]
    rw [hka]
    have hb1 : (r.ask a b true != 0) = true := by simp [hk]
    clear hk hka
    go_enter Try.func25, Try.ntmps25
    go_wp2_with fail
    refine (checkPlace_any c r a b _ hR).mono ?_
    rintro e w1 ⟨rfl, b1⟩
    have B1 : Below w.heap.size w w1 := (((Below.refl _ _).alloc (Nat.le_refl _) _).alloc (by simp) _).trans (b1.mono (by simp; omega))
    clear b1
    go_wp2_with fail
    go_ret2
    exact ⟨rfl, B1⟩

set_option maxHeartbeats 400000 in
theorem law_walk_FnExactKindAt {c : Array Value} {r : Rf} (hR : IsRoof c r) {a b : Int} (ha : -128 ≤ a ∧ a ≤ 127) (hb : -128 ≤ b ∧ b ≤ 127) (w : World) :
    Calls Try.prog 6 #[.agg c, .agg #[.int .i8 a, .int .i8 b]] w fun e w' => e = .returned (.bool true) ∧ Below w.heap.size w w' := by
  have hc := hR.size
  have hbb : (r.kindAns a b != r.kindAns a b) = false := by simp
  have hcc : (r.ask a b true != r.ask a b true) = false := by simp
  go_enter Try.func6, Try.ntmps6
  go_wp2_with fail
  generalize hW : ((w.alloc (.cells c 26)).alloc (.cells #[.int .i8 a, .int .i8 b] 37)) = W
  have p0 : rowAt W w.heap.size = some c := by rw [← hW]; exact (rowAt_alloc_past _ _ _ (by simp)).trans (rowAt_alloc_at _ _ _ _ rfl)
  have p1 : rowAt W (w.heap.size + 1) = some #[.int .i8 a, .int .i8 b] := by rw [← hW]; exact rowAt_alloc_at _ _ _ _ (by simp)
  have pB : Below w.heap.size w W := by rw [← hW]; exact ((Below.refl _ _).alloc (Nat.le_refl _) _).alloc (by simp) _
  clear hW
  go_region_held3 (fun w' => rowAt w' w.heap.size = some c ∧ (w'.cell? ⟨w.heap.size + 1, 0, none⟩ = some (.int .i8 a) ∧ w'.cell? ⟨w.heap.size + 1, 1, none⟩ = some (.int .i8 b)) ∧ rowAt w' (w.heap.size + 1) = some #[.int .i8 a, .int .i8 b] ∧ Below w.heap.size w w' ∧ w.heap.size ≤ w'.heap.size)
    (first | exact keepP0 p0 p1 pB pB.size | exact keepP (by assumption) (by assumption))
    (first | (go_at_call 16; (with_reducible refine (toRoof_any c r _ hR).mono ?_); rintro x wx ⟨rfl, bx⟩) | (go_at_call 24; (with_reducible refine (toPlace_any a b _).mono ?_); rintro x wx ⟨rfl, bx⟩) | (go_at_call 23; (with_reducible refine (specKindAt_any c r a b _ hR ha hb).mono ?_); rintro x wx ⟨rfl, bx⟩))
  rename_i wa ba wb bb g
  clear p0 p1 pB
  go_wp2_with fail
  go_region_held3 (fun w' => rowAt w' w.heap.size = some c ∧ (w'.cell? ⟨w.heap.size + 1, 0, none⟩ = some (.int .i8 a) ∧ w'.cell? ⟨w.heap.size + 1, 1, none⟩ = some (.int .i8 b)) ∧ rowAt w' (w.heap.size + 1) = some #[.int .i8 a, .int .i8 b] ∧ Below w.heap.size w w' ∧ w.heap.size ≤ w'.heap.size)
    (first | exact keepP0 g.1 g.2.2.1 g.2.2.2.1 g.2.2.2.2 | exact keepP (by assumption) (by assumption))
    (first | (go_at_call 16; (with_reducible refine (toRoof_any c r _ hR).mono ?_); rintro x wx ⟨rfl, bx⟩) | (go_at_call 24; (with_reducible refine (toPlace_any a b _).mono ?_); rintro x wx ⟨rfl, bx⟩) | (go_at_call 25; (with_reducible refine (implKindAt_any c r a b _ hR).mono ?_); rintro x wx ⟨rfl, bx⟩))
  rename_i g2
  go_wp2_with fail
  go_ret
  exact ⟨rfl, g2.2.2.2.1⟩

namespace LFnExactKindAt
open Go.RowKit Go.ChangeShapes Go.WideShapes Go.ChangeAt
theorem own : ownKnob Try.prog.godebug = none := by kernel_rfl
theorem laidOut : laidOutB Try.prog = true := by kernel_rfl
set_option maxRecDepth 100000 in
theorem lifted (os : Os) (started : os.Started) (H : Type) (enc : TypeId × Value → H) :
    ReturnsInHanded {} Try.checked os 6 .any (Rows.fnExactKindAtSpec.pre6 enc Try.prog Try.f6 Rows.fnExactKindAtRow.domain false) (Rows.fnExactKindAtSpec.post enc Try.prog Try.f6 false true false false) := by
  refine returnsInHanded_of_change (C := Try.checked) own started (by kernel_rfl) Try.func6
    (ChangeSpec.witness6 (enc := enc) (C := Try.checked) false ⟨#[], #[.agg Try.zeroCells26, .agg #[.int .i8 0, .int .i8 0]], []⟩ 8 (by kernel_rfl) (by kernel_rfl) (by kernel_rfl) (by kernel_rfl)) ?_
  intro W base args ds gs before hval0 hW hcnd _
  have hval : ∀ (j : Nat) t v, Try.f6.params[j]? = some t → args[j]? = some v → Value.okWide Try.prog W .any base t v := hval0
  have hW' := hW
  obtain ⟨p, q, hA0, hV, rfl, hfz, hnd⟩ := hW
  have hA : DataW.TrodAll enc Try.prog W 0 (fun _ => true) true Try.f6.params.toList args.toList ds p := hA0
  rw [Try.params6] at hA hval
  obtain ⟨v0, vs0, d0, ds0, p0, q0, hargs, rfl, rfl, h0, r0⟩ := trodAll_cons hA
  obtain ⟨v1, vs1, d1, ds1, p1, q1, rfl, rfl, rfl, h1, r1⟩ := trodAll_cons r0
  obtain ⟨rfl, rfl, rfl⟩ := trodAll_nil r1
  obtain rfl : args = #[v0, v1] := by cases args; simp_all
  obtain ⟨rfl, rfl⟩ := trodVars_none hV
  have k0 := h0
  have lt0 : ∀ x ∈ p0, x.block < W.heap.size := by obtain ⟨m, hm⟩ := k0; exact DataW.trod_lt m _ _ _ hm
  have k1 := h1
  have lt1 : ∀ x ∈ p1, x.block < W.heap.size := by obtain ⟨m, hm⟩ := k1; exact DataW.trod_lt m _ _ _ hm
  obtain ⟨c0, f0, rfl, wf0⟩ := open_roof (hval 0 26 v0 rfl rfl) h0
  obtain ⟨a1, b1, rfl, wa1, wb1⟩ := open_place (hval 1 37 v1 rfl rfl) h1
  clear hA0 hval0
  refine (law_walk_FnExactKindAt wf0 wa1 wb1 W).mono fun e W' ⟨he, bel⟩ => ?_
  subst he
  exact ⟨_, rfl, _, _, _, [], _, [], hW', trodAll_mk1 (shut_bool Try.underlying4 _), (trodAll_cons_mk (Below.trod laidOut (by kernel_rfl) (of_decide_eq_true (by kernel_rfl)) k0 bel lt0) (trodAll_cons_mk (Below.trod laidOut (by kernel_rfl) (of_decide_eq_true (by kernel_rfl)) k1 bel lt1) trodAll_mk0)), rfl, bel.frame _, fun h => by cases h⟩

theorem over : Rows.fnExactKindAtRow.holds Try.pinned (OpenSpec.ofChange Rows.fnExactKindAtSpec) :=
  OpenClaim.holds_of_wide 6 Try.f6 rfl rfl rfl rfl rfl rfl rfl ⟨rfl, rfl, rfl, rfl, rfl⟩ rfl rfl rfl rfl rfl (by kernel_rfl) Try.func6 (by kernel_rfl)
    (of_decide_eq_true (by kernel_rfl)) (by unfold Func.isWrapper; first | (rw [if_pos (by decide +kernel)]; kernel_rfl) | (rw [if_neg (by decide +kernel)]; exact ⟨rfl, rfl⟩))
    (fun os started H enc _ => lifted os started H enc)

theorem proved : Rows.FnExactKindAtSaid := over
end LFnExactKindAt

end Go.Proofs.Ytajdcdihbklafaa
