/- laws.FnExactOldestOf returns true for all its arguments, and leaves them as they were. No condition. -/
import Derived.Test.YtcdobpnejbfbpaaDoorCards
import Derived.Test.YtcdobpnejbfbpaaDoorTie
import Derived.Test.YtcdobpnejbfbpaaDoorLaidN
import Derived.Test.YtcdobpnejbfbpaaDoorLaidA
import Derived.Test.YtcdobpnejbfbpaaDoorHelp
import Derived.Test.YtcdobpnejbfbpaaDoorBox
import Derived.Test.YtcdobpnejbfbpaaDoorSame
import Derived.Test.YtcdobpnejbfbpaaDoorOpen
import Derived.Test.YtcdobpnejbfbpaaDoorNums
import Derived.Test.YtcdobpnejbfbpaaDoorOldO
import Derived.Test.YtcdobpnejbfbpaaDoorAge
import Derived.Deep.DeepCutAuto
import Derived.Deep.RegionHeld3
namespace Go.Proofs.YtcdobpnejbfbpaaDoor
open Go.RowKit

@[local go_sem ↓] theorem loadAt_plW (v : Value) : Instr.loadAt 36 v = loadWhole 36 v := rfl
@[local go_sem ↓] theorem storeAt_plW (a v : Value) : Instr.storeAt 36 a v = storeWhole 36 a v := rfl
@[local go_sem] theorem load_plW (w : World) (n o : Nat) : (loadWhole 36 (.pointer (some ⟨n, o, none⟩))).run Tryd.prog w = rowLoad Tryd.prog 36 2 n o w (rowAt w n) := run_load_by Tryd.underlying36 rfl (by kernel_rfl) w n o
@[local go_sem] theorem store_plW (vs : Array Value) (w : World) (n o : Nat) : (storeWhole 36 (.pointer (some ⟨n, o, none⟩)) (.agg vs)).run Tryd.prog w = rowStore Tryd.prog 36 2 n o vs w (rowAt w n) := run_store_by (by kernel_rfl) vs w n o
theorem Boxes.belA {N : Nat} {w W : World} {L : List (Nat × Array Value)} {A : Prop} (h : A ∧ Boxes N w L W) : Below w.heap.size w W := h.2.bel
set_option maxRecDepth 100000 in
set_option maxHeartbeats 4000000 in
theorem law_walk_FnExactOldestOf {c : Array Value} {r : Rf} (hR : IsRoof c r) {d0 : Array Value} {t0 : Nat → Int} (hA0 : IsU8 d0 64 t0) (w : World) (hE : ErrT w) :
    Calls Tryd.prog 4 #[.agg c, .agg d0] w fun e w' => e = .returned (.bool true) ∧ Below w.heap.size w w' := by
  obtain ⟨l0⟩ := d0
  have hl0 : l0.length = 64 := by have := hA0.size; simpa using this
  have htk0 : List.take 64 l0 = l0 := List.take_of_length_le (by omega)
  have hu0 := Tryd.underlying24
  have hi0 : (Tryd.prog.info? 24).map (·.size) = some l0.length := by rw [hl0]; kernel_rfl
  have HE := Lib.hid hE
  clear hE
  have hs0 := hR.size
  have CS := fun w => specOldestOf_any c l0.toArray r t0 w hR hA0
  have CI := fun w hT => implOldestOf_any c l0.toArray r t0 w hR hA0 hT
  have hne0 : ((r.ooV t0) != (r.ooV t0)) = false := by simp
  generalize (r.ooV t0) = v0 at *
  have hne1 : ((r.ooC t0) != (r.ooC t0)) = false := by simp
  generalize (r.ooC t0) = v1 at *
  generalize (r.ooP t0).1 = p1 at *
  generalize (r.ooP t0).2 = p2 at *
  have CE := fun w => eqPlace_same (p1 : Int) (p2 : Int) w
  have hXo : Ones #[.int .i8 (p1 : Int), .int .i8 (p2 : Int)] := fun v hv => by
    simp at hv
    rcases hv with rfl | rfl <;> rfl
  obtain ⟨X, hX⟩ : ∃ X : Array Value, #[.int .i8 (p1 : Int), .int .i8 (p2 : Int)] = X := ⟨_, rfl⟩
  have hXs : X.size = 2 := by rw [← hX]; rfl
  rw [hX] at hXo
  simp only [hX] at CS CI CE
  clear hX
  have pb := boxes2 w c l0.toArray 26 24
  go_enter Tryd.func4, Tryd.ntmps4
  go_wp2_with fail
  refine gen_world fun W hW => ?_
  rw [← hW] at pb
  clear hW
  have mk : ∀ (N : Nat) (Y : List (Nat × Array Value)) (W' : World), Boxes N w (Y ++ [(w.heap.size + 1, l0.toArray), (w.heap.size, c)]) W' → rowAt W' (w.heap.size) = some c ∧ rowAt W' (w.heap.size + 1) = some l0.toArray ∧ W'.rangeAt (w.heap.size + 1) 0 l0 := fun N Y W' h => ⟨h.rows (w.heap.size, c) (by simp), h.rows (w.heap.size + 1, l0.toArray) (by simp), rangeAt_of_row (h.rows (w.heap.size + 1, l0.toArray) (by simp))⟩
  have HM := Lib.hid mk
  clear mk
  have ls := pb.size
  go_cut [5, 6, 7] (fun p q0 q1 W' => ∃ n N : Nat, p = .pointer (some ⟨n, 0, none⟩) ∧ q0 = .int .i64 v0 ∧ q1 = .int .i64 v1 ∧ Boxes N w ((n, X) :: [(w.heap.size + 1, l0.toArray), (w.heap.size, c)]) W')
  case first =>
    go_region_held3 (fun w' => (rowAt w' (w.heap.size) = some c ∧ rowAt w' (w.heap.size + 1) = some l0.toArray ∧ w'.rangeAt (w.heap.size + 1) 0 l0) ∧ Boxes (w.heap.size + 1 + 1) w ([(w.heap.size + 1, l0.toArray), (w.heap.size, c)]) w')
      ((refine mkS (HM.out _ [] _) ?_; first | exact pb.drew | exact Boxes.allocA (by assumption) | exact Boxes.callA (by assumption) (by assumption) | exact Boxes.setA (by assumption) (by omega) | exact Boxes.reallocA (by assumption) (by omega)))
      (first | (go_at_call 12; (with_reducible refine (toRoof_any c r _ hR).mono ?_); rintro x wx ⟨rfl, bx⟩; have hy := Boxes.szA (by assumption); have hq := bx.size; (try replace rz := brow bx rz); (try (have rz := brow bx (rowAt_alloc_at _ _ _ _ rfl)))) | (go_at_call 13; (with_reducible refine (toAges_any l0.toArray t0 _ hA0).mono ?_); rintro x wx ⟨rfl, bx⟩; have hy := Boxes.szA (by assumption); have hq := bx.size; (try replace rz := brow bx rz); (try (have rz := brow bx (rowAt_alloc_at _ _ _ _ rfl)))) | (go_at_call 16; (with_reducible refine (CS _).mono ?_); rintro x wx ⟨rfl, bx⟩; have hy := Boxes.szA (by assumption); have hq := bx.size; (try replace rz := brow bx rz); (try (have rz := brow bx (rowAt_alloc_at _ _ _ _ rfl)))))
    all_goals
      go_wp2_with fail
      go_meet
      case rel =>
        first
        | exact ⟨_, _, rfl, rfl, rfl, (Boxes.outA (by assumption)).more (rowAt_alloc_at _ _ _ _ rfl)⟩
        | exact ⟨_, _, rfl, rfl, rfl, (Boxes.outA (by assumption)).more (rowAt_setRow_at _ _ _ (by rw [rz]; rfl))⟩
  case rest =>
    obtain ⟨n, N, rfl, rfl, rfl, pc⟩ := hcut
    clear pb ls
    have ls := pc.size
    go_wp2_with fail
    go_cut [8, 9, 10] (fun p q0 q1 W' => ∃ m M : Nat, p = .pointer (some ⟨m, 0, none⟩) ∧ q0 = .int .i64 v0 ∧ q1 = .int .i64 v1 ∧ Boxes M w ((m, X) :: (n, X) :: [(w.heap.size + 1, l0.toArray), (w.heap.size, c)]) W')
    case first =>
      go_region_held3 (fun w' => (rowAt w' (w.heap.size) = some c ∧ rowAt w' (w.heap.size + 1) = some l0.toArray ∧ w'.rangeAt (w.heap.size + 1) 0 l0) ∧ Boxes (N) w ([(n, X), (w.heap.size + 1, l0.toArray), (w.heap.size, c)]) w')
        ((refine mkS (HM.out _ [(n, X)] _) ?_; first | exact pc.drew | exact Boxes.allocA (by assumption) | exact Boxes.callA (by assumption) (by assumption) | exact Boxes.setA (by assumption) (by omega) | exact Boxes.reallocA (by assumption) (by omega)))
        (first | (go_at_call 12; (with_reducible refine (toRoof_any c r _ hR).mono ?_); rintro x wx ⟨rfl, bx⟩; have hy := Boxes.szA (by assumption); have hq := bx.size; (try replace rz := brow bx rz); (try (have rz := brow bx (rowAt_alloc_at _ _ _ _ rfl)))) | (go_at_call 13; (with_reducible refine (toAges_any l0.toArray t0 _ hA0).mono ?_); rintro x wx ⟨rfl, bx⟩; have hy := Boxes.szA (by assumption); have hq := bx.size; (try replace rz := brow bx rz); (try (have rz := brow bx (rowAt_alloc_at _ _ _ _ rfl)))) | (go_at_call 17; (with_reducible refine (CI _ (HE.out.below (Boxes.belA (by assumption)))).mono ?_); rintro x wx ⟨rfl, bx⟩; have hy := Boxes.szA (by assumption); have hq := bx.size; (try replace rz := brow bx rz); (try (have rz := brow bx (rowAt_alloc_at _ _ _ _ rfl)))))
      all_goals
        go_wp2_with fail
        go_meet
        case rel =>
          first
          | exact ⟨_, _, rfl, rfl, rfl, (Boxes.outA (by assumption)).more (rowAt_alloc_at _ _ _ _ rfl)⟩
          | exact ⟨_, _, rfl, rfl, rfl, (Boxes.outA (by assumption)).more (rowAt_setRow_at _ _ _ (by rw [rz]; rfl))⟩
    case rest =>
      obtain ⟨m, M, rfl, rfl, rfl, pd⟩ := hcut
      have r1 := pd.rows (n, X) (by simp)
      have r2 := pd.rows (m, X) (by simp)
      have pB := pd.bel
      clear pc ls pd
      go_wp2_with fail
      refine (CE _).mono ?_
      rintro e w5 ⟨rfl, b5⟩
      have B5 := bnext pB b5 pB.size
      clear b5 r1 r2 pB
      go_wp2_with fail
      go_ret
      exact ⟨rfl, B5⟩

namespace LFnExactOldestOf
open Go.RowKit Go.ChangeShapes Go.WideShapes Go.ChangeAt
theorem own : ownKnob Tryd.prog.godebug = none := by kernel_rfl
theorem laidOut : laidOutB Tryd.prog = true := by kernel_rfl
theorem door_met (os : Os) (args : Array Value) : laidMetH Tryd.prog Rows.fnExactOldestOfRow.laid ((World.doorLaid Tryd.prog 400 os).forCall (fun _ _ => 0) ⟨#[], args, []⟩).memory :=
  laidMetH_of_parts3 (fuel := 8) (laidMet_of_run' 8 (by kernel_rfl) (by kernel_rfl)) (by kernel_rfl) (by kernel_rfl)
set_option maxRecDepth 100000 in
theorem lifted (os : Os) (started : os.Started) (H : Type) (enc : TypeId × Value → H) :
    ReturnsInHanded {} Tryd.checked os 4 .any (fun w args => (Rows.fnExactOldestOfSpec.pre enc Tryd.prog Tryd.f4 [] false w args ∧ laidMetH Tryd.prog Rows.fnExactOldestOfRow.laid w) ∧ sizedMet enc Tryd.prog Tryd.f4 (OpenSpec.ofChange Rows.fnExactOldestOfSpec) false w args)
      (Rows.fnExactOldestOfSpec.post enc Tryd.prog Tryd.f4 false true false false) := by
  refine returnsInHanded_of_change_and (C := Tryd.checked) (X := fun w _ => laidMetH Tryd.prog Rows.fnExactOldestOfRow.laid w) (fun _ _ _ hh h => h.of_heap hh) own started (by kernel_rfl) Tryd.func4
    (ChangeSpec.witness_shaped (enc := enc) (C := Tryd.checked) (os := os) (X := fun w _ => laidMetH Tryd.prog Rows.fnExactOldestOfRow.laid w) false (World.doorLaid Tryd.prog 400 os) #[.agg Tryd.zeroCells26, .agg (Array.replicate 64 (.int .u8 0))] 8 rfl (World.shaped_of_RefB (by kernel_rfl) (by kernel_rfl)) (by kernel_rfl) (by kernel_rfl) (by kernel_rfl) (door_met os _)) ?_
  intro W base args ds gs before hval0 hW _ _ hL _
  have hval : ∀ (j : Nat) t v, Tryd.f4.params[j]? = some t → args[j]? = some v → Value.okWide Tryd.prog W .any base t v := hval0
  have hW' := hW
  obtain ⟨p, q, hA0, hV, rfl, hfz, hnd⟩ := hW
  have hA : DataW.TrodAll enc Tryd.prog W 0 (fun _ => true) true Tryd.f4.params.toList args.toList ds p := hA0
  rw [Tryd.params4] at hA hval
  obtain ⟨v0, vs0, d0, ds0, p0, q0, hargs, rfl, rfl, h0, r0⟩ := trodAll_cons hA
  obtain ⟨v1, vs1, d1, ds1, p1, q1, rfl, rfl, rfl, h1, r1⟩ := trodAll_cons r0
  obtain ⟨rfl, rfl, rfl⟩ := trodAll_nil r1
  obtain rfl : args = #[v0, v1] := by cases args; simp_all
  obtain ⟨rfl, rfl⟩ := trodVars_none hV
  have k0 := h0
  have lt0 : ∀ x ∈ p0, x.block < W.heap.size := by obtain ⟨m, hm⟩ := k0; exact DataW.trod_lt m _ _ _ hm
  have k1 := h1
  have lt1 : ∀ x ∈ p1, x.block < W.heap.size := by obtain ⟨m, hm⟩ := k1; exact DataW.trod_lt m _ _ _ hm
  obtain ⟨c0, f0, rfl, wf0⟩ := open_roof (hval 0 26 v0 rfl rfl) h0
  obtain ⟨c1, f1, rfl, wf1⟩ := open_ages (hval 1 24 v1 rfl rfl) h1
  clear hA0 hval0
  refine ((law_walk_FnExactOldestOf wf0 wf1 W (errT_of hL))).mono fun e W' ⟨he, bel⟩ => ?_
  subst he
  exact ⟨_, rfl, _, _, _, [], _, [], hW', trodAll_mk1 (shut_bool Tryd.underlying4 _), (trodAll_cons_mk (Below.trod laidOut (by kernel_rfl) (of_decide_eq_true (by kernel_rfl)) k0 bel lt0) (trodAll_cons_mk (Below.trod laidOut (by kernel_rfl) (of_decide_eq_true (by kernel_rfl)) k1 bel lt1) trodAll_mk0)), rfl, bel.frame _, fun h => by cases h⟩

theorem over : Rows.FnExactOldestOfSaid :=
  OpenClaim.holds_of_wide 4 Tryd.f4 rfl rfl rfl rfl rfl rfl rfl ⟨rfl, rfl, rfl, rfl, rfl⟩ rfl rfl rfl rfl rfl (by kernel_rfl) Tryd.func4 (by kernel_rfl)
    (of_decide_eq_true (by kernel_rfl)) (by unfold Func.isWrapper; first | (rw [if_pos (by decide +kernel)]; kernel_rfl) | (rw [if_neg (by decide +kernel)]; exact ⟨rfl, rfl⟩))
    (fun os started H enc _ => lifted os started H enc)

theorem proved : Rows.FnExactOldestOfCardSaid :=
  Claim7.holds_tied_plain_at .later [] Rows.fnExactOldestOfCard.laidKinds true Rows.fnExactOldestOfCard.stood.harness Rows.fnExactOldestOfCard.stood.looks
    over (fun _ h => by cases h) (by kernel_rfl) (fun _ h => by cases h) fnExactOldestOf_row_tie rfl ⟨rfl, rfl⟩ (by kernel_rfl) rfl
    (fun f fn hf hfn => by
      obtain rfl : f = 4 := Option.some.inj ((show Tryd.prog.funcNamed "loop.example/g01376/laws.FnExactOldestOf" = some 4 by kernel_rfl).symm.trans hf) |>.symm
      obtain rfl : fn = Tryd.f4 := (Option.some.inj (Tryd.func4.symm.trans hfn)).symm
      exact ⟨by kernel_rfl, fun j t ht => by
        rw [Tryd.params4] at ht
        have hm : t ∈ [26, 24] := by simpa using Array.mem_of_getElem? ht
        have hall : ([26, 24].all fun u => !Tryd.prog.wantsStandIn u) = true := by kernel_rfl
        exact (show Tryd.prog.wantsStandIn t = false by simpa using List.all_eq_true.1 hall t hm)⟩)
    (by kernel_rfl)
end LFnExactOldestOf

end Go.Proofs.YtcdobpnejbfbpaaDoor
