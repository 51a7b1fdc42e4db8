/- laws.FnExactRunDown returns true for every roof and rain, and leaves them as they were. No condition. -/
import Derived.Test.YtfkcjgeeklngiaaRdownI
import Derived.Test.YtfkcjgeeklngiaaEqDr
import Derived.Test.YtfkcjgeeklngiaaOpen
import Derived.Test.YtfkcjgeeklngiaaNums
import Derived.Deep.DeepCutAuto
import Derived.Deep.RegionHeld3
namespace Go.Proofs.Ytfkcjgeeklngiaa
open Go.RowKit

/-- Where the ways of a region meet: a box for the drips, a list, and all the boxes that were. -/
def RdCut (w : World) (L : List (Nat × Array Value)) (N0 : Nat) (X : Array Value) (nn : Nat) (ff : Nat → Int) (cd : Int) (p q s : Value) (W : World) : Prop :=
  ∃ (n N B : Nat) (v : Value), p = .pointer (some ⟨n, 0, none⟩) ∧ v = q ∧ s = .int .i64 cd ∧ rowAt W n = some X ∧ IsList W B v 1 nn (fun i => .int .i64 (ff i)) ∧ N0 ≤ B ∧ Boxes N w L W ∧ N = N0

theorem rdMeetA {w wx : World} {L : List (Nat × Array Value)} {N0 B : Nat} {X : Array Value} {T : TypeId} {nn : Nat} {ff : Nat → Int} {cd : Int} {v : Value} (h : Boxes N0 w L (wx.alloc (.cells X T))) (lx : IsList wx B v 1 nn (fun i => .int .i64 (ff i))) (_h0 : True) (hB : N0 ≤ B) :
    RdCut w L N0 X nn ff cd (.pointer (some ⟨wx.heap.size, 0, none⟩)) v (.int .i64 cd) (wx.alloc (.cells X T)) :=
  ⟨_, _, B, v, rfl, rfl, rfl, rowAt_alloc_at _ _ _ _ rfl, lx.below ((Below.refl wx.heap.size wx).alloc (Nat.le_refl _) _) (Nat.le_refl _), hB, h, rfl⟩
theorem rdMeetS {w wx : World} {L : List (Nat × Array Value)} {N0 B n : Nat} {X z : Array Value} {nn : Nat} {ff : Nat → Int} {cd : Int} {v : Value} (h : Boxes N0 w L (wx.setRow n X)) (lx : IsList wx B v 1 nn (fun i => .int .i64 (ff i))) (rz : rowAt wx n = some z) (hn : n < B) (hB : N0 ≤ B) :
    RdCut w L N0 X nn ff cd (.pointer (some ⟨n, 0, none⟩)) v (.int .i64 cd) (wx.setRow n X) :=
  ⟨_, _, B, v, rfl, rfl, rfl, rowAt_setRow_at _ _ _ (by rw [rz]; rfl), lx.of_rows2 (fun g hg _ => rowAt_setRow_ne _ _ _ _ (by omega)), hB, h, rfl⟩

set_option maxRecDepth 100000 in
set_option maxHeartbeats 8000000 in
theorem law_walk_FnExactRunDown {c : Array Value} {r : Rf} (hR : IsRoof c r) {d : Array Value} {t : Nat → Int} (hT : IsRain d t) (w : World) :
    Calls Try.prog 4 #[.agg c, .agg d] w fun e w' => e = .returned (.bool true) ∧ Below w.heap.size w w' := by
  obtain ⟨l⟩ := d
  have pb := boxes2 w c l.toArray 26 28
  have hc := hR.size
  have hl : l.length = 17 := by have := hT.size; simpa using this
  have hu := Try.underlying28
  have hi : (Try.prog.info? 28).map (·.size) = some l.length := by rw [hl]; kernel_rfl
  have CS := fun w => specRunDown_any c l.toArray r t w hR hT
  have CI := fun w => implRunDown_any c l.toArray r t w hR hT
  unfold RdEnd at CS CI
  have hX : IsK .i32 (r.rdA t) 136 (r.rdF t) := isK_mkI _ _ _
  generalize r.rdA t = X at *
  generalize hcode : r.rcode t = cd at CS CI
  have hcc : (cd != cd) = false := by simp
  have hnb : r.rlen t (2 * r.w + 1).toNat ≤ 1000000 := r.cells_le t
  generalize hnn : r.rlen t (2 * r.w + 1).toNat = nn at hnb CS CI
  generalize hff : r.gut t = ff at CS CI
  have CE := fun w => eqDrips_same X _ w hX
  have hXs := hX.size
  have hXo := hX.ones
  have hz : Try.zeroCells42.size = 136 := by kernel_rfl
  obtain ⟨M, hM⟩ : ∃ M : Int, M = ((1 + nn : Nat) : Int) := ⟨_, rfl⟩
  have hM0 : 0 ≤ M := by omega
  have hmm : (M != M) = false := by simp
  have hml : decide (M < 0) = false := by simp; omega
  have HMM := Lib.hid hM
  clear hM hcode hnn hff hX
  go_enter Try.func4, Try.ntmps4
  go_wp2_with fail
  refine gen_world fun W hW => ?_
  rw [← hW] at pb
  clear hW
  have mk : ∀ (N : Nat) (Y : List (Nat × Array Value)) (W' : World), Boxes N w (Y ++ [(w.heap.size + 1, l.toArray), (w.heap.size, c)]) W' → rowAt W' w.heap.size = some c ∧ W'.rangeAt (w.heap.size + 1) 0 l := fun N Y W' h => by
    have r0 := h.rows (w.heap.size, c) (by simp)
    have r1 := h.rows (w.heap.size + 1, l.toArray) (by simp)
    exact ⟨r0, rangeAt_of_row r1⟩
  have HM := Lib.hid mk
  clear mk
  have ls := pb.size
  have hs0 : True := trivial
  go_cut [5, 6, 7] (fun p q s W' => RdCut w ([(w.heap.size + 1, l.toArray), (w.heap.size, c)]) (w.heap.size + 1 + 1) X nn ff cd p q s W')
  case first =>
    go_region_held3 (fun w' => (rowAt w' w.heap.size = some c ∧ w'.rangeAt (w.heap.size + 1) 0 l) ∧ Boxes (w.heap.size + 1 + 1) w ([(w.heap.size + 1, l.toArray), (w.heap.size, c)]) w')
      ((refine mkS (HM.out _ [] _) ?_; first | exact pb.drew | exact Boxes.allocA (by assumption) | exact Boxes.callA (by assumption) (by assumption) | exact Boxes.setA (by assumption) (by omega) | exact Boxes.reallocA (by assumption) (by omega)))
      (first | (go_at_call 16; (with_reducible refine (toRoof_any c r _ hR).mono ?_); rintro x wx ⟨rfl, bx⟩; have hy := Boxes.szA (by assumption); have hq := bx.size; (try simp at hq); (try simp at hy); (try replace rz := brow bx rz); (try (have rz := brow bx (rowAt_alloc_at _ _ _ _ rfl)))) | (go_at_call 17; (with_reducible refine (toRain_any l.toArray t _ hT).mono ?_); rintro x wx ⟨rfl, bx⟩; have hy := Boxes.szA (by assumption); have hq := bx.size; (try simp at hq); (try simp at hy); (try replace rz := brow bx rz); (try (have rz := brow bx (rowAt_alloc_at _ _ _ _ rfl)))) | (go_at_call 20; (with_reducible refine (CS _).mono ?_); rintro x wx ⟨v, rfl, lx, bx⟩; have hy := Boxes.szA (by assumption); have hq := bx.size; (try simp at hq); (try simp at hy); (try replace rz := brow bx rz); (try (have rz := brow bx (rowAt_alloc_at _ _ _ _ rfl)))))
    all_goals
      go_wp2_with fail
      go_meet
      case rel =>
        first
        | exact rdMeetA (Boxes.outA (by assumption)) lx hs0 (by first | omega | (simp; done) | (simp; omega))
        | exact rdMeetS (Boxes.outA (by assumption)) lx rz (by first | omega | (simp; done) | (simp; omega)) (by first | omega | (simp; done) | (simp; omega))
  case rest =>
    obtain ⟨n, N, B, v0, rfl, rfl, rfl, rX, lx, hB, pc, rfl⟩ := hcut
    obtain ⟨L0, hL0, hG0⟩ := lx.box
    replace pc := (pc.more rX).app hL0
    have HG0 := Lib.hid hG0
    clear pb ls lx rX hL0 hG0
    have ls := pc.size
    obtain ⟨N1, hN1⟩ : ∃ N1, N1 = wc.heap.size := ⟨_, rfl⟩
    rw [← hN1] at pc ls
    have ls1 : w.heap.size ≤ N1 := pc.base
    have ls3 : N1 ≤ wc.heap.size := by omega
    clear hN1
    go_wp2_with fail
    go_cut [8, 9, 10] (fun p q s W' => RdCut w (L0 ++ (n, X) :: [(w.heap.size + 1, l.toArray), (w.heap.size, c)]) N1 X nn ff cd p q s W')
    case first =>
      go_region_held3 (fun w' => (rowAt w' w.heap.size = some c ∧ w'.rangeAt (w.heap.size + 1) 0 l) ∧ Boxes N1 w (L0 ++ (n, X) :: [(w.heap.size + 1, l.toArray), (w.heap.size, c)]) w')
        ((refine mkS (fun h => HM.out _ (L0 ++ [(n, X)]) _ (by rw [List.append_assoc]; exact h)) ?_; first | exact pc.drew | exact Boxes.allocA (by assumption) | exact Boxes.callA (by assumption) (by assumption) | exact Boxes.setA (by assumption) (by omega) | exact Boxes.reallocA (by assumption) (by omega)))
        (first | (go_at_call 16; (with_reducible refine (toRoof_any c r _ hR).mono ?_); rintro x wx ⟨rfl, bx⟩; have hy := Boxes.szA (by assumption); have hq := bx.size; (try simp at hq); (try simp at hy); (try replace rz := brow bx rz); (try (have rz := brow bx (rowAt_alloc_at _ _ _ _ rfl)))) | (go_at_call 17; (with_reducible refine (toRain_any l.toArray t _ hT).mono ?_); rintro x wx ⟨rfl, bx⟩; have hy := Boxes.szA (by assumption); have hq := bx.size; (try simp at hq); (try simp at hy); (try replace rz := brow bx rz); (try (have rz := brow bx (rowAt_alloc_at _ _ _ _ rfl)))) | (go_at_call 21; (with_reducible refine (CI _).mono ?_); rintro x wx ⟨v, rfl, lx, bx⟩; have hy := Boxes.szA (by assumption); have hq := bx.size; (try simp at hq); (try simp at hy); (try replace rz := brow bx rz); (try (have rz := brow bx (rowAt_alloc_at _ _ _ _ rfl)))))
      all_goals
        go_wp2_with fail
        go_meet
        case rel =>
          first
          | exact rdMeetA (Boxes.outA (by assumption)) lx hs0 (by first | omega | (simp; done) | (simp; omega))
          | exact rdMeetS (Boxes.outA (by assumption)) lx rz (by first | omega | (simp; done) | (simp; omega)) (by first | omega | (simp; done) | (simp; omega))
    case rest =>
      obtain ⟨m, N, B1, v1, rfl, rfl, rfl, rY, l1, hB1, pd, rfl⟩ := hcut
      have r1 := pd.rows (n, X) (by simp)
      have HP := Lib.hid pd
      clear pc ls pd
      go_wp2_with fail
      refine (CE _).mono ?_
      rintro e w1 ⟨rfl, b1⟩
      replace l1 := l1.below b1 (Nat.le_refl _)
      replace HP := Lib.hid (HP.out.call b1)
      clear b1 r1 rY
      go_wp2_with fail
      refine (eqInt64S_same nn ff v1 v0 _ _ _ l1 (HG0.out _ fun p hp => HP.out.rows p (List.mem_append.2 (.inl hp))) hnb).mono ?_
      rintro e w2 ⟨rfl, b2⟩
      replace l1 := l1.below b2 (Nat.le_refl _)
      replace HP := Lib.hid (HP.out.call b2)
      clear b2
      go_wp2_with fail
      refine (mark1 nn _ v1 B1 M HMM.out _ l1 hnb).mono ?_
      rintro e w3 ⟨rfl, l3, b3⟩
      replace HP := Lib.hid (HP.out.belowN b3 hB1)
      clear b3 l1
      go_wp2_with fail
      refine (held1 nn v1 B1 M HMM.out _ l3 hnb).mono ?_
      rintro e w4 ⟨rfl, rfl⟩
      go_wp2_with fail
      obtain ⟨L1, hL1, hG1⟩ := l3.box
      have pe := HP.out.app hL1
      have HG1 := Lib.hid hG1
      clear HP hL1 hG1 l3
      have ls := pe.size
      obtain ⟨N2, hN2⟩ : ∃ N2, N2 = w3.heap.size := ⟨_, rfl⟩
      rw [← hN2] at pe ls
      have ls2 : w.heap.size ≤ N2 := pe.base
      have ls4 : N2 ≤ w3.heap.size := by omega
      clear hN2
      go_cut [13, 14, 15] (fun p q s W' => RdCut w (L1 ++ (L0 ++ (n, X) :: [(w.heap.size + 1, l.toArray), (w.heap.size, c)])) N2 X nn ff cd p q s W')
      case first =>
        go_region_held3 (fun w' => (rowAt w' w.heap.size = some c ∧ w'.rangeAt (w.heap.size + 1) 0 l) ∧ Boxes N2 w (L1 ++ (L0 ++ (n, X) :: [(w.heap.size + 1, l.toArray), (w.heap.size, c)])) w')
          ((refine mkS (fun h => HM.out _ (L1 ++ (L0 ++ [(n, X)])) _ (by rw [List.append_assoc, List.append_assoc]; exact h)) ?_; first | exact pe.drew | exact Boxes.allocA (by assumption) | exact Boxes.callA (by assumption) (by assumption) | exact Boxes.setA (by assumption) (by omega) | exact Boxes.reallocA (by assumption) (by omega)))
          (first | (go_at_call 16; (with_reducible refine (toRoof_any c r _ hR).mono ?_); rintro x wx ⟨rfl, bx⟩; have hy := Boxes.szA (by assumption); have hq := bx.size; (try simp at hq); (try simp at hy); (try replace rz := brow bx rz); (try (have rz := brow bx (rowAt_alloc_at _ _ _ _ rfl)))) | (go_at_call 17; (with_reducible refine (toRain_any l.toArray t _ hT).mono ?_); rintro x wx ⟨rfl, bx⟩; have hy := Boxes.szA (by assumption); have hq := bx.size; (try simp at hq); (try simp at hy); (try replace rz := brow bx rz); (try (have rz := brow bx (rowAt_alloc_at _ _ _ _ rfl)))) | (go_at_call 21; (with_reducible refine (CI _).mono ?_); rintro x wx ⟨v, rfl, lx, bx⟩; have hy := Boxes.szA (by assumption); have hq := bx.size; (try simp at hq); (try simp at hy); (try replace rz := brow bx rz); (try (have rz := brow bx (rowAt_alloc_at _ _ _ _ rfl)))))
        all_goals
          go_wp2_with fail
          go_meet
          case rel =>
            first
            | exact rdMeetA (Boxes.outA (by assumption)) lx hs0 (by first | omega | (simp; done) | (simp; omega))
            | exact rdMeetS (Boxes.outA (by assumption)) lx rz (by first | omega | (simp; done) | (simp; omega)) (by first | omega | (simp; done) | (simp; omega))
      case rest =>
        obtain ⟨m2, N, B2, v2, rfl, rfl, rfl, rY, l2, hB2, pf, rfl⟩ := hcut
        have r1 := pf.rows (n, X) (by simp)
        have HP := Lib.hid pf
        clear pe ls pf
        go_wp2_with fail
        refine (CE _).mono ?_
        rintro e w5 ⟨rfl, b5⟩
        replace l2 := l2.below b5 (Nat.le_refl _)
        replace HP := Lib.hid (HP.out.call b5)
        clear b5 r1 rY
        go_wp2_with fail
        refine (eqInt64S_same nn ff v2 v0 _ _ _ l2 (HG0.out _ fun p hp => HP.out.rows p (List.mem_append.2 (.inr (List.mem_append.2 (.inl hp))))) hnb).mono ?_
        rintro e w6 ⟨rfl, b6⟩
        replace HP := Lib.hid (HP.out.call b6)
        clear b6 l2
        go_wp2_with fail
        refine (held1 nn v1 0 M HMM.out _ (HG1.out _ fun p hp => HP.out.rows p (List.mem_append.2 (.inl hp))) hnb).mono ?_
        rintro e w7 ⟨rfl, rfl⟩
        go_wp2_with fail
        go_ret
        exact ⟨rfl, HP.out.bel⟩

namespace LFnExactRunDown
open Go.RowKit Go.ChangeShapes Go.WideShapes Go.ChangeAt
theorem own : ownKnob Try.prog.godebug = none := by kernel_rfl
theorem laidOut : laidOutB Try.prog = true := by kernel_rfl
set_option maxRecDepth 100000 in
theorem lifted (os : Os) (started : os.Started) (H : Type) (enc : TypeId × Value → H) :
    ReturnsInHanded {} Try.checked os 4 .any (Rows.fnExactRunDownSpec.pre6 enc Try.prog Try.f4 Rows.fnExactRunDownRow.domain false) (Rows.fnExactRunDownSpec.post enc Try.prog Try.f4 false true false false) := by
  refine returnsInHanded_of_change (C := Try.checked) own started (by kernel_rfl) Try.func4
    (ChangeSpec.witness6 (enc := enc) (C := Try.checked) false ⟨#[], #[.agg Try.zeroCells26, .agg (Array.replicate 17 (.int .i16 0))], []⟩ 8 (by kernel_rfl) (by kernel_rfl) (by kernel_rfl) (by kernel_rfl)) ?_
  intro W base args ds gs before hval0 hW hcnd _
  have hval : ∀ (j : Nat) t v, Try.f4.params[j]? = some t → args[j]? = some v → Value.okWide Try.prog W .any base t v := hval0
  have hW' := hW
  obtain ⟨p, q, hA0, hV, rfl, hfz, hnd⟩ := hW
  have hA : DataW.TrodAll enc Try.prog W 0 (fun _ => true) true Try.f4.params.toList args.toList ds p := hA0
  rw [Try.params4] at hA hval
  obtain ⟨v0, vs0, d0, ds0, p0, q0, hargs, rfl, rfl, h0, r0⟩ := trodAll_cons hA
  obtain ⟨v1, vs1, d1, ds1, p1, q1, rfl, rfl, rfl, h1, r1⟩ := trodAll_cons r0
  obtain ⟨rfl, rfl, rfl⟩ := trodAll_nil r1
  obtain rfl : args = #[v0, v1] := by cases args; simp_all
  obtain ⟨rfl, rfl⟩ := trodVars_none hV
  have k0 := h0
  have lt0 : ∀ x ∈ p0, x.block < W.heap.size := by obtain ⟨m, hm⟩ := k0; exact DataW.trod_lt m _ _ _ hm
  have k1 := h1
  have lt1 : ∀ x ∈ p1, x.block < W.heap.size := by obtain ⟨m, hm⟩ := k1; exact DataW.trod_lt m _ _ _ hm
  obtain ⟨c0, f0, rfl, wf0⟩ := open_roof (hval 0 26 v0 rfl rfl) h0
  obtain ⟨c1, f1, rfl, wf1⟩ := open_rain (hval 1 28 v1 rfl rfl) h1
  clear hA0 hval0
  refine (law_walk_FnExactRunDown wf0 wf1 W).mono fun e W' ⟨he, bel⟩ => ?_
  subst he
  exact ⟨_, rfl, _, _, _, [], _, [], hW', trodAll_mk1 (shut_bool Try.underlying4 _), (trodAll_cons_mk (Below.trod laidOut (by kernel_rfl) (of_decide_eq_true (by kernel_rfl)) k0 bel lt0) (trodAll_cons_mk (Below.trod laidOut (by kernel_rfl) (of_decide_eq_true (by kernel_rfl)) k1 bel lt1) trodAll_mk0)), rfl, bel.frame _, fun h => by cases h⟩

theorem over : Rows.fnExactRunDownRow.holds Try.pinned (OpenSpec.ofChange Rows.fnExactRunDownSpec) :=
  OpenClaim.holds_of_wide 4 Try.f4 rfl rfl rfl rfl rfl rfl rfl ⟨rfl, rfl, rfl, rfl, rfl⟩ rfl rfl rfl rfl rfl (by kernel_rfl) Try.func4 (by kernel_rfl)
    (of_decide_eq_true (by kernel_rfl)) (by unfold Func.isWrapper; first | (rw [if_pos (by decide +kernel)]; kernel_rfl) | (rw [if_neg (by decide +kernel)]; exact ⟨rfl, rfl⟩))
    (fun os started H enc _ => lifted os started H enc)

theorem proved : Rows.FnExactRunDownSaid := over
end LFnExactRunDown


end Go.Proofs.Ytfkcjgeeklngiaa
