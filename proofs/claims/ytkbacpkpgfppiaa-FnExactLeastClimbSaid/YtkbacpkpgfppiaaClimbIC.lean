/- Climbing for a list of places: the program's side, whatever the capacity. -/
import Derived.Test.YtkbacpkpgfppiaaChunkC
import Derived.Test.YtkbacpkpgfppiaaClimb
namespace Go.Proofs.Ytkbacpkpgfppiaa
open Go.RowKit Go.Shelf
attribute [local go_sem] Oper.semAt_some

set_option maxRecDepth 100000 in
set_option maxHeartbeats 4000000 in
theorem climbsForC_any (B n y cp : Nat) (hcp : n ≤ cp) (c : Array Value) (r : Rf) (f : Nat → Int) (u : Option Addr) (w : World) (hR : IsRoof c r) (ho : r.Ok)
    (hv : IsList w B (.slice u n cp) 2 n (fun i => .int .i8 (f i))) (hn : n ≤ 8) (hp : r.okP f n) (hy : 1 ≤ y ∧ y ≤ 20) :
    Calls Try.prog 48 #[.agg c, .slice u n cp, .int .i64 y] w fun e w' => e = .returned (.int .i64 (tot r.h f y n)) ∧ Below w.heap.size w w' := by
  have hc := hR.size
  obtain ⟨g, hu⟩ : ∃ g : Nat, 0 < n → u = some ⟨g, 0, none⟩ := by
    rcases hv with ⟨h0, _⟩ | ⟨g, cap', cur, e, _⟩
    · exact ⟨0, fun h => by omega⟩
    · cases e; exact ⟨g, fun _ => rfl⟩
  have HV := Lib.hid hv
  have HU := Lib.hid hu
  have HP := Lib.hid hp
  have HB8 := Lib.hid (Rf.climb_bd ho hp)
  have HN := Lib.hid (fun (x : Pt y n) => x.2)
  have HM := Lib.hid (fun k => sumP_upto r.h f y n k)
  have y1 := hy.1
  have y2 := hy.2
  have hh0 := ho.2.2.1
  have hh1 := ho.2.2.2.1
  clear hv hp
  refine (callsIn_wide (n := 3)).1 ?_
  refine callsIn_of_wp_marks Try.func48 rfl trivial ?_ rfl
  simp only [Try.ntmps48, List.size_toArray, List.length_cons, List.length_nil, Nat.reduceAdd, Nat.reduceSub, Array.replicate_succ, Array.replicate_zero, List.push_toArray, List.append_toArray, List.nil_append, List.cons_append]
  gi_wp2_with (refine ⟨trivial, ?_⟩; gi_at_call 96; refine (callsIn_wide.2 (chunk_any u n cp y _ y1 y2)).mono ?_; rintro e w' ⟨rfl, rfl⟩)
  obtain ⟨W0, hW0⟩ : ∃ W0, (((w.alloc (.cells c 31)).alloc (.cells #[.int .i64 0] 2)).alloc (.cells #[.slice u n cp] 33)).alloc (.cells #[.int .i64 y] 3) = W0 := ⟨_, rfl⟩
  have hsz : W0.heap.size = w.heap.size + 4 := by rw [← hW0]; simp
  have rA : RowT W0 w.heap.size 31 c := by rw [← hW0]; exact (((RowT.new w 31 c).alloc _).alloc _).alloc _
  have rS : RowT W0 (w.heap.size + 1) 2 #[.int .i64 0] := by
    have := ((RowT.new (w.alloc (.cells c 31)) 2 #[.int .i64 0]).alloc (.cells #[.slice u n cp] 33)).alloc (.cells #[.int .i64 y] 3)
    rw [hW0] at this; simpa using this
  have rL : RowT W0 (w.heap.size + 1 + 1) 33 #[.slice u n cp] := by
    have := (RowT.new ((w.alloc (.cells c 31)).alloc (.cells #[.int .i64 0] 2)) 33 #[.slice u n cp]).alloc (.cells #[.int .i64 y] 3)
    rw [hW0] at this; simpa using this
  have rM : RowT W0 (w.heap.size + 1 + 1 + 1) 3 #[.int .i64 y] := by
    have := RowT.new (((w.alloc (.cells c 31)).alloc (.cells #[.int .i64 0] 2)).alloc (.cells #[.slice u n cp] 33)) 3 #[.int .i64 y]
    rw [hW0] at this; simpa using this
  have hB0 : Below w.heap.size w W0 := by rw [← hW0]; exact ((((Below.refl _ w).alloc (Nat.le_refl _) _).alloc (by simp) _).alloc (by simp; omega) _).alloc (by simp; omega) _
  rw [hW0]
  clear hW0
  refine wpIn_rangeFunc_ownH rfl (by omega) (gf := 144) (lb := #[.pointer (some ⟨w.heap.size + 1 + 1, 0, none⟩), .pointer (some ⟨w.heap.size + 1 + 1 + 1, 0, none⟩)]) rfl trivial (enters_of Try.func144 (by kernel_rfl) rfl)
    (chunk_stopsC 2 (by omega) (w.heap.size + 1 + 1) (w.heap.size + 1 + 1 + 1) w.heap.size g n y u hu cp hcp hn hy W0 rL.row rM.row) KpC.trans (KpC.put (by omega) (by omega) (by omega)) (Below.refl _ _) (fun _ => rfl)
    (fun pre W => (RowT W w.heap.size 31 c ∧ RowT W (w.heap.size + 1) 2 #[.int .i64 (sumP r.h f y n pre)] ∧ RowT W (w.heap.size + 1 + 1) 33 #[.slice u n cp] ∧ RowT W (w.heap.size + 1 + 1 + 1) 3 #[.int .i64 y]) ∧ Below w.heap.size w W)
    (fun _ _ _ => False)
    (OwnFrom.and (OwnFrom.and (Own.from (RowT.own _ _ _) _) (OwnFrom.and (Own.from (RowT.own _ _ (fun pre => #[.int .i64 (sumP r.h f y n pre)])) _) (OwnFrom.and (Own.from (RowT.own _ _ _) _) (Own.from (RowT.own _ _ _) _)))) (ownFrom_below (Nat.le_refl _) (by omega)))
    (fun _ _ _ _ _ hs _ _ => hs)
    ⟨⟨rA, rS, rL, rM⟩, hB0⟩
    (fun x a' _ => a' = { tmps := #[.agg c, .slice u n cp, .int .i64 y, .pointer (some ⟨w.heap.size, 0, none⟩), undef, undef, .int .i64 0, .pointer (some ⟨w.heap.size + 1, 0, none⟩), x.enc g, undef, undef, undef, .slice u n cp, .int .i64 y, .func (.func 144) #[] #[.pointer (some ⟨w.heap.size + 1 + 1, 0, none⟩), .pointer (some ⟨w.heap.size + 1 + 1 + 1, 0, none⟩)], x.enc g, undef, undef, undef, undef, undef, undef, undef, undef, undef, undef, undef, undef, undef, undef, undef, undef, undef], defers := [] })
    (fun _ _ _ _ _ _ hs _ _ => hs)
    ?assign ?body ?done ?stop
  case assign =>
    rintro l pre x W K ⟨⟨gA, gS, gL, gM⟩, hB1⟩ hK
    dsimp only [Pt.enc]
    gi_wp2
    exact hK _ _ ((KeepsOthers.refl _).from _) (KpC.refl _ _ _ _) ⟨⟨gA, gS, gL, gM⟩, hB1⟩ rfl
  case body =>
    rintro l pre x a' W hl ⟨rr, hrr⟩ ⟨⟨gA, gS, gL, gM⟩, hB1⟩ rfl hlt
    obtain ⟨b, HBx⟩ : ∃ b : Nat, Hid (b = x.1 * y) := ⟨_, Lib.hid rfl⟩
    obtain ⟨e, HE⟩ : ∃ e : Nat, Hid (e = min y (n - b)) := ⟨_, Lib.hid rfl⟩
    obtain ⟨be, hbn, e8⟩ : b + e ≤ n ∧ b < n ∧ e ≤ 8 := by have h1 := HBx.out; have h2 := HE.out; have h3 := HN.out x; omega
    have HX : Hid (x.enc g = .slice (some ⟨g, b * 2, none⟩) e e) := Lib.hid (by unfold Pt.enc ptE; rw [HE.out, HBx.out])
    have HS : Hid (sumP r.h f y n (pre ++ [x]) = sumP r.h f y n pre + 2 * pmx r.h f b e) := Lib.hid (by rw [sumP_snoc]; unfold ptE; rw [HE.out, HBx.out])
    obtain ⟨s0, s1⟩ := sumP_bd (y := y) HB8.out pre
    obtain rfl := HU.out (by omega)
    rw [HX.out]
    generalize sumP r.h f y n pre = sm at *
    have s2 : sm ≤ 128 := by omega
    gi_wp2
    gi_loopw [9, 18] (fun m i wr => ∃ k : Nat, k ≤ e ∧ i = .int .i64 k ∧ m = .int .i64 (pmx r.h f b k) ∧ Below W.heap.size W wr) (fun _ i _ => e - (intOf i).toNat)
    case atStart => exact ⟨0, by omega, rfl, rfl, Below.refl _ _⟩
    case round =>
      obtain ⟨k, hk, rfl, rfl, hBr⟩ := hrel
      have HBr := Lib.hid hBr
      clear hBr
      obtain ⟨p0, p1⟩ := pmx_bd (h := r.h) (f := f) (k := b) (e := k) fun q hq => HB8.out _ (by omega)
      by_cases hlt2 : k < e
      · have hw1 : Below w.heap.size w wr := hB1.trans (HBr.out.mono hB1.size)
        obtain ⟨gg, hgg, c0, c1⟩ := (HV.out.below hw1 (Nat.le_refl _)).pl (k := b + k) (by omega)
        cases hgg
        obtain ⟨i, j, e0, e1, i8, j8, _, _, ih, _⟩ := Rf.inP_nat ho (HP.out (b + k) (by omega))
        have HMX : Hid (mxI (pmx r.h f b k) (r.h - i) = pmx r.h f b (k + 1)) := Lib.hid (by rw [pmx, e0])
        rw [e0, Nat.add_mul] at c0
        rw [e1, Nat.add_mul] at c1
        have hi0 : 0 ≤ (k : Int) := by omega
        have hi1 : (k : Int) < e := by omega
        have ga : ∀ o, rowAt (wr.alloc o) w.heap.size = some c := fun o => ((gA.below HBr.out).alloc o).row
        have CC := fun W => climbTo_any c r i j W hR i8 (by omega)
        generalize pmx r.h f b k = pm at *
        clear e0 e1 hw1
        by_cases hm : pm < r.h - i
        · have hmx : Hid (r.h - i = pmx r.h f b (k + 1)) := Lib.hid (by rw [← HMX.out]; unfold mxI; rw [if_neg (by omega)])
          gi_wp2
          refine ⟨trivial, (CallsIn.inRound l (callsIn_wide.2 (CC _))).mono ?_⟩
          rintro e' w1 ⟨rfl, b1⟩
          have B1 := Lib.hid (bnext (HBr.out.alloc HBr.out.size _) b1 (by have := HBr.out.size; simp; omega))
          clear b1 ga c0 c1 CC
          gi_wp2
          go_roundw
          case rel => exact ⟨k + 1, by omega, by go_num, by rw [hmx.out], B1.out⟩
          case measure => simp [intOf]; omega
        · have hmx : Hid (pm = pmx r.h f b (k + 1)) := Lib.hid (by rw [← HMX.out]; unfold mxI; split <;> omega)
          gi_wp2
          refine ⟨trivial, (CallsIn.inRound l (callsIn_wide.2 (CC _))).mono ?_⟩
          rintro e' w1 ⟨rfl, b1⟩
          have B1 := Lib.hid (bnext (HBr.out.alloc HBr.out.size _) b1 (by have := HBr.out.size; simp; omega))
          clear b1 ga c0 c1 CC
          gi_wp2
          go_roundw
          case rel => exact ⟨k + 1, by omega, by go_num, by rw [hmx.out], B1.out⟩
          case measure => simp [intOf]; omega
      · obtain rfl : k = e := by omega
        have gA2 := gA.below HBr.out
        have gS2 := gS.below HBr.out
        have gL2 := gL.below HBr.out
        have gM2 := gM.below HBr.out
        have ks := cell_of_rowAt gS2.row 0
        have kf := frozen_of_rowAt gS2.row
        simp at ks
        generalize pmx r.h f b k = pm at *
        have fs : w.heap.size ≤ w.heap.size + 1 := by omega
        have n0 : w.heap.size ≠ w.heap.size + 1 := by omega
        have n1 : w.heap.size + 1 + 1 ≠ w.heap.size + 1 := by omega
        have n2 : w.heap.size + 1 + 1 + 1 ≠ w.heap.size + 1 := by omega
        gi_wp2
        have bW := HBr.out
        refine ⟨((keeps_of_below bW).trans (KeepsOthers.setCell _ _ _)).from _, ⟨(bW.mono hB1.size).setCell (p := ⟨w.heap.size + 1, 0, none⟩) fs _, fun c' h' => (rowAt_setCell_ne _ _ _ _ _ n1).trans (brow bW h'), fun c' h' => (rowAt_setCell_ne _ _ _ _ _ n2).trans (brow bW h')⟩, ⟨gA2.other n0 _, ?_, gL2.other n1 _, gM2.other n2 _⟩, (hB1.trans (bW.mono hB1.size)).setCell (p := ⟨w.heap.size + 1, 0, none⟩) fs _⟩
        rw [HS.out]
        exact gS2.set _
  case done =>
    rintro D ys W hD ⟨k, rfl, hk⟩ ⟨⟨gA, gS, gL, gM⟩, hB1⟩ hK
    rw [HM.out, Nat.min_eq_right hk] at gS
    have ks := cell_of_rowAt gS.row 0
    simp at ks
    gi_wp2
    refine ⟨by simp, .inl ⟨_, _, rfl, run_takeDeferred hK, ?_⟩⟩
    exact ⟨_, results_tmp rfl _ _ _, rfl, hB1.trans (belowK_b (w := w) (Nat.le_refl _) W D _ _ (by omega) hK rfl rfl)⟩
  case stop =>
    rintro D c pre W _ _ h _
    exact h.elim
end Go.Proofs.Ytkbacpkpgfppiaa
