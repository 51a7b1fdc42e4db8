/- How many times it has to rain until pails are full: contracts of both sides. -/
import Derived.Test.YtcbgdhbjopjdnaaPails
import Derived.Maps.AppendAt
namespace Go.Proofs.Ytcbgdhbjopjdnaa
open Go.RowKit

/-- How many times, for one cell. -/
def fillT (D : Nat → Int) (s : Int) (k : Nat) : Int := if 0 < colTo D k 8 then (s + colTo D k 8 - 1) / colTo D k 8 else 0
theorem fillT_pos {D : Nat → Int} {s : Int} {k : Nat} (h : 0 < colTo D k 8) : fillT D s k = (s + colTo D k 8 - 1) / colTo D k 8 := if_pos h
theorem fillT_zero {D : Nat → Int} {s : Int} {k : Nat} (h : ¬ 0 < colTo D k 8) : fillT D s k = 0 := if_neg h
noncomputable def Rf.plen (r : Rf) (t : Nat → Int) (s : Int) : Nat := if r.pcode t s = 0 then (2 * r.w + 1).toNat else 0
theorem Rf.plen_le (r : Rf) (t : Nat → Int) (s : Int) : r.plen t s ≤ 1000000 := by
  unfold Rf.plen
  split
  · rename_i h; have := (Rf.pcode_zero h).1.1.2.1; omega
  · omega

set_option maxRecDepth 100000 in
set_option maxHeartbeats 2000000 in
theorem specFillTimes_any (c d : Array Value) (r : Rf) (t : Nat → Int) (s : Int) (w : World) (hR : IsRoof c r) (hT : IsRain d t) :
    Calls Try.prog 10 #[.agg c, .agg d, .int .i64 s] w (GivesInts w (r.plen t s) (fillT (r.drips t) s) (r.pcode t s)) := by
  obtain ⟨p0, p1, pB⟩ := two_boxes w c d 33 35
  by_cases hz : r.pcode t s = 0
  · obtain ⟨ho, s0, s1⟩ := Rf.pcode_zero hz
    have hV : r.plen t s = (2 * r.w + 1).toNat := if_pos hz
    rw [hV, hz]
    have hbb : (r.pcode t s != 0) = false := by simp [hz]
    have HB := Lib.hid fun i (_ : i < 136) => ho.drips_bd i
    have hw8 := ho.1.2.1
    obtain ⟨q, hq⟩ : ∃ q, q = (2 * r.w + 1).toNat := ⟨_, rfl⟩
    have q17 : q ≤ 17 := by omega
    rw [← hq]
    have HQ := Lib.hid hq
    obtain ⟨i0, hi0, hz0, hz1, hz2⟩ := info_parts A_infoI
    clear hz hV hq
    go_enter Try.func10, Try.ntmps10
    go_wp2_with fail
    refine (l02Pails_any w.heap.size (w.heap.size + 1) c d r t s _ p0 hR p1 hT).mono ?_
    rintro e w1 ⟨rfl, b1⟩
    have q0 := brow b1 p0
    have q1 := brow b1 p1
    have B1 := bnext pB b1 pB.size
    have g0 := (rowAt_alloc_past w1 (.cells #[] 2) _ (rowAt_lt q0)).trans q0
    have g1 := (rowAt_alloc_past w1 (.cells #[] 2) _ (rowAt_lt q1)).trans q1
    have own0 : (w1.alloc (.cells #[] 2)).ownsRow w1.heap.size 2 1 (.slice (some ⟨w1.heap.size, 0, none⟩) 0 0) 0 [] :=
      ⟨rfl, .inr ⟨_, 0, #[], rfl, Nat.le_refl _, heap_alloc_new w1 _, Nat.le_refl _, Nat.zero_le _, rfl, rfl⟩⟩
    have A1 := B1.alloc B1.size (.cells #[] 2)
    have B1s := Lib.hid B1.size
    have G0 := Lib.hid g0
    have G1 := Lib.hid g1
    have OW := Lib.hid own0
    have AA := Lib.hid A1
    clear b1 p0 p1 pB q0 q1 B1 g0 g1 own0 A1
    go_wp2_with fail
    refine (l02Across_any w.heap.size (w.heap.size + 1) c d r t _ G0.out hR G1.out hT ho).mono ?_
    rintro e w2 ⟨v, rfl, l2, b2⟩
    rw [← HQ.out] at l2
    have own2 := ownsRow_blocks (w' := w2) OW.out (fun g _ hg => b2.block g hg)
    have B2 := bnext AA.out b2 AA.out.size
    obtain ⟨a, cap, rfl⟩ := l2.shape
    have L2 := Lib.hid l2
    have hs1 : w.heap.size ≤ w1.heap.size := by have := B1s.out; omega
    have hs2 : w1.heap.size < w2.heap.size := by have := b2.size; simp at this; omega
    clear b2 l2
    go_wp2_with fail
    go_loopw [9, 11] (fun v i W => ∃ k : Nat, k ≤ q ∧ i = .int .i64 k ∧ W.ownsRow w1.heap.size 2 1 v k (intsOf (fillT (r.drips t) s) k) ∧ (∀ x, v.ownBlock = some x → x = w1.heap.size ∨ w2.heap.size ≤ x) ∧ (∀ y, w1.heap.size < y → y < w2.heap.size → rowAt W y = rowAt w2 y) ∧ Below w.heap.size w W ∧ w2.heap.size ≤ W.heap.size) (fun _ i _ => q - (intOf i).toNat)
    case atStart => exact ⟨0, by omega, rfl, own2, fun x hx => .inl (by simp [Value.ownBlock] at hx; omega), fun _ _ _ => rfl, B2, Nat.le_refl _⟩
    case round =>
      obtain ⟨k, hk, rfl, hown, hblk, hrows, hB, hsz⟩ := hrel
      clear own2 B2
      by_cases hlt : k < q
      · obtain ⟨g, rfl, hg, hcell, hgn⟩ := L2.out.cell hlt
        have hg1 : w1.heap.size < g := by simp at hg; omega
        have hg2 : g < w2.heap.size := by
          cases hq' : rowAt w2 g with
          | none => exact absurd hq' hgn
          | some x => exact rowAt_lt hq'
        have hcg : wr.cell? ⟨g, k, none⟩ = some (.int .i64 (colTo (r.drips t) k 8)) := by
          cases hq' : rowAt w2 g with
          | none => exact absurd hq' hgn
          | some x =>
            have h1 := (hrows g hg1 hg2).trans hq'
            rw [cell_of_rowAt h1]; rw [cell_of_rowAt hq'] at hcell; exact hcell
        obtain ⟨x0, x1⟩ := colTo_bd HB.out (k := k) (n := 8) (by omega) (by omega)
        have k0 : (0 : Int) ≤ k := by omega
        have k1 : (k : Int) < q := by omega
        have HR := Lib.hid hrows
        have HBK := Lib.hid hblk
        clear hcell hgn hrows hblk
        by_cases hp : 0 < colTo (r.drips t) k 8
        · have HF := Lib.hid (fillT_pos (s := s) hp)
          generalize colTo (r.drips t) k 8 = X at *
          have e1 : IntKind.i64.wrap (s + X) = s + X := IntWalk.i64_in _ (by omega)
          have e2 : IntKind.i64.wrap (s + X - 1) = s + X - 1 := IntWalk.i64_in _ (by omega)
          have d0 : (s + X - 1).tdiv X = (s + X - 1) / X := Int.tdiv_eq_ediv_of_nonneg (by omega)
          have d1 : 0 ≤ (s + X - 1) / X := Int.ediv_nonneg (by omega) (by omega)
          have d2 : (s + X - 1) / X ≤ s + X - 1 := Int.ediv_le_self _ (by omega)
          have e3 : IntKind.i64.wrap ((s + X - 1) / X) = (s + X - 1) / X := IntWalk.i64_in _ (by omega)
          go_wp2_with fail
          go_quiet (fail)
          generalize hwo : World.drewN wr _ = wo
          have hownO := ownsRow_blocks (w' := wo) hown (fun g _ _ => by rw [← hwo]; rfl)
          have hrO : ∀ y, rowAt wo y = rowAt wr y := fun y => by rw [← hwo]; rfl
          have hBO : Below w.heap.size w wo := by rw [← hwo]; exact below_drewN hB _
          have hszO : w2.heap.size ≤ wo.heap.size := by rw [← hwo]; exact hsz
          clear hwo e1 e2 d0 d1 d2 e3
          go_wp2_with (at_builtin; go_loud (refine Go.wpList_append_own_at _ rfl _ _ 40 rfl w1.heap.size 2 i0 (.int .i64 0) 1 8 Try.underlying40 hi0 hz0 hz1 hz2 rfl (by decide) _ _ _ rfl (hownO.alloc _) ⟨wo.heap.size, 0, none⟩ 1 1 [.int .i64 ((s + X - 1) / X)] rfl rfl (cell_one_new _ _ _) (by simp [Value.oneCell']) ?c3 ?c4 ?c5 ?_))
          case c3 => unfold maxLen; omega
          case c4 => omega
          case c5 => simp; omega
          intro v3 w3 own3 grow3 _ ob3
          rw [← HF.out, intsOf_succ] at own3
          have hbk3 : ∀ x, v3.ownBlock = some x → x = w1.heap.size ∨ w2.heap.size ≤ x := by
            intro x hx
            rcases ob3 with h | h
            · exact HBK.out x (h ▸ hx)
            · rw [hx] at h; simp at h; omega
          have hrow3 : ∀ y, w1.heap.size < y → y < w2.heap.size → rowAt w3 y = rowAt w2 y := fun y hy hy2 =>
            ((grown_row grow3 (by simp; omega) (fun z hz => by have := HBK.out z hz; omega)).trans (rowAt_alloc_past _ _ _ (by omega))).trans ((hrO y).trans (HR.out y hy hy2))
          have B3 : Below w.heap.size w w3 := (hBO.alloc hBO.size _).grown grow3 (by have := hBO.size; simp; omega) (by intro x hx; have := (hown.lt x hx).1; omega)
          have hsz3 : w2.heap.size ≤ w3.heap.size := by have := grow3.size; simp at this; omega
          have HR3 := Lib.hid hrow3
          have HB3 := Lib.hid hbk3
          clear hrow3 hbk3 grow3 hownO hrO hown
          go_wp2_with fail
          exact ⟨⟨k + 1, by omega, by go_num, own3, HB3.out, HR3.out, B3, hsz3⟩, by simp [intOf]; omega⟩
        · have HF := Lib.hid (fillT_zero (s := s) hp)
          have hdd : decide (0 < colTo (r.drips t) k 8) = false := by simp; omega
          clear hp
          obtain ⟨wo, hwo⟩ : ∃ wo : World, wo = wr := ⟨_, rfl⟩
          rw [← hwo] at hown hB hsz HR hcg ⊢
          clear hwo
          go_wp2_with (at_builtin; refine Go.wpList_append_own_at _ rfl _ _ 40 rfl w1.heap.size 2 i0 (.int .i64 0) 1 8 Try.underlying40 hi0 hz0 hz1 hz2 rfl (by decide) _ _ _ rfl (hown.alloc _) ⟨wo.heap.size, 0, none⟩ 1 1 [.int .i64 0] rfl rfl (cell_one_new _ _ _) (by simp [Value.oneCell']) ?c3 ?c4 ?c5 ?_)
          case c3 => unfold maxLen; omega
          case c4 => omega
          case c5 => simp; omega
          intro v3 w3 own3 grow3 _ ob3
          rw [← HF.out, intsOf_succ] at own3
          have hbk3 : ∀ x, v3.ownBlock = some x → x = w1.heap.size ∨ w2.heap.size ≤ x := by
            intro x hx
            rcases ob3 with h | h
            · exact HBK.out x (h ▸ hx)
            · rw [hx] at h; simp at h; omega
          have hrow3 : ∀ y, w1.heap.size < y → y < w2.heap.size → rowAt w3 y = rowAt w2 y := fun y hy hy2 =>
            ((grown_row grow3 (by simp; omega) (fun z hz => by have := HBK.out z hz; omega)).trans (rowAt_alloc_past _ _ _ (by omega))).trans (HR.out y hy hy2)
          have B3 : Below w.heap.size w w3 := (hB.alloc hB.size _).grown grow3 (by have := hB.size; simp; omega) (by intro x hx; have := (hown.lt x hx).1; omega)
          have hsz3 : w2.heap.size ≤ w3.heap.size := by have := grow3.size; simp at this; omega
          have HR3 := Lib.hid hrow3
          have HB3 := Lib.hid hbk3
          clear hrow3 hbk3 grow3 hown
          go_wp2_with fail
          exact ⟨⟨k + 1, by omega, by go_num, own3, HB3.out, HR3.out, B3, hsz3⟩, by simp [intOf]; omega⟩
      · obtain rfl : k = q := by omega
        have hl := IsList.of_ints hown
        clear hown hrows hblk
        go_wp2_with fail
        go_ret2
        exact ⟨_, rfl, hl.mono (by omega), hB⟩
  · have hV : r.plen t s = 0 := if_neg hz
    rw [hV]
    have hbb : (r.pcode t s != 0) = true := by simp [hz]
    clear hz hV
    go_enter Try.func10, Try.ntmps10
    go_wp2_with fail
    refine (l02Pails_any w.heap.size (w.heap.size + 1) c d r t s _ p0 hR p1 hT).mono ?_
    rintro e w1 ⟨rfl, b1⟩
    have B1 := bnext pB b1 pB.size
    clear b1 p0 p1 pB
    go_wp2_with fail
    go_ret2
    exact ⟨_, rfl, .inl ⟨rfl, _, _, rfl⟩, B1.alloc B1.size _⟩

set_option maxRecDepth 100000 in
set_option maxHeartbeats 2000000 in
theorem implFillTimes_any (c d : Array Value) (r : Rf) (t : Nat → Int) (s : Int) (w : World) (hR : IsRoof c r) (hT : IsRain d t) :
    Calls Try.prog 11 #[.agg c, .agg d, .int .i64 s] w (GivesInts w (r.plen t s) (fillT (r.drips t) s) (r.pcode t s)) := by
  have hc := hR.size
  have hd := hT.size
  obtain ⟨p0, p1, pB⟩ := two_boxes w c d 33 35
  by_cases hz : r.pcode t s = 0
  · obtain ⟨ho, s0, s1⟩ := Rf.pcode_zero hz
    have hV : r.plen t s = (2 * r.w + 1).toNat := if_pos hz
    rw [hV, hz]
    have hbb : (r.pcode t s != 0) = false := by simp [hz]
    have HB := Lib.hid fun i (_ : i < 136) => ho.drips_bd i
    have hw1 := ho.1.1
    have hw8 := ho.1.2.1
    have CA := fun w => across_any c r w hR
    obtain ⟨q, hq⟩ := Int.eq_ofNat_of_zero_le (show 0 ≤ 2 * r.w + 1 by omega)
    have q17 : q ≤ 17 := by omega
    rw [hq] at CA
    have CD := fun w => cellDrips_any c d r t w hR hT ho
    rw [hq, show (q : Int).toNat = q from rfl] at CD
    rw [hq, show (q : Int).toNat = q from rfl]
    obtain ⟨i0, hi0, hz0, hz1, hz2⟩ := info_parts A_infoI
    clear hz hV hq
    go_enter Try.func11, Try.ntmps11
    go_wp2_with fail
    refine (checkPail_any c d r t s _ hR hT).mono ?_
    rintro e w1 ⟨rfl, b1⟩
    have q0 := brow b1 p0
    have q1 := brow b1 p1
    have B1 := bnext pB b1 pB.size
    clear b1 p0 p1 pB
    go_wp2_with fail
    refine (CA _).mono ?_
    rintro e w2 ⟨rfl, b2⟩
    have r0 := brow b2 q0
    have r1 := brow b2 q1
    have B2 := bnext B1 b2 B1.size
    clear b2 q0 q1 B1
    go_wp2_with (at_make; refine wpList_make_full _ rfl _ _ 40 rfl w.heap.size 2 i0 (.int .i64 0) 1 Try.underlying40 hi0 hz0 hz1 .i64 .i64 q q q rfl rfl rfl rfl (by rw [hz2]; omega) (by unfold maxLen; omega) B2.size ?_)
    intro w3 own3 grow3
    have rg := made_row own3
    have B3 : Below w.heap.size w w3 := B2.grown grow3 B2.size (by intro x hx; cases hx)
    have u0 := (grown_row grow3 (rowAt_lt r0) (by intro x hx; cases hx)).trans r0
    have u1 := (grown_row grow3 (rowAt_lt r1) (by intro x hx; cases hx)).trans r1
    have hgs : w.heap.size ≤ w2.heap.size := B2.size
    clear own3 grow3 r0 r1 B2
    go_wp2_with fail
    refine (CD _).mono ?_
    rintro e w4 ⟨v, rfl, l4, b4⟩
    have rg4 := brow b4 rg
    have lg4 := rowAt_lt rg
    have B4 := bnext B3 b4 B3.size
    obtain ⟨a, cap, rfl⟩ := l4.shape
    have L4 := Lib.hid l4
    have R4 := Lib.hid rg4
    clear b4 u0 u1 rg l4 B3 rg4
    go_wp2_with fail
    go_loopw [26] (fun i W => ∃ k : Nat, k ≤ q ∧ i = .int .i64 k ∧ rowAt W w2.heap.size = some (mkI .i64 q fun j => if j < k then fillT (r.drips t) s j else 0) ∧ Sole w2.heap.size w4 W) (fun i _ => q - (intOf i).toNat)
    case atStart => exact ⟨0, by omega, rfl, R4.out.trans (congrArg some (mkI_congr fun i _ => by rw [if_neg (by omega)])), Sole.refl _ _⟩
    case round =>
      obtain ⟨k, hk, rfl, sg, hS⟩ := hrel
      by_cases hlt : k < q
      · obtain ⟨g, rfl, hg, hcell, hgn⟩ := L4.out.cell hlt
        have hg4 : g < w4.heap.size := by
          cases hq' : rowAt w4 g with
          | none => exact absurd hq' hgn
          | some x => exact rowAt_lt hq'
        have hne : g ≠ w2.heap.size := by omega
        have hcg : wr.cell? ⟨g, k, none⟩ = some (.int .i64 (colTo (r.drips t) k 8)) := by
          cases hq' : rowAt w4 g with
          | none => exact absurd hq' hgn
          | some x =>
            have h1 := (hS.rows g hg4 hne).trans hq'
            rw [cell_of_rowAt h1]; rw [cell_of_rowAt hq'] at hcell; exact hcell
        have cg : wr.cell? ⟨w2.heap.size, k, none⟩ = some (.int .i64 0) := by rw [cell_of_rowAt sg, (isK_mkI _ _ _).get hlt, if_neg (by omega)]
        have fg := frozen_of_rowAt sg
        obtain ⟨x0, x1⟩ := colTo_bd HB.out (k := k) (n := 8) (by omega) (by omega)
        have k0 : (0 : Int) ≤ k := by omega
        have k1 : (k : Int) < q := by omega
        have SG := Lib.hid sg
        clear sg hcell hgn
        by_cases hp : 0 < colTo (r.drips t) k 8
        · have HF := Lib.hid (fillT_pos (s := s) hp)
          have CV := dividedUp_any s (colTo (r.drips t) k 8) wr (by omega) (by omega) (by omega) (by omega)
          rw [← HF.out] at CV
          go_wp2_with fail
          refine CV.mono ?_
          rintro e w5 ⟨rfl, rfl⟩
          clear CV
          go_wp2_with fail
          refine ⟨⟨k + 1, by omega, by go_num, ?_, hS.setCell _ _⟩, by simp [intOf]; omega⟩
          rw [rowAt_setCell_at _ _ _ _ (by rw [SG.out]; rfl), SG.out, Option.getD_some]
          refine congrArg some (((isK_mkI _ _ _).set k _).congr fun i hi => ?_).eq
          by_cases hij : i = k
          · subst hij; rw [upd_at, if_pos (by omega)]
          · rw [upd_ne _ _ hij]
            by_cases h : i < k
            · rw [if_pos h, if_pos (by omega)]
            · rw [if_neg h, if_neg (by omega)]
        · have HF := Lib.hid (fillT_zero (s := s) hp)
          have hdd : decide (0 < colTo (r.drips t) k 8) = false := by simp; omega
          clear hp
          go_wp2_with fail
          refine ⟨⟨k + 1, by omega, by go_num, SG.out.trans (congrArg some (mkI_congr fun i hi => ?_)), hS⟩, by simp [intOf]; omega⟩
          by_cases h : i < k
          · rw [if_pos h, if_pos (by omega)]
          · by_cases hij : i = k
            · subst hij; rw [if_neg h, if_pos (by omega), HF.out]
            · rw [if_neg h, if_neg (by omega)]
      · obtain rfl : k = q := by omega
        go_wp2_with fail
        go_ret2
        exact ⟨_, rfl, .inr ⟨_, k, _, rfl, hgs, sg, by simp, fun i hi => by rw [(isK_mkI _ _ _).get (by omega), if_pos (by omega)]⟩, B4.trans (hS.below.mono hgs)⟩
  · have hV : r.plen t s = 0 := if_neg hz
    rw [hV]
    have hbb : (r.pcode t s != 0) = true := by simp [hz]
    clear hz hV
    go_enter Try.func11, Try.ntmps11
    go_wp2_with fail
    refine (checkPail_any c d r t s _ hR hT).mono ?_
    rintro e w1 ⟨rfl, b1⟩
    have B1 := bnext pB b1 pB.size
    clear b1 p0 p1 pB
    go_wp2_with fail
    go_ret2
    exact ⟨_, rfl, .inl ⟨rfl, _, _, rfl⟩, B1⟩
end Go.Proofs.Ytcbgdhbjopjdnaa
