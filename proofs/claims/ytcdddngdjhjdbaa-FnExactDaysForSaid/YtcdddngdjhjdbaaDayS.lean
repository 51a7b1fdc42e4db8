/- DaysFor: the document's side. -/
import Derived.Test.YtcdddngdjhjdbaaDayI
import Derived.Laws.OwnMore
import Derived.StillTailTactics
namespace Go.Proofs.Ytcdddngdjhjdbaa
open Go.RowKit

theorem intsV_set (f : Nat → Int) (n a : Nat) (z : Int) : (intsV f n).set a (.int .i64 z) = intsV (upd f a z) n := by
  apply List.ext_getElem?
  intro i
  rw [List.getElem?_set]
  by_cases hi : i < n
  · rw [intsV_at _ hi, intsV_at _ hi, intsV_len]
    by_cases e : a = i
    · subst e; simp [hi, upd_at]
    · rw [if_neg e, upd_ne _ _ (Ne.symm e)]
  · have h1 : (intsV f n)[i]? = none := List.getElem?_eq_none (by rw [intsV_len]; omega)
    have h2 : (intsV (upd f a z) n)[i]? = none := List.getElem?_eq_none (by rw [intsV_len]; omega)
    rw [h1, h2, intsV_len]
    by_cases e : a = i
    · subst e; simp [hi]
    · rw [if_neg e]
theorem owns_setOther {w : World} {base : Nat} {e : TypeId} {size : Nat} {v : Value} {n : Nat} {xs : List Value} (h : w.ownsRow base e size v n xs) {m : Nat} (hm : ∀ x, v.ownBlock = some x → x ≠ m) (o : Nat) (u : Value) : (w.setCell ⟨m, o, none⟩ u).ownsRow base e size v n xs := by
  obtain ⟨hl, h | ⟨g, cap, cur, rfl, hg, hh, hr⟩⟩ := h
  · exact ⟨hl, .inl h⟩
  · exact ⟨hl, .inr ⟨g, cap, cur, rfl, hg, (heap_setCell_other w ⟨m, o, none⟩ g u (hm g rfl)).trans hh, hr⟩⟩
theorem owns_formD {w : World} {base : Nat} {e : TypeId} {size : Nat} {v : Value} {n : Nat} {xs : List Value} (h : w.ownsRow base e size v n xs) (hn : 0 < n) : ∃ g cap, v = .slice (some ⟨g, 0, none⟩) n cap ∧ base ≤ g ∧ g < w.heap.size := by
  obtain ⟨_, ⟨_, h0⟩ | ⟨g, cap, cur, hv, hb, hg, _⟩⟩ := h
  · omega
  · exact ⟨g, cap, hv, hb, (Array.getElem?_eq_some_iff.1 hg).1⟩
set_option maxRecDepth 100000 in
set_option maxHeartbeats 4000000 in
theorem specDaysFor_v (b m : Nat) (g : Nat → Int) (v : Value) (y : Int) (w : World) (hv : IsList w b v 1 m (fun i => .int .i64 (g i))) (hm : m ≤ 2000000) (_hb : ∀ i, i < m → -9223372036854775808 ≤ g i ∧ g i ≤ 9223372036854775807) :
    Calls Try.prog 8 #[v, .int .i64 y] w (GivesT w 1 .i64 (daysM m g y) (fun i => dayD g y i) [.int .i64 (daysN m g y), .int .i64 (timC m g y)]) := by
  obtain ⟨i0, hi0, hz0, hz1, hz2⟩ := info_parts A_infoIw
  have HV := Lib.hid hv
  have CC := fun W h => l04Times_any b m v g y W h hm
  obtain ⟨av, cv, rfl⟩ := hv.shape
  clear hv
  have hE : (w.alloc (.cells #[] 2)).ownsRow w.heap.size 2 1 (.slice (some ⟨w.heap.size, 0, none⟩) 0 0) 0 [] := owns_zero w 2 1
  have HE := Lib.hid hE
  have HE1 := Lib.hid (show IsList (w.alloc (.cells #[] 2)) b (.slice av m cv) 1 m _ from HV.out.below ((Below.refl w.heap.size w).alloc (Nat.le_refl _) _) (Nat.le_refl _))
  clear hE
  by_cases hc : timC m g y = 0
  · obtain ⟨⟨hy, hg⟩, h8⟩ := timC_ok hc
    have e0 := Lib.hid (show daysM m g y = m from if_pos hc)
    have e1 := Lib.hid (show daysN m g y = (dayS g y m).1 from if_pos hc)
    have HG := Lib.hid hg
    have HOK := Lib.hid (dayS_ok (y := y) (by omega) hg)
    have HY := Lib.hid hy
    have HC := Lib.hid hc
    rw [hc] at CC
    clear hc hg hy
    go_enter Try.func8, Try.ntmps8
    go_wp2_with fail
    refine (CC _ HE1.out).mono ?_
    rintro e w1 ⟨rfl, rfl⟩
    go_wp2_with fail
    clear HE1 CC
    go_loopw [7, 9, 10, 11] (fun vo vd i _ W => ∃ k : Nat, k ≤ m ∧ i = .int .i64 k ∧ (∃ a c, vo = .slice a k c) ∧ (∃ a c, vd = .slice a (dayS g y k).1 c) ∧ Hid (W.ownsRow w.heap.size 2 1 vo k (intsV (fun i => dayD g y i) k)) ∧ Hid (W.ownsRow w.heap.size 2 1 vd (dayS g y k).1 (intsV (dayS g y k).2 (dayS g y k).1)) ∧ Hid (∀ x, vo.ownBlock = some x → vd.ownBlock ≠ some x) ∧ Below w.heap.size w W) (fun _ _ i _ _ => m - (intOf i).toNat)
    case atStart =>
      exact ⟨0, by omega, rfl, ⟨_, _, rfl⟩, ⟨_, _, rfl⟩, Lib.hid (HE.out.alloc _), Lib.hid (owns_lowerD (show ((w.alloc (.cells #[] 2)).alloc (.cells #[] 2)).ownsRow (w.heap.size + 1) 2 1 (.slice (some ⟨w.heap.size + 1, 0, none⟩) 0 0) 0 [] from by have := owns_zero (w.alloc (.cells #[] 2)) 2 1; simpa using this) (Nat.le_succ _)), Lib.hid (fun x hx hy => by simp [Value.ownBlock] at hx hy; omega), ((Below.refl _ _).alloc (Nat.le_refl _) _).alloc (by simp) _⟩
    case round =>
      obtain ⟨k, hk, rfl, ⟨ao, co, rfl⟩, ⟨ad, cd, rfl⟩, OO, OD, AP, B⟩ := hrel
      by_cases hlt : k < m
      · obtain ⟨h0, _⟩ | ⟨gv, cap, cur, e1', hgv, hr, hs, hf⟩ := HV.out
        · omega
        cases e1'
        have hlv := rowAt_lt hr
        have HVR := Lib.hid hr
        have HVK := Lib.hid (show cur[k]? = some (.int .i64 (g k)) from hf k (by omega))
        have k0 : 0 ≤ (k : Int) := by omega
        have k2 : (k : Int) < m := by omega
        clear hf hs hr
        have hdl := dayD_le g y k
        have hdd := Lib.hid (show dayD g y k = dayFrom (dayS g y k).2 (g k) y ((dayS g y k).1 - 0) 0 from rfl)
        have hsn := Lib.hid (dayS_n g y k)
        have hsl := Lib.hid (dayS_l g y k)
        have hnk := (HOK.out k hk).1
        have hLk := Lib.hid (HOK.out k hk).2
        have hgk := HG.out k hlt
        have hyy := HY.out
        have HIN := Lib.hid (intsV_succ (fun i => (dayD g y i : Int)) k)
        generalize (dayS g y k).1 = n at *
        generalize (dayS g y k).2 = L at *
        generalize dayD g y k = dd at *
        generalize g k = t at *
        go_wp2_with fail
        go_loopw [11] (fun d W => ∃ a : Nat, a ≤ n ∧ d = .int .i64 a ∧ Hid (dd = dayFrom L t y (n - a) a) ∧ Hid (W.ownsRow w.heap.size 2 1 (.slice ao k co) k (intsV (fun i => dayD g y i) k)) ∧ Hid (W.ownsRow w.heap.size 2 1 (.slice ad n cd) n (intsV L n)) ∧ Below w.heap.size w W) (fun d _ => n - (intOf d).toNat)
        case atStart => exact ⟨0, by omega, rfl, hdd, OO, OD, B⟩
        case round =>
          clear OO OD B hdd
          obtain ⟨a, ha, rfl, HA, OO, OD, B⟩ := hrel
          have hla := Lib.hid (hLk.out a)
          have hL0 : 0 ≤ L a ∧ L a ≤ 1000 := by have := hla.out; omega
          have a0 : 0 ≤ (a : Int) := by omega
          have ck : wr.cell? ⟨gv, k, none⟩ = some (.int .i64 t) := (cell_of_rowAt (brow B HVR.out) _).trans HVK.out
          by_cases hna : a = n
          · subst hna
            have HDD := Lib.hid (show dd = a by rw [HA.out, Nat.sub_self, dayFrom_end])
            have hnn : ¬ (a : Int) < a := by omega
            go_wp2_with fail
            go_quiet (fail)
            have hbd := below_drewN (Below.refl wr.heap.size wr) nq
            go_wp2_with (at_builtin; refine Go.wpList_append_own_at _ rfl _ _ 22 rfl w.heap.size 2 i0 (.int .i64 0) 1 8 Try.underlying22 hi0 hz0 hz1 hz2 rfl (by decide) _ _ _ rfl (World.ownsRow.alloc (owns_belowD OD.out hbd) _) _ 1 1 [.int .i64 0] rfl rfl (cell_one_new _ _ _) (by simp [Value.oneCell']) (by unfold maxLen; omega) (by omega) (by have := B.size; have := hbd.size; simp; omega) ?_; intro v3 w3 own3 grow3 _ hat3)
            rw [show (Value.int .i64 0) = .int .i64 (L a) by rw [hla.out.2.2 (Nat.le_refl _)], intsV_succ] at own3
            have oo3 := (World.ownsRow.alloc (owns_belowD OO.out hbd) (.cells #[.int .i64 0] 2)).kept grow3 (by
              cases ho : (Value.slice ao k co).ownBlock with
              | none => exact .inl rfl
              | some x => exact .inr (fun h => AP.out x ho h.symm))
            have B3 : Below w.heap.size w w3 := ((below_drewN B nq).alloc (by have := B.size; have := hbd.size; omega) _).grown grow3 (by have := B.size; have := hbd.size; simp; omega) (fun x hx => (OD.out.lt x hx).1)
            obtain ⟨g3, c3, rfl, hg3, hlt3⟩ := owns_formD own3 (by omega)
            have ap3 : ∀ x, (Value.slice ao k co).ownBlock = some x → x ≠ g3 := fun x hx h => by
              have hxl := (OO.out.lt x hx).2
              have := hbd.size
              rcases hat3 with h3 | h3
              · exact AP.out x hx (h3 ▸ by rw [h]; rfl)
              · simp [Value.ownBlock] at h3; omega
            clear grow3 hat3 OO OD AP B hbd ck hnn
            have ca : w3.cell? ⟨g3, a, none⟩ = some (.int .i64 (L a)) := (own3.cellAt a (by omega)).trans (intsV_at L (by omega))
            have fa := own3.frozenAt a
            have ck : w3.cell? ⟨gv, k, none⟩ = some (.int .i64 t) := (cell_of_rowAt (brow B3 HVR.out) _).trans HVK.out
            have e9 : IntKind.i64.wrap (L a + t) = L a + t := IntWalk.i64_in _ (by omega)
            have aN1 : (a : Int) < a + 1 := by omega
            have hs3 := B3.size
            have O3 := Lib.hid own3
            have OO3 := Lib.hid oo3
            have AP3 := Lib.hid ap3
            have HB3 := Lib.hid B3
            have HL := Lib.hid (show IntKind.i64.wrap (L a + t) = L a + t from e9)
            clear own3 oo3 ap3 B3
            go_still_tail 10, (by kernel_rfl)
            change wpList _ _ _ _ _ w3.drew
            go_wp2_with (at_builtin; refine Go.wpList_append_own_at _ rfl _ _ 22 rfl w.heap.size 2 i0 (.int .i64 0) 1 8 Try.underlying22 hi0 hz0 hz1 hz2 rfl (by decide) _ _ _ rfl (World.ownsRow.drew (World.ownsRow.alloc (owns_setOther (w := w3) OO3.out AP3.out a (.int .i64 (L a + t))) _)) _ 1 1 [.int .i64 a] rfl rfl (cells_newD (w := w3.setCell ⟨g3, a, none⟩ (.int .i64 (L a + t))) (by simp) _ _) (by simp [Value.oneCell']) (by unfold maxLen; omega) (by omega) (by simp; omega) ?_; intro v5 w5 own5 grow5 _ hat5)
            have D5 := ((World.ownsRow.stored (w := w3) O3.out a (.int .i64 (L a + t))).1.alloc (.cells #[.int .i64 a] 2)).drew.kept grow5 (.inr (fun h => AP3.out g3 h.symm rfl))
            rw [intsV_set] at D5
            have B5 : Below w.heap.size w w5 := ((HB3.out.setCell (p := ⟨g3, a, none⟩) hg3 _).alloc (by simp; omega) _).drew.grown grow5 (by simp; omega) (fun x hx => (OO3.out.lt x hx).1)
            have lt3 : g3 < w3.heap.size := (O3.out.lt g3 rfl).2
            have AP5 : ∀ x, v5.ownBlock = some x → (Value.slice (some ⟨g3, 0, none⟩) (a + 1) c3).ownBlock ≠ some x := fun x hx h => by
              have hgx : g3 = x := by simpa [Value.ownBlock] using h
              rcases hat5 with h5 | h5
              · exact AP3.out x (h5 ▸ hx) hgx.symm
              · rw [h5] at hx; simp at hx; omega
            obtain ⟨a5, c5, rfl⟩ := owns_shape own5
            have D5 := Lib.hid D5
            have O5 := Lib.hid own5
            have B5 := Lib.hid B5
            have AP5 := Lib.hid AP5
            clear own5 grow5 hat5 ca fa ck
            go_wp2_with fail
            have hdk : dd = a := HDD.out
            have hn1 := hsn.out
            have hl1 := hsl.out
            subst hdk
            have hN : (dayS g y (k + 1)).1 = dd + 1 := by rw [hn1]; exact if_pos rfl
            refine ⟨⟨k + 1, by omega, by go_num, ⟨_, _, rfl⟩, ⟨some ⟨g3, 0, none⟩, c3, by rw [hN]⟩, Lib.hid (HIN.out ▸ O5.out), ?_, AP5, B5.out⟩, by simp [intOf]; omega⟩
            rw [hN, hl1]
            exact D5
          · obtain ⟨g3, c3, e2, hg3, hgdl⟩ := owns_formD OD.out (by omega)
            cases e2
            have ca : wr.cell? ⟨g3, a, none⟩ = some (.int .i64 (L a)) := (OD.out.cellAt a (by omega)).trans (intsV_at L (by omega))
            have e9 : IntKind.i64.wrap (L a + t) = L a + t := IntWalk.i64_in _ (by omega)
            have a1 : (a : Int) < n := by omega
            by_cases hfit : L a + t ≤ y
            · have HDD := Lib.hid (show dd = a by rw [HA.out, dayFrom_hit (by omega) hfit])
              have hfi : ¬ y < L a + t := by omega
              go_wp2_with fail
              go_quiet (fail)
              have hbd := below_drewN (Below.refl wr.heap.size wr) nq
              have own3 := owns_belowD OD.out hbd
              have oo3 := owns_belowD OO.out hbd
              have B3 := below_drewN B nq
              have ap3 : ∀ x, (Value.slice ao k co).ownBlock = some x → x ≠ g3 := fun x hx h => AP.out x hx (by rw [h]; rfl)
              have hna2 : ((a : Int) == n) = false := by simp; omega
              clear OO OD AP B hbd ck ca
              generalize wr.drewN nq = w3 at *
              go_wp2_with fail
              have ca : w3.cell? ⟨g3, a, none⟩ = some (.int .i64 (L a)) := (own3.cellAt a (by omega)).trans (intsV_at L (by omega))
              have fa := own3.frozenAt a
              have ck : w3.cell? ⟨gv, k, none⟩ = some (.int .i64 t) := (cell_of_rowAt (brow B3 HVR.out) _).trans HVK.out
              have e9 : IntKind.i64.wrap (L a + t) = L a + t := IntWalk.i64_in _ (by omega)
              have aN1 : (a : Int) < n := by omega
              have hs3 := B3.size
              have O3 := Lib.hid own3
              have OO3 := Lib.hid oo3
              have AP3 := Lib.hid ap3
              have HB3 := Lib.hid B3
              have HL := Lib.hid (show IntKind.i64.wrap (L a + t) = L a + t from e9)
              clear own3 oo3 ap3 B3
              go_still_tail 10, (by kernel_rfl)
              change wpList _ _ _ _ _ w3.drew
              go_wp2_with (at_builtin; refine Go.wpList_append_own_at _ rfl _ _ 22 rfl w.heap.size 2 i0 (.int .i64 0) 1 8 Try.underlying22 hi0 hz0 hz1 hz2 rfl (by decide) _ _ _ rfl (World.ownsRow.drew (World.ownsRow.alloc (owns_setOther (w := w3) OO3.out AP3.out a (.int .i64 (L a + t))) _)) _ 1 1 [.int .i64 a] rfl rfl (cells_newD (w := w3.setCell ⟨g3, a, none⟩ (.int .i64 (L a + t))) (by simp) _ _) (by simp [Value.oneCell']) (by unfold maxLen; omega) (by omega) (by simp; omega) ?_; intro v5 w5 own5 grow5 _ hat5)
              have D5 := ((World.ownsRow.stored (w := w3) O3.out a (.int .i64 (L a + t))).1.alloc (.cells #[.int .i64 a] 2)).drew.kept grow5 (.inr (fun h => AP3.out g3 h.symm rfl))
              rw [intsV_set] at D5
              have B5 : Below w.heap.size w w5 := ((HB3.out.setCell (p := ⟨g3, a, none⟩) hg3 _).alloc (by simp; omega) _).drew.grown grow5 (by simp; omega) (fun x hx => (OO3.out.lt x hx).1)
              have lt3 : g3 < w3.heap.size := (O3.out.lt g3 rfl).2
              have AP5 : ∀ x, v5.ownBlock = some x → (Value.slice (some ⟨g3, 0, none⟩) (n) cd).ownBlock ≠ some x := fun x hx h => by
                have hgx : g3 = x := by simpa [Value.ownBlock] using h
                rcases hat5 with h5 | h5
                · exact AP3.out x (h5 ▸ hx) hgx.symm
                · rw [h5] at hx; simp at hx; omega
              obtain ⟨a5, c5, rfl⟩ := owns_shape own5
              have D5 := Lib.hid D5
              have O5 := Lib.hid own5
              have B5 := Lib.hid B5
              have AP5 := Lib.hid AP5
              clear own5 grow5 hat5 ca fa ck
              go_wp2_with fail
              have hdk : dd = a := HDD.out
              have hn1 := hsn.out
              have hl1 := hsl.out
              subst hdk
              have hN : (dayS g y (k + 1)).1 = n := by rw [hn1]; exact if_neg (by omega)
              refine ⟨⟨k + 1, by omega, by go_num, ⟨_, _, rfl⟩, ⟨some ⟨g3, 0, none⟩, cd, by rw [hN]⟩, Lib.hid (HIN.out ▸ O5.out), ?_, AP5, B5.out⟩, by simp [intOf]; omega⟩
              rw [hN, hl1]
              exact D5
            · have HDD := Lib.hid (show dd = dayFrom L t y (n - (a + 1)) (a + 1) by rw [HA.out, dayFrom_miss (by omega) hfit])
              have hfi : y < L a + t := by omega
              generalize L a = z at *
              clear e9
              go_wp2_with fail
              go_quiet (fail)
              go_wp2_with fail
              exact ⟨⟨a + 1, by omega, by go_num, HDD, Lib.hid (owns_belowD OO.out (below_drewN (Below.refl _ _) _)), Lib.hid (owns_belowD OD.out (below_drewN (Below.refl _ _) _)), below_drewN B _⟩, by simp [intOf]; omega⟩
      · obtain rfl : k = m := by omega
        go_wp2_with fail
        go_ret3
        rw [e0.out, e1.out, HC.out]
        exact ⟨_, rfl, IsList.of_intsV OO.out, B⟩
  · have e0 := Lib.hid (show daysM m g y = 0 from if_neg hc)
    have e1 := Lib.hid (show daysN m g y = 0 from if_neg hc)
    have hcb : (timC m g y != 0) = true := by simp [hc]
    generalize timC m g y = q at *
    go_enter Try.func8, Try.ntmps8
    go_wp2_with fail
    refine (CC _ HE1.out).mono ?_
    rintro e w1 ⟨rfl, rfl⟩
    go_wp2_with fail
    go_ret3
    rw [e0.out, e1.out]
    exact ⟨_, rfl, .inl ⟨rfl, _, _, rfl⟩, (Below.refl _ _).alloc (Nat.le_refl _) _⟩
theorem implDaysFor_any (b m : Nat) (g : Nat → Int) (u : Option Addr) (y : Int) (w : World) (hv : IsList w b (.slice u m m) 1 m (fun i => .int .i64 (g i))) (hm : m ≤ 2000000) (hb : ∀ i, i < m → -9223372036854775808 ≤ g i ∧ g i ≤ 9223372036854775807) :
    Calls Try.prog 10 #[.slice u m m, .int .i64 y] w (GivesT w 1 .i64 (daysM m g y) (fun i => dayD g y i) [.int .i64 (daysN m g y), .int .i64 (timC m g y)]) := implDaysFor_v b m g _ y w hv hm hb
theorem specDaysFor_any (b m : Nat) (g : Nat → Int) (u : Option Addr) (y : Int) (w : World) (hv : IsList w b (.slice u m m) 1 m (fun i => .int .i64 (g i))) (hm : m ≤ 2000000) (hb : ∀ i, i < m → -9223372036854775808 ≤ g i ∧ g i ≤ 9223372036854775807) :
    Calls Try.prog 8 #[.slice u m m, .int .i64 y] w (GivesT w 1 .i64 (daysM m g y) (fun i => dayD g y i) [.int .i64 (daysN m g y), .int .i64 (timC m g y)]) := specDaysFor_v b m g _ y w hv hm hb
end Go.Proofs.Ytcdddngdjhjdbaa
