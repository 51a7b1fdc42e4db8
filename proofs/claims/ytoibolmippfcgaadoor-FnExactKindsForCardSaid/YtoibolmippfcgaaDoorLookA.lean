/- Drips that are sound: the program. -/
import Derived.Test.YtoibolmippfcgaaDoorSoundM
import Derived.IntWalk
namespace Go.Proofs.YtoibolmippfcgaaDoor
open Go.RowKit

def Rf.winAt (r : Rf) (D : Nat → Int) (k cell : Nat) : Prop := 0 ≤ D (k * 17 + cell) ∧ (0 < D (k * 17 + cell) → r.inside k cell)
def Rf.Win (r : Rf) (D : Nat → Int) : Prop := ∀ k, k < 8 → ∀ cell, cell < 17 → r.winAt D k cell
open Classical in
noncomputable def Rf.winB (r : Rf) (D : Nat → Int) : Bool := decide (r.Win D)
theorem Rf.winB_t {r : Rf} {D : Nat → Int} (h : r.Win D) : r.winB D = true := by simp [Rf.winB, h]
theorem Rf.winB_f {r : Rf} {D : Nat → Int} (h : ¬ r.Win D) : r.winB D = false := by simp [Rf.winB, h]
theorem colTo_mono {D : Nat → Int} {cell : Nat} (h : ∀ k, k < 8 → 0 ≤ D (k * 17 + cell)) {a : Nat} : ∀ {b : Nat}, a ≤ b → b ≤ 8 → colTo D cell a ≤ colTo D cell b
  | 0, h1, _ => by rw [show a = 0 by omega]; exact Int.le_refl _
  | b + 1, h1, h2 => by
    by_cases e : a = b + 1
    · subst e; exact Int.le_refl _
    · have := colTo_mono h (a := a) (b := b) (by omega) (by omega)
      have h3 := h b (by omega)
      rw [← colTo_succ]
      omega
theorem colTo_zero {D : Nat → Int} {cell : Nat} (h : ∀ k, k < 8 → D (k * 17 + cell) = 0) : ∀ {b : Nat}, b ≤ 8 → colTo D cell b = 0
  | 0, _ => rfl
  | b + 1, h2 => by
    rw [← colTo_succ, colTo_zero h (by omega), h b (by omega)]; rfl
/-- Sound drips as the program asks for them. -/
theorem Rf.sound_iff {r : Rf} {t D : Nat → Int} (ho : r.Rains t) : r.Sound t D ↔ r.Win D ∧ ∀ cell : Nat, (cell : Int) < 2 * r.w + 1 → colTo D cell 8 ≤ t cell := by
  have hw8 := ho.1.2.1
  constructor
  · intro h
    exact ⟨fun k hk cell hc => ⟨(h cell hc k hk).1, (h cell hc k hk).2.2⟩, fun cell hc => (Rf.col_bd (k := 8) (ho.bd cell (by omega)).1 fun j hj => h cell (by omega) j hj).2⟩
  · rintro ⟨h1, h2⟩ cell hc k hk
    obtain ⟨a, b⟩ := h1 k hk cell hc
    refine ⟨a, ?_, b⟩
    have hpos : ∀ k, k < 8 → 0 ≤ D (k * 17 + cell) := fun k hk => (h1 k hk cell hc).1
    have hm := colTo_mono hpos (a := k + 1) (b := 8) (by omega) (by omega)
    rw [← colTo_succ] at hm
    have ht : colTo D cell 8 ≤ t cell := by
      by_cases hq : (cell : Int) < 2 * r.w + 1
      · exact h2 cell hq
      · rw [colTo_zero (fun k hk => by
          obtain ⟨x, y⟩ := h1 k hk cell hc
          by_cases hp : 0 < D (k * 17 + cell)
          · exact absurd (y hp).2 hq
          · omega) (by omega)]
        exact (ho.bd cell hc).1
    omega

set_option maxRecDepth 100000 in
set_option maxHeartbeats 4000000 in
theorem areWithin_any (X c : Array Value) (r : Rf) (D : Nat → Int) (w : World) (hX : IsD X D) (hR : IsRoof c r) (ho : r.Ok) :
    Calls Tryd.prog 81 #[.agg X, .agg c] w fun e w' => e = .returned (.bool (r.winB D)) ∧ Below w.heap.size w w' := by
  have hd := hX.size
  have hd' : X.size = 8 * 17 := by omega
  have h1 := hX.ones
  have hcs := hR.size
  have hh1 := ho.2.2.1
  have hh8 := ho.2.2.2.1
  have hw1 := ho.1
  have hw8 := ho.2.1
  have CA := fun w => across_any c r w hR
  obtain ⟨p0, p1, pB⟩ := two_boxes w X c 47 33
  go_enter Tryd.func81, Tryd.ntmps81
  go_wp2_with fail
  refine gen_world fun W1 hW => ?_
  rw [← hW] at p0 p1 pB
  clear hW
  have P1 := Lib.hid p1
  have PB := Lib.hid pB
  clear p0 p1 pB
  go_loopw [11] (fun i W => ∃ k : Nat, k ≤ 8 ∧ i = .int .i64 k ∧ Below W1.heap.size W1 W ∧ Hid (∀ x, x < k → ∀ y, y < 17 → r.winAt D x y)) (fun i _ => 8 - (intOf i).toNat)
  case atStart => exact ⟨0, by omega, rfl, Below.refl _ _, Lib.hid (by omega)⟩
  case round =>
    obtain ⟨k, hk, rfl, hB, hok⟩ := hrel
    by_cases hlt : k < 8
    · have hs8 : (X.extract (k * 17) (k * 17 + 17)).size = 17 := by simp; omega
      have ho8 : Ones (X.extract (k * 17) (k * 17 + 17)) := h1.extract _ _
      have hrow := hX.isK.extract (k * 17) 17 (by omega)
      have k0 : (0 : Int) ≤ k := by omega
      have k1 : (k : Int) < 8 := by omega
      have hB2 := hB.alloc hB.size (.cells (X.extract (k * 17) (k * 17 + 17)) 44)
      have HB := Lib.hid hB2
      clear hB hB2
      go_wp2_with fail
      go_loopw [16] (fun i W => ∃ j : Nat, j ≤ 17 ∧ i = .int .i64 j ∧ Below W1.heap.size W1 W ∧ Hid (∀ y, y < j → r.winAt D k y)) (fun i _ => 17 - (intOf i).toNat)
      case atStart => exact ⟨0, by omega, rfl, HB.out, Lib.hid (by omega)⟩
      case round =>
        clear HB
        obtain ⟨j, hj, rfl, hB, hok2⟩ := hrel
        by_cases hjl : j < 17
        · have hj1 : j < (X.extract (k * 17) (k * 17 + 17)).size := by omega
          have h0 := hrow.cell j hj1
          have r1 := brow hB P1.out
          have kh : wr.cell? ⟨w.heap.size + 1, 1, none⟩ = some (.int .i8 r.h) := by rw [cell_of_rowAt r1, Array.getElem?_eq_getElem (by omega), hR.high (by omega)]
          have j0 : (0 : Int) ≤ j := by omega
          have j1 : (j : Int) < 17 := by omega
          have dlo := hX.lo (k * 17 + j) (by omega)
          have dhi := hX.hi (k * 17 + j) (by omega)
          have HBB := Lib.hid hB
          clear hB
          by_cases ha : (k : Int) < r.h
          · skip
            by_cases hb : (j : Int) < 2 * r.w + 1
            · have hd : decide ((j : Int) < 2 * r.w + 1) = true := decide_eq_true hb
              by_cases d0 : D (k * 17 + j) < 0
              · have HF : Hid (r.winB D = false) := Lib.hid (Rf.winB_f fun h => by
                  have hx := h k hlt j hjl
                  have := hx.1; omega)
                go_wp2_with (go_at_call 61; refine (CA _).mono ?_; rintro e w2 ⟨rfl, b2⟩; have HB2 := Lib.hid (HBB.out.trans (b2.mono HBB.out.size)); clear b2)
                go_ret
                exact ⟨by rw [HF.out]; rfl, PB.out.trans (HB2.out.mono PB.out.size)⟩
              · by_cases d1 : 0 < D (k * 17 + j)
                · have HG : Hid (r.winAt D k j) := Lib.hid ⟨by omega, fun _ => ⟨ha, hb⟩⟩
                  go_wp2_with (go_at_call 61; refine (CA _).mono ?_; rintro e w2 ⟨rfl, b2⟩; have HB2 := Lib.hid (HBB.out.trans (b2.mono HBB.out.size)); clear b2)
                  refine ⟨⟨j + 1, by omega, by go_num, HB2.out, Lib.hid fun y hy => ?_⟩, by simp [intOf]; omega⟩
                  by_cases e : y = j
                  · subst e; exact HG.out
                  · exact hok2.out y (by omega)
                · have HG : Hid (r.winAt D k j) := Lib.hid ⟨by omega, fun _ => ⟨ha, hb⟩⟩
                  go_wp2_with (go_at_call 61; refine (CA _).mono ?_; rintro e w2 ⟨rfl, b2⟩; have HB2 := Lib.hid (HBB.out.trans (b2.mono HBB.out.size)); clear b2)
                  refine ⟨⟨j + 1, by omega, by go_num, HB2.out, Lib.hid fun y hy => ?_⟩, by simp [intOf]; omega⟩
                  by_cases e : y = j
                  · subst e; exact HG.out
                  · exact hok2.out y (by omega)
            · have hd : decide ((j : Int) < 2 * r.w + 1) = false := decide_eq_false hb
              by_cases d0 : D (k * 17 + j) < 0
              · have HF : Hid (r.winB D = false) := Lib.hid (Rf.winB_f fun h => by
                  have hx := h k hlt j hjl
                  have := hx.1; omega)
                go_wp2_with (go_at_call 61; refine (CA _).mono ?_; rintro e w2 ⟨rfl, b2⟩; have HB2 := Lib.hid (HBB.out.trans (b2.mono HBB.out.size)); clear b2)
                go_ret
                exact ⟨by rw [HF.out]; rfl, PB.out.trans (HB2.out.mono PB.out.size)⟩
              · by_cases d1 : 0 < D (k * 17 + j)
                · have HF : Hid (r.winB D = false) := Lib.hid (Rf.winB_f fun h => by
                    have hx := h k hlt j hjl
                    exact hb (hx.2 d1).2)
                  go_wp2_with (go_at_call 61; refine (CA _).mono ?_; rintro e w2 ⟨rfl, b2⟩; have HB2 := Lib.hid (HBB.out.trans (b2.mono HBB.out.size)); clear b2)
                  go_ret
                  exact ⟨by rw [HF.out]; rfl, PB.out.trans (HB2.out.mono PB.out.size)⟩
                · have HG : Hid (r.winAt D k j) := Lib.hid ⟨by omega, fun h => absurd h d1⟩
                  go_wp2_with (go_at_call 61; refine (CA _).mono ?_; rintro e w2 ⟨rfl, b2⟩; have HB2 := Lib.hid (HBB.out.trans (b2.mono HBB.out.size)); clear b2)
                  refine ⟨⟨j + 1, by omega, by go_num, HB2.out, Lib.hid fun y hy => ?_⟩, by simp [intOf]; omega⟩
                  by_cases e : y = j
                  · subst e; exact HG.out
                  · exact hok2.out y (by omega)
          · skip
            by_cases d0 : D (k * 17 + j) < 0
            · have HF : Hid (r.winB D = false) := Lib.hid (Rf.winB_f fun h => by
                have hx := h k hlt j hjl
                have := hx.1; omega)
              go_wp2_with (fail)
              go_ret
              exact ⟨by rw [HF.out]; rfl, PB.out.trans (HBB.out.mono PB.out.size)⟩
            · by_cases d1 : 0 < D (k * 17 + j)
              · have HF : Hid (r.winB D = false) := Lib.hid (Rf.winB_f fun h => by
                  have hx := h k hlt j hjl
                  exact ha (hx.2 d1).1)
                go_wp2_with (fail)
                go_ret
                exact ⟨by rw [HF.out]; rfl, PB.out.trans (HBB.out.mono PB.out.size)⟩
              · have HG : Hid (r.winAt D k j) := Lib.hid ⟨by omega, fun h => absurd h d1⟩
                go_wp2_with (fail)
                refine ⟨⟨j + 1, by omega, by go_num, HBB.out, Lib.hid fun y hy => ?_⟩, by simp [intOf]; omega⟩
                by_cases e : y = j
                · subst e; exact HG.out
                · exact hok2.out y (by omega)
        · obtain rfl : j = 17 := by omega
          have HB := Lib.hid hB
          clear hB
          go_wp2_with fail
          refine ⟨⟨k + 1, by omega, by go_num, HB.out, Lib.hid fun x hx y hy => ?_⟩, by simp [intOf]; omega⟩
          by_cases e : x = k
          · subst e; exact hok2.out y hy
          · exact hok.out x (by omega) y hy
    · obtain rfl : k = 8 := by omega
      have HF : Hid (r.winB D = true) := Lib.hid (Rf.winB_t fun x hx y hy => hok.out x hx y hy)
      have HB := Lib.hid hB
      clear hB
      go_wp2_with fail
      go_ret
      exact ⟨by rw [HF.out]; rfl, PB.out.trans (HB.out.mono PB.out.size)⟩

theorem colTo_bdB {D : Nat → Int} (hb : ∀ i, i < 136 → 0 ≤ D i ∧ D i ≤ 2147483647) {k n : Nat} (hk : k < 17) (hn : n ≤ 8) : 0 ≤ colTo D k n ∧ colTo D k n ≤ 17179869176 := by
  have := sumTo_bd (t := fun c => D (c * 17 + k)) (B := 2147483647) (n := n) fun i hi => hb _ (by omega)
  unfold colTo; omega
set_option maxRecDepth 100000 in
set_option maxHeartbeats 2000000 in
theorem cellSums_big (X : Array Value) (D : Nat → Int) (q : Nat) (w : World) (hX : IsK .i32 X 136 D) (hb : ∀ i, i < 136 → 0 ≤ D i ∧ D i ≤ 2147483647) (q17 : q ≤ 17) :
    Calls Tryd.prog 82 #[.agg X, .int .i64 q] w (GivesL w q fun k => colTo D k 8) := by
  have hd := hX.size
  have hd' : X.size = 8 * 17 := by omega
  have h1 := hX.ones
  have HB := Lib.hid hb; clear hb
  obtain ⟨i0, hi0, hz0, hz1, hz2⟩ := info_parts A_infoI
  go_enter Tryd.func82, Tryd.ntmps82
  go_wp2_with (at_make; refine wpList_make_full _ rfl _ _ 106 rfl w.heap.size 2 i0 (.int .i64 0) 1 Tryd.underlying106 hi0 hz0 hz1 .i64 .i64 q q q rfl rfl rfl rfl (by rw [hz2]; omega) (by unfold maxLen; omega) (by simp) ?_)
  intro w1 own1 grow1
  have rg := made_row own1
  have B1 : Below w.heap.size w w1 := ((Below.refl w.heap.size w).alloc (Nat.le_refl _) _).grown grow1 (by simp) (by intro x hx; cases hx)
  have rx : rowAt w1 w.heap.size = some X := (grown_row grow1 (by simp) (by intro x hx; cases hx)).trans (rowAt_alloc_at _ _ _ _ rfl)
  clear own1 grow1
  go_wp2_with fail
  go_loopw [12] (fun i W => ∃ k : Nat, k ≤ 8 ∧ i = .int .i64 k ∧ rowAt W (w.heap.size + 1) = some (mkI .i64 q fun cell => colTo D cell k) ∧ Below w.heap.size w W) (fun i _ => 8 - (intOf i).toNat)
  case atStart => exact ⟨0, by omega, rfl, rg, B1⟩
  case round =>
    obtain ⟨k, hk, rfl, r0, hB⟩ := hrel
    clear rg B1 rx
    by_cases hlt : k < 8
    · have hs8 : (X.extract (k * 17) (k * 17 + 17)).size = 17 := by simp; omega
      have ho8 : Ones (X.extract (k * 17) (k * 17 + 17)) := h1.extract _ _
      have hrow := hX.extract (k * 17) 17 (by omega)
      have k0 : (0 : Int) ≤ k := by omega
      have k1 : (k : Int) < 8 := by omega
      go_wp2_with fail
      refine gen_world fun W hW => ?_
      obtain ⟨b, hb⟩ : ∃ b, b = wr.heap.size := ⟨_, rfl⟩
      have rb : rowAt W b = some (X.extract (k * 17) (k * 17 + 17)) := by rw [hW]; exact rowAt_alloc_at _ _ _ _ hb
      have rg : rowAt W (w.heap.size + 1) = some (mkI .i64 q fun cell => colTo D cell k) := by rw [hW]; exact (rowAt_alloc_past _ _ _ (rowAt_lt r0)).trans r0
      have bW : Below w.heap.size w W := by rw [hW]; exact hB.alloc hB.size _
      have lb : b < W.heap.size := rowAt_lt rb
      have hbg : b ≠ w.heap.size + 1 := by have := rowAt_lt r0; omega
      rw [← hb]
      clear hW hb r0 hB
      have RB := Lib.hid rb
      go_loopw [17] (fun i W' => ∃ j : Nat, j ≤ q ∧ i = .int .i64 j ∧ rowAt W' (w.heap.size + 1) = some (mkI .i64 q fun cell => if cell < j then colTo D cell (k + 1) else colTo D cell k) ∧ Sole (w.heap.size + 1) W W') (fun i _ => q - (intOf i).toNat)
      case atStart => exact ⟨0, by omega, rfl, rg.trans (congrArg some (mkI_congr fun i _ => by rw [if_neg (by omega)])), Sole.refl _ _⟩
      case round =>
        clear rg rb
        obtain ⟨j, hj, rfl, sg, hS⟩ := hrel
        by_cases hjl : j < q
        · have sb := (hS.rows b lb hbg).trans RB.out
          have cb : wr.cell? ⟨b, j, none⟩ = some (.int .i32 (D (k * 17 + j))) := (cell_of_rowAt sb j).trans (hrow.get (by omega))
          have cg : wr.cell? ⟨w.heap.size + 1, j, none⟩ = some (.int .i64 (colTo D j k)) := by rw [cell_of_rowAt sg, (isK_mkI _ _ _).get hjl, if_neg (by omega)]
          have fg := frozen_of_rowAt sg
          have x0 := HB.out (k * 17 + j) (by omega)
          have x1 := colTo_bdB HB.out (k := j) (n := k) (by omega) (by omega)
          have HX := Lib.hid (colTo_succ D j k)
          have j0 : (0 : Int) ≤ j := by omega
          have j1 : (j : Int) < q := by omega
          have j2 : (j : Int) < 17 := by omega
          have SG := Lib.hid sg
          clear sg sb
          go_wp2_with fail
          go_region
          go_wp2_with fail
          refine ⟨⟨j + 1, by omega, by go_num, ?_, (hS.setCell _ _).drew⟩, by simp [intOf]; omega⟩
          rw [rowAt_drew, rowAt_setCell_at _ _ _ _ (by rw [SG.out]; rfl), SG.out, Option.getD_some, HX.out]
          refine congrArg some (((isK_mkI _ _ _).set j _).congr fun i hi => ?_).eq
          by_cases hij : i = j
          · subst hij; rw [upd_at, if_pos (by omega)]
          · rw [upd_ne _ _ hij]
            by_cases h : i < j
            · rw [if_pos h, if_pos (by omega)]
            · rw [if_neg h, if_neg (by omega)]
        · obtain rfl : j = q := by omega
          go_wp2_with fail
          refine ⟨⟨k + 1, by omega, by go_num, sg.trans (congrArg some (mkI_congr fun i hi => by rw [if_pos hi])), bW.trans (hS.below.mono (by omega))⟩, by simp [intOf]; omega⟩
    · obtain rfl : k = 8 := by omega
      go_wp2_with fail
      go_ret
      refine ⟨_, rfl, .inr ⟨_, q, _, rfl, by omega, r0, by simp, fun i hi => (isK_mkI _ _ _).get (by omega)⟩, hB⟩

end Go.Proofs.YtoibolmippfcgaaDoor
