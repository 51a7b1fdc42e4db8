/- Drips that are sound: their mathematics, and the model's look at them. -/
import Derived.Test.YtoibolmippfcgaaDoorDrp
import Derived.Test.YtoibolmippfcgaaDoorCellS
namespace Go.Proofs.YtoibolmippfcgaaDoor
open Go.RowKit

/-- A cell of a course. -/
def Rf.inside (r : Rf) (k cell : Nat) : Prop := (k : Int) < r.h ∧ (cell : Int) < 2 * r.w + 1
/-- The drip of a course and a cell is as it can be, those above being so. -/
def Rf.okAt (r : Rf) (t D : Nat → Int) (cell k : Nat) : Prop := 0 ≤ D (k * 17 + cell) ∧ D (k * 17 + cell) ≤ t cell - colTo D cell k ∧ (0 < D (k * 17 + cell) → r.inside k cell)
def Rf.Sound (r : Rf) (t D : Nat → Int) : Prop := ∀ cell, cell < 17 → ∀ k, k < 8 → r.okAt t D cell k
open Classical in
noncomputable def Rf.sB (r : Rf) (t D : Nat → Int) : Bool := decide (r.Sound t D)
theorem Rf.sB_t {r : Rf} {t D : Nat → Int} (h : r.Sound t D) : r.sB t D = true := by simp [Rf.sB, h]
theorem Rf.sB_f {r : Rf} {t D : Nat → Int} (h : ¬ r.Sound t D) : r.sB t D = false := by simp [Rf.sB, h]
theorem Rf.Sound_of {r : Rf} {t D : Nat → Int} (h : r.sB t D = true) : r.Sound t D := by simpa [Rf.sB] using h
/-- Of one cell the courses down to k: what drips is no more than the rain. -/
theorem Rf.col_bd {r : Rf} {t D : Nat → Int} {cell : Nat} : ∀ {k : Nat}, 0 ≤ t cell → (∀ j, j < k → r.okAt t D cell j) → 0 ≤ colTo D cell k ∧ colTo D cell k ≤ t cell
  | 0, h0, _ => ⟨by simp [colTo, sumTo], by simpa [colTo, sumTo] using h0⟩
  | k + 1, h0, h => by
    obtain ⟨a, _⟩ := Rf.col_bd (k := k) h0 fun j hj => h j (by omega)
    obtain ⟨x, y, _⟩ := h k (by omega)
    rw [← colTo_succ]
    omega
/-- The water that comes to a course and a cell, by what has been seen. -/
def Rf.seen (r : Rf) (t D : Nat → Int) (i : Nat) : Int := if ((i / 17 : Nat) : Int) < r.h ∧ ((i % 17 : Nat) : Int) < 2 * r.w + 1 then t (i % 17) - colTo D (i % 17) (i / 17) else 0
theorem Rf.seen_at {r : Rf} {t D : Nat → Int} {k cell : Nat} (hc : cell < 17) (h : r.inside k cell) : r.seen t D (k * 17 + cell) = t cell - colTo D cell k := by
  unfold Rf.seen
  rw [show (k * 17 + cell) / 17 = k from by omega, show (k * 17 + cell) % 17 = cell from by omega]
  exact if_pos h
theorem Rf.seen_out {r : Rf} {t D : Nat → Int} {k cell : Nat} (hc : cell < 17) (h : ¬ r.inside k cell) : r.seen t D (k * 17 + cell) = 0 := by
  unfold Rf.seen
  rw [show (k * 17 + cell) / 17 = k from by omega, show (k * 17 + cell) % 17 = cell from by omega]
  exact if_neg h
/-- What has been laid of it, cell by cell. -/
def Rf.laidTo (r : Rf) (t D : Nat → Int) (x k : Nat) (i : Nat) : Int := if i % 17 < x ∨ (i % 17 = x ∧ i / 17 < k) then r.seen t D i else 0
theorem Rf.laid_hit {r : Rf} {t D : Nat → Int} {x k : Nat} (hx : x < 17) : ∀ i, i < 136 → upd (r.laidTo t D x k) (k * 17 + x) (r.seen t D (k * 17 + x)) i = r.laidTo t D x (k + 1) i := fun i _ => by
  by_cases h : i = k * 17 + x
  · subst h
    rw [upd_at]
    unfold Rf.laidTo
    rw [if_pos (by omega)]
  · rw [upd_ne _ _ h]
    unfold Rf.laidTo
    by_cases h1 : i % 17 < x ∨ (i % 17 = x ∧ i / 17 < k)
    · rw [if_pos h1, if_pos (by omega)]
    · rw [if_neg h1, if_neg (by omega)]
theorem Rf.laid_miss {r : Rf} {t D : Nat → Int} {x k : Nat} (hx : x < 17) (h : r.seen t D (k * 17 + x) = 0) : ∀ i, i < 136 → r.laidTo t D x k i = r.laidTo t D x (k + 1) i := fun i _ => by
  unfold Rf.laidTo
  by_cases e : i = k * 17 + x
  · subst e
    rw [if_neg (by omega), if_pos (by omega), h]
  · by_cases h1 : i % 17 < x ∨ (i % 17 = x ∧ i / 17 < k)
    · rw [if_pos h1, if_pos (by omega)]
    · rw [if_neg h1, if_neg (by omega)]
theorem Rf.laid_next (r : Rf) (t D : Nat → Int) (x : Nat) : ∀ i, i < 136 → r.laidTo t D x 8 i = r.laidTo t D (x + 1) 0 i := fun i _ => by
  unfold Rf.laidTo
  by_cases h1 : i % 17 < x ∨ (i % 17 = x ∧ i / 17 < 8)
  · rw [if_pos h1, if_pos (by omega)]
  · rw [if_neg h1, if_neg (by omega)]
theorem Rf.laid_all (r : Rf) (t D : Nat → Int) : ∀ i, i < 136 → r.laidTo t D 17 0 i = r.seen t D i := fun i _ => by
  unfold Rf.laidTo
  rw [if_pos (by omega)]
theorem Rf.laid_none (r : Rf) (t D : Nat → Int) : ∀ i, i < 136 → (0 : Int) = r.laidTo t D 0 0 i := fun i _ => by
  unfold Rf.laidTo
  rw [if_neg (by omega)]

theorem l03Inside_t (n : Nat) (c : Array Value) (r : Rf) (k cell : Nat) (w : World) (hr : rowAt w n = some c) (hR : IsRoof c r) (ho : r.Ok) (h : r.inside k cell) (_hk : k < 8) (_hc : cell < 17) :
    Calls Tryd.prog 79 #[.pointer (some ⟨n, 0, none⟩), .int .i64 k, .int .i64 cell] w fun e w' => e = .returned (.bool true) ∧ w = w' := by
  have hcs := hR.size
  have k1 : w.cell? ⟨n, 1, none⟩ = some (.int .i8 r.h) := by rw [cell_of_rowAt hr, Array.getElem?_eq_getElem (by omega), hR.high (by omega)]
  have h1 := ho.2.2.1
  have h8 := ho.2.2.2.1
  obtain ⟨ha, hb⟩ := h
  go_enter Tryd.func79, Tryd.ntmps79
  go_wp2_with (go_at_call 65; refine (l01Cells_any n c r _ hr hR).mono ?_; rintro e w1 ⟨rfl, rfl⟩)
  go_ret
  exact ⟨rfl, rfl⟩
theorem l03Inside_f (n : Nat) (c : Array Value) (r : Rf) (k cell : Nat) (w : World) (hr : rowAt w n = some c) (hR : IsRoof c r) (ho : r.Ok) (h : ¬ r.inside k cell) (_hk : k < 8) (_hc : cell < 17) :
    Calls Tryd.prog 79 #[.pointer (some ⟨n, 0, none⟩), .int .i64 k, .int .i64 cell] w fun e w' => e = .returned (.bool false) ∧ w = w' := by
  have hcs := hR.size
  have k1 : w.cell? ⟨n, 1, none⟩ = some (.int .i8 r.h) := by rw [cell_of_rowAt hr, Array.getElem?_eq_getElem (by omega), hR.high (by omega)]
  have h1 := ho.2.2.1
  have h8 := ho.2.2.2.1
  by_cases ha : (k : Int) < r.h
  · have hb : ¬ (cell : Int) < 2 * r.w + 1 := fun hb => h ⟨ha, hb⟩
    have hd : decide ((cell : Int) < 2 * r.w + 1) = false := decide_eq_false hb
    clear h
    go_enter Tryd.func79, Tryd.ntmps79
    go_wp2_with (go_at_call 65; refine (l01Cells_any n c r _ hr hR).mono ?_; rintro e w1 ⟨rfl, rfl⟩)
    go_ret
    exact ⟨rfl, rfl⟩
  · clear h
    go_enter Tryd.func79, Tryd.ntmps79
    go_wp2_with fail
    go_ret
    exact ⟨rfl, rfl⟩

/-- The model's look at drips: whether they are sound, and what has been laid of the water by then. -/
def ComesEnd (w : World) (r : Rf) (t D : Nat → Int) (e : Ending) (w' : World) : Prop :=
  ∃ F : Nat → Int, e = .returned (.tuple #[.agg (mkI .i32 136 F), .bool (r.sB t D)]) ∧ (r.Sound t D → mkI .i32 136 F = mkI .i32 136 (r.seen t D)) ∧ Below w.heap.size w w'

theorem notSound {r : Rf} {t D : Nat → Int} {cell k : Nat} (hc : cell < 17) (hk : k < 8) (h : ¬ r.okAt t D cell k) : ¬ r.Sound t D := fun hs => h (hs cell hc k hk)

set_option maxRecDepth 100000 in
set_option maxHeartbeats 2000000 in
theorem l03Comes_any (n0 n1 n2 : Nat) (c d e0 : Array Value) (r : Rf) (t D : Nat → Int) (w : World) (hr : rowAt w n0 = some c) (hR : IsRoof c r) (hd : rowAt w n1 = some d) (hT : IsRain d t) (he : rowAt w n2 = some e0) (hD : IsD e0 D) (ho : r.Rains t) :
    Calls Tryd.prog 55 #[.pointer (some ⟨n0, 0, none⟩), .pointer (some ⟨n1, 0, none⟩), .pointer (some ⟨n2, 0, none⟩)] w (ComesEnd w r t D) := by
  have lt0 := rowAt_lt hr
  have lt1 := rowAt_lt hd
  have lt2 := rowAt_lt he
  have hz : Tryd.zeroCells47 = mkI .i32 136 (fun _ => 0) := by kernel_rfl
  have hzs : Tryd.zeroCells47.size = 136 := by rw [hz]; simp
  have hzo : Ones Tryd.zeroCells47 := by rw [hz]; exact (isK_mkI _ _ _).ones
  have HZ := Lib.hid hz
  clear hz
  go_enter Tryd.func55, Tryd.ntmps55
  go_wp2_with fail
  refine gen_world fun W0 hW => ?_
  have p0 : rowAt W0 (w.heap.size + 1) = some (mkI .i32 136 fun _ => 0) := by rw [hW, ← HZ.out]; exact rowAt_alloc_at _ _ _ _ (by simp)
  have p1 : rowAt W0 w.heap.size = some (mkI .i32 136 fun _ => 0) := by rw [hW, ← HZ.out]; exact (rowAt_alloc_past _ _ _ (by simp)).trans (rowAt_alloc_at _ _ _ _ rfl)
  have pB : Below w.heap.size w W0 := by rw [hW]; exact ((Below.refl _ _).alloc (Nat.le_refl _) _).alloc (by simp) _
  have P1 := Lib.hid p1
  have PB := Lib.hid pB
  clear hW pB hzs hzo p1
  go_loopw [9] (fun i W => ∃ x : Nat, x ≤ 17 ∧ i = .int .i64 x ∧ rowAt W (w.heap.size + 1) = some (mkI .i32 136 (r.laidTo t D x 0)) ∧ Sole (w.heap.size + 1) W0 W ∧ Hid (∀ y, y < x → ∀ k, k < 8 → r.okAt t D y k)) (fun i _ => 17 - (intOf i).toNat)
  case atStart => exact ⟨0, by omega, rfl, p0.trans (congrArg some (mkI_congr (r.laid_none t D))), Sole.refl _ _, Lib.hid (by omega)⟩
  case round =>
    clear p0
    obtain ⟨x, hx, rfl, hrow, hS, hok⟩ := hrel
    by_cases hlt : x < 17
    · have c1 : wr.cell? ⟨n1, x, none⟩ = some (.int .i16 (t x)) := by
        rw [cell_of_rowAt ((hS.rows n1 (by have := PB.out.size; omega) (by omega)).trans (brow PB.out hd))]
        exact hT.isK.get hlt
      have tb := ho.bd x hlt
      have x0 : (0 : Int) ≤ x := by omega
      have x1 : (x : Int) < 17 := by omega
      have HS := Lib.hid hS
      have HR0 := Lib.hid hrow
      clear hS hrow
      go_wp2_with fail
      go_loopw [10, 11] (fun wa i W => ∃ k : Nat, k ≤ 8 ∧ i = .int .i64 k ∧ wa = .int .i64 (t x - colTo D x k) ∧ rowAt W (w.heap.size + 1) = some (mkI .i32 136 (r.laidTo t D x k)) ∧ Sole (w.heap.size + 1) W0 W ∧ Hid (∀ j, j < k → r.okAt t D x j)) (fun _ i _ => 8 - (intOf i).toNat)
      case atStart => exact ⟨0, by omega, rfl, by simp [colTo, sumTo], HR0.out, HS.out, Lib.hid (by omega)⟩
      case round =>
        clear c1 HS HR0
        obtain ⟨k, hk, rfl, rfl, hrow, hS, hok2⟩ := hrel
        by_cases hkl : k < 8
        · have c2 : wr.cell? ⟨n2, k * 17 + x, none⟩ = some (.int .i32 (D (k * 17 + x))) := by
            rw [cell_of_rowAt ((hS.rows n2 (by have := PB.out.size; omega) (by omega)).trans (brow PB.out he))]
            exact hD.isK.get (by omega)
          have R0 := (hS.rows n0 (by have := PB.out.size; omega) (by omega)).trans (brow PB.out hr)
          have S1 := (hS.rows w.heap.size (rowAt_lt P1.out) (by omega)).trans P1.out
          have cb := Rf.col_bd tb.1 hok2.out
          have dlo := hD.lo (k * 17 + x) (by omega)
          have dhi := hD.hi (k * 17 + x) (by omega)
          have k0 : (0 : Int) ≤ k := by omega
          have k1 : (k : Int) < 8 := by omega
          have hXs : (mkI .i32 136 (r.laidTo t D x k)).size = 136 := by simp
          have hXo := (isK_mkI .i32 136 (r.laidTo t D x k)).ones
          have hmid := (isK_mkI .i32 136 (r.laidTo t D x k)).get (i := k * 17 + x) (by omega)
          have kc : wr.cell? ⟨w.heap.size + 1, k * 17 + x, none⟩ = some (.int .i32 (r.laidTo t D x k (k * 17 + x))) := by rw [cell_of_rowAt hrow]; exact hmid
          have kf := frozen_of_rowAt hrow
          obtain ⟨X, hX⟩ : ∃ X, X = mkI .i32 136 (r.laidTo t D x k) := ⟨_, rfl⟩
          rw [← hX] at hXs hXo hrow
          have HX := Lib.hid hX.symm
          have HS := Lib.hid hS
          have HRW := Lib.hid hrow
          have hne : w.heap.size ≠ w.heap.size + 1 := by omega
          have hne' : w.heap.size + 1 ≠ w.heap.size := by omega
          clear hX hS hmid
          by_cases d0 : D (k * 17 + x) < 0
          · have HN : Hid (¬ r.okAt t D x k) := Lib.hid fun h => by have := h.1; omega
            have HNS : Hid (r.sB t D = false) := Lib.hid (Rf.sB_f (notSound hlt hkl HN.out))
            go_wp2_with (fail)
            refine bodyPost_ret (v := .tuple #[.agg X, .bool false]) (results_row2 (m := 136) rfl _ _ w.heap.size X _ rfl rfl (rowAt_setRow_at _ _ _ (by rw [S1]; rfl)) Tryd.underlying47 rfl (by kernel_rfl) hXs) rfl ⟨r.laidTo t D x k, by rw [HX.out, HNS.out], fun hs => absurd hs (notSound hlt hkl HN.out), below_setRow (PB.out.trans (HS.out.below.mono (by omega))) (Nat.le_refl _) _⟩
          · by_cases d1 : t x - colTo D x k < D (k * 17 + x)
            · have HN : Hid (¬ r.okAt t D x k) := Lib.hid fun h => by have := h.2.1; omega
              have HNS : Hid (r.sB t D = false) := Lib.hid (Rf.sB_f (notSound hlt hkl HN.out))
              go_wp2_with (fail)
              refine bodyPost_ret (v := .tuple #[.agg X, .bool false]) (results_row2 (m := 136) rfl _ _ w.heap.size X _ rfl rfl (rowAt_setRow_at _ _ _ (by rw [S1]; rfl)) Tryd.underlying47 rfl (by kernel_rfl) hXs) rfl ⟨r.laidTo t D x k, by rw [HX.out, HNS.out], fun hs => absurd hs (notSound hlt hkl HN.out), below_setRow (PB.out.trans (HS.out.below.mono (by omega))) (Nat.le_refl _) _⟩
            · by_cases hin : r.inside k x
              · have HI := Lib.hid hin
                clear hin
                by_cases d2 : 0 < D (k * 17 + x)
                · skip
                  have HOK : Hid (r.okAt t D x k) := Lib.hid ⟨by omega, by omega, fun _ => HI.out⟩
                  go_wp2_with (go_at_call 79; refine (l03Inside_t n0 c r k x _ R0 hR ho.1 HI.out hkl hlt).mono ?_; rintro e w1 ⟨rfl, rfl⟩)
                  refine ⟨⟨k + 1, by omega, by go_num, by rw [Int.sub_sub, colTo_succ], ?_, HS.out.setCell _ _, Lib.hid fun j hj => ?_⟩, by simp [intOf]; omega⟩
                  · rw [rowAt_setCell_at _ _ _ _ (by rw [HRW.out]; rfl), HRW.out, Option.getD_some, ← HX.out]
                    have hse := Rf.seen_at (D := D) (t := t) hlt HI.out
                    rw [← hse]
                    exact congrArg some (((isK_mkI _ _ _).set _ _).congr (r.laid_hit hlt)).eq
                  · by_cases e : j = k
                    · subst e; exact HOK.out
                    · exact hok2.out j (by omega)
                · skip
                  have HOK : Hid (r.okAt t D x k) := Lib.hid ⟨by omega, by omega, fun _ => HI.out⟩
                  go_wp2_with (go_at_call 79; refine (l03Inside_t n0 c r k x _ R0 hR ho.1 HI.out hkl hlt).mono ?_; rintro e w1 ⟨rfl, rfl⟩)
                  refine ⟨⟨k + 1, by omega, by go_num, by rw [Int.sub_sub, colTo_succ], ?_, HS.out.setCell _ _, Lib.hid fun j hj => ?_⟩, by simp [intOf]; omega⟩
                  · rw [rowAt_setCell_at _ _ _ _ (by rw [HRW.out]; rfl), HRW.out, Option.getD_some, ← HX.out]
                    have hse := Rf.seen_at (D := D) (t := t) hlt HI.out
                    rw [← hse]
                    exact congrArg some (((isK_mkI _ _ _).set _ _).congr (r.laid_hit hlt)).eq
                  · by_cases e : j = k
                    · subst e; exact HOK.out
                    · exact hok2.out j (by omega)
              · have HI := Lib.hid hin
                by_cases d2 : 0 < D (k * 17 + x)
                · have HN : Hid (¬ r.okAt t D x k) := Lib.hid fun h => HI.out (h.2.2 d2)
                  clear hin
                  have HNS : Hid (r.sB t D = false) := Lib.hid (Rf.sB_f (notSound hlt hkl HN.out))
                  go_wp2_with (go_at_call 79; refine (l03Inside_f n0 c r k x _ R0 hR ho.1 HI.out hkl hlt).mono ?_; rintro e w1 ⟨rfl, rfl⟩)
                  refine bodyPost_ret (v := .tuple #[.agg X, .bool false]) (results_row2 (m := 136) rfl _ _ w.heap.size X _ rfl rfl (rowAt_setRow_at _ _ _ (by rw [S1]; rfl)) Tryd.underlying47 rfl (by kernel_rfl) hXs) rfl ⟨r.laidTo t D x k, by rw [HX.out, HNS.out], fun hs => absurd hs (notSound hlt hkl HN.out), below_setRow (PB.out.trans (HS.out.below.mono (by omega))) (Nat.le_refl _) _⟩
                · clear hin
                  have HOK : Hid (r.okAt t D x k) := Lib.hid ⟨by omega, by omega, fun h => absurd h (by omega)⟩
                  go_wp2_with (go_at_call 79; refine (l03Inside_f n0 c r k x _ R0 hR ho.1 HI.out hkl hlt).mono ?_; rintro e w1 ⟨rfl, rfl⟩)
                  refine ⟨⟨k + 1, by omega, by go_num, by rw [Int.sub_sub, colTo_succ], ?_, HS.out, Lib.hid fun j hj => ?_⟩, by simp [intOf]; omega⟩
                  · rw [HRW.out, ← HX.out]
                    exact congrArg some (mkI_congr (r.laid_miss hlt (Rf.seen_out hlt HI.out)))
                  · by_cases e : j = k
                    · subst e; exact HOK.out
                    · exact hok2.out j (by omega)
        · obtain rfl : k = 8 := by omega
          go_wp2_with fail
          refine ⟨⟨x + 1, by omega, by go_num, hrow.trans (congrArg some (mkI_congr (r.laid_next t D x))), hS, Lib.hid fun y hy k hk => ?_⟩, by simp [intOf]; omega⟩
          by_cases e : y = x
          · subst e; exact hok2.out k hk
          · exact hok.out y (by omega) k hk
    · obtain rfl : x = 17 := by omega
      have hs : r.Sound t D := fun y hy k hk => hok.out y hy k hk
      have HSB : Hid (r.sB t D = true) := Lib.hid (Rf.sB_t hs)
      have S1 := (hS.rows w.heap.size (rowAt_lt P1.out) (by omega)).trans P1.out
      have hXs : (mkI .i32 136 (r.laidTo t D 17 0)).size = 136 := by simp
      have hXo := (isK_mkI .i32 136 (r.laidTo t D 17 0)).ones
      obtain ⟨X, hX⟩ : ∃ X, X = mkI .i32 136 (r.laidTo t D 17 0) := ⟨_, rfl⟩
      rw [← hX] at hXs hXo hrow
      have HX := Lib.hid hX.symm
      have HS := Lib.hid hS
      have hne : w.heap.size ≠ w.heap.size + 1 := by omega
      have hne' : w.heap.size + 1 ≠ w.heap.size := by omega
      clear hX hS hok hs
      go_wp2_with fail
      refine bodyPost_ret (v := .tuple #[.agg X, .bool true]) (results_row2 (m := 136) rfl _ _ w.heap.size X _ rfl rfl (rowAt_setRow_at _ _ _ (by rw [S1]; rfl)) Tryd.underlying47 rfl (by kernel_rfl) hXs) rfl ⟨r.laidTo t D 17 0, by rw [HX.out, HSB.out], fun _ => mkI_congr (r.laid_all t D), below_setRow (PB.out.trans (HS.out.below.mono (by omega))) (Nat.le_refl _) _⟩
end Go.Proofs.YtoibolmippfcgaaDoor
