/- The program's spill, and the deferred closure that calls it. -/
import Derived.Test.YtfdoehakpeddnaaMinS
import Derived.Defers
namespace Go.Proofs.Ytfdoehakpeddnaa
open Go.RowKit

theorem oT_all {dp : Int} {t : Nat → Int} {N : Nat} (hd : 0 ≤ dp) (hN : N ≤ 17) (hz : ∀ i, N ≤ i → t i = 0) : oT dp t 17 = oT dp t N := by
  funext i
  unfold oT
  by_cases h : i < N
  · rw [if_pos h, if_pos (by omega)]
  · rw [if_neg h, hz i (by omega)]
    split
    · rw [if_neg (by omega)]
    · rfl
theorem oS_from {dp : Int} {t : Nat → Int} {N : Nat} (hd : 0 ≤ dp) (hz : ∀ i, N ≤ i → t i = 0) : ∀ k : Nat, oS dp t (N + k) = oS dp t N
  | 0 => rfl
  | k + 1 => by
    show oS dp t (N + k) + (if dp < t (N + k) then t (N + k) - dp else 0) = _
    rw [oS_from hd hz k, hz (N + k) (by omega), if_neg (by omega), Int.add_zero]
theorem oS_all {dp : Int} {t : Nat → Int} {N : Nat} (hd : 0 ≤ dp) (hN : N ≤ 17) (hz : ∀ i, N ≤ i → t i = 0) : oS dp t 17 = oS dp t N := by
  obtain ⟨k, hk⟩ : ∃ k, 17 = N + k := ⟨17 - N, by omega⟩
  rw [hk]; exact oS_from hd hz k
theorem Gt.nT_zero {g : Gt} {t : Nat → Int} : ∀ k : Nat, (k : Int) ≤ g.n → ∀ i : Nat, g.n ≤ i → g.nT t k i = 0
  | 0, _, _, _ => rfl
  | k + 1, h, i, hi => by
    have a := Gt.nT_zero (g := g) (t := t) k (by omega) i hi
    have b := Gt.nx_lt (g := g) (j := k) (by omega)
    unfold Gt.nT upd
    rw [if_neg (by omega)]
    exact a

set_option maxRecDepth 100000 in
set_option maxHeartbeats 4000000 in
theorem spill_any (kn : Nat) (d : Array Value) (dp : Int) (t : Nat → Int) (w : World) (hR : rowAt w kn = some d) (hD : IsK .i32 d 17 t) (hd0 : 0 ≤ dp) (hd1 : dp ≤ 1000) (ht : ∀ i, i < 17 → 0 ≤ t i ∧ t i ≤ 34000) :
    Calls Try.prog 93 #[.pointer (some ⟨kn, 0, none⟩), .int .i32 dp] w fun e w' => e = .returned (.int .i64 (oS dp t 17)) ∧ (∃ cur, rowAt w' kn = some cur ∧ IsK .i32 cur 17 (oT dp t 17)) ∧ (∀ gb, gb ≠ kn → rowAt w' gb = rowAt w gb) ∧ (∀ B, B ≤ kn → Below B w w') ∧ w'.heap.size = w.heap.size := by
  have HT := Lib.hid ht
  clear ht
  go_enter Try.func93, Try.ntmps93
  go_wp2_with fail
  go_loopw [5, 6, 7, 9] (fun s _ _ i W => ∃ (y : Nat) (nx : Array Value), y ≤ 17 ∧ i = .int .i64 y ∧ s = .int .i64 (oS dp t y) ∧ rowAt W kn = some nx ∧ Hid (IsK .i32 nx 17 (oT dp t y)) ∧ Hid (∀ gb, gb ≠ kn → rowAt W gb = rowAt w gb) ∧ Hid (∀ B, B ≤ kn → Below B w W) ∧ Hid (W.heap.size = w.heap.size)) (fun _ _ _ i _ => 17 - (intOf i).toNat)
  case atStart => exact ⟨0, d, by omega, rfl, rfl, hR, Lib.hid hD, Lib.hid (fun _ _ => rfl), Lib.hid (fun _ _ => Below.refl _ _), Lib.hid rfl⟩
  case round =>
    clear hR hD
    obtain ⟨y, nx, hy, rfl, rfl, hr, hX, hO, hB, hsz⟩ := hrel
    by_cases hlt : y < 17
    · have tb := HT.out y hlt
      have tb0 := tb.1
      have tb1 := tb.2
      have sb := oS_bd (dp := dp) (t := t) hd0 HT.out y (by omega)
      have sb0 := sb.1
      have sb1 : oS dp t y ≤ 578000 := by
        have : (y : Int) * 34000 ≤ 578000 := by omega
        omega
      have e0 : oT dp t y y = t y := if_neg (by omega)
      have d0 : wr.cell? ⟨kn, y, none⟩ = some (.int .i32 (t y)) := by rw [cell_of_rowAt hr, hX.out.get (by omega), e0]
      have y0 : 0 ≤ (y : Int) := by omega
      have y17 : (y : Int) < 17 := by omega
      have fr := frozen_of_rowAt hr
      have ln := rowAt_lt hr
      have HRR := Lib.hid hr
      by_cases hdp : dp < t y
      · have HXX := Lib.hid (show IsK .i32 (nx.setIfInBounds y (.int .i32 dp)) 17 (oT dp t (y + 1)) by rw [oT_hi hdp]; exact hX.out.set _ _)
        have HS := Lib.hid (show oS dp t (y + 1) = oS dp t y + (t y - dp) by rw [oS_succ, if_pos hdp])
        clear e0 sb tb hr hX
        generalize oS dp t y = sv at *
        generalize t y = tv at *
        go_wp2_with fail
        go_quiet (fail)
        go_wp2_with fail
        have R9 := rowAt_setCell_at (wr.drewN nq) kn y (.int .i32 dp) (by rw [show rowAt (wr.drewN nq) kn = some nx from HRR.out]; rfl)
        rw [show rowAt (wr.drewN nq) kn = some nx from HRR.out, Option.getD_some] at R9
        refine ⟨⟨y + 1, _, by omega, by go_num, by rw [HS.out], R9, HXX, Lib.hid fun gb h1 => (rowAt_setCell_ne _ _ _ _ _ h1).trans (hO.out gb h1), Lib.hid fun B hb => (below_drewN (hB.out B hb) _).setCell (by simpa using hb) _, Lib.hid (by simpa using hsz.out)⟩, by simp [intOf]; omega⟩
      · have HXX := Lib.hid (show IsK .i32 (nx.setIfInBounds y (.int .i32 (t y))) 17 (oT dp t (y + 1)) by
          rw [oT_lo hdp]
          have := hX.out.set y (t y)
          have hu : upd (oT dp t y) y (t y) = oT dp t y := by
            funext i
            unfold upd
            by_cases e : i = y
            · rw [if_pos e, e, e0]
            · rw [if_neg e]
          rwa [hu] at this)
        have HS := Lib.hid (show oS dp t (y + 1) = oS dp t y by rw [oS_succ, if_neg hdp, Int.add_zero])
        clear e0 sb tb hr hX
        generalize oS dp t y = sv at *
        generalize t y = tv at *
        go_wp2_with fail
        go_quiet (fail)
        go_wp2_with fail
        have R9 := rowAt_setCell_at (wr.drewN nq) kn y (.int .i32 tv) (by rw [show rowAt (wr.drewN nq) kn = some nx from HRR.out]; rfl)
        rw [show rowAt (wr.drewN nq) kn = some nx from HRR.out, Option.getD_some] at R9
        refine ⟨⟨y + 1, _, by omega, by go_num, by rw [HS.out], R9, HXX, Lib.hid fun gb h1 => (rowAt_setCell_ne _ _ _ _ _ h1).trans (hO.out gb h1), Lib.hid fun B hb => (below_drewN (hB.out B hb) _).setCell (by simpa using hb) _, Lib.hid (by simpa using hsz.out)⟩, by simp [intOf]; omega⟩
    · obtain rfl : y = 17 := by omega
      go_wp2_with fail
      go_ret
      exact ⟨rfl, ⟨nx, hr, hX.out⟩, hO.out, hB.out, hsz.out⟩

set_option maxRecDepth 100000 in
set_option maxHeartbeats 4000000 in
theorem after_deferred (kn ks ko : Nat) (d : Array Value) (dp : Int) (vo vf vr : Value) (z : Int) (t : Nat → Int) (w : World) (hR : rowAt w kn = some d) (hD : IsK .i32 d 17 t) (hd0 : 0 ≤ dp) (hd1 : dp ≤ 1000) (ht : ∀ i, i < 17 → 0 ≤ t i ∧ t i ≤ 34000)
    (hS : rowAt w ks = some #[.int .i32 dp, vo, vf, vr]) (hZ : rowAt w ko = some #[.int .i64 z]) (h1 : kn ≠ ko) (u : FrameMode) :
    CallsD Try.prog 92 #[.pointer (some ⟨kn, 0, none⟩), .pointer (some ⟨ks, 0, none⟩), .pointer (some ⟨ko, 0, none⟩)] u w fun e u' w' => u' = u ∧ (e = .returned (.tuple #[]) ∧ (∃ cur, rowAt w' kn = some cur ∧ IsK .i32 cur 17 (oT dp t 17)) ∧ rowAt w' ko = some #[.int .i64 (oS dp t 17)] ∧ (∀ B, B ≤ kn → B ≤ ko → Below B w w')) := by
  have CS := spill_any kn d dp t w hR hD hd0 hd1 ht
  have l1 := rowAt_lt hS
  have l2 := rowAt_lt hZ
  have l3 := rowAt_lt hR
  have c0 : w.cell? ⟨ks, 0, none⟩ = some (.int .i32 dp) := by rw [cell_of_rowAt hS]; rfl
  generalize oS dp t 17 = s17 at *
  go_enter_d Try.func92, Try.ntmps92
  go_wp2_with fail
  refine CS.mono ?_
  rintro e w1 ⟨rfl, hC, hO, hB, hz⟩
  have r1 := (hO ko (Ne.symm h1)).trans hZ
  have HC := Lib.hid hC
  have HB := Lib.hid hB
  have l4 := rowAt_lt r1
  have f4 := frozen_of_rowAt r1
  have c4 : w1.cell? ⟨ko, 0, none⟩ = some (.int .i64 z) := by rw [cell_of_rowAt r1]; rfl
  have HR := Lib.hid r1
  clear CS hB hC
  go_wp2_with fail
  go_end0
  have R9 := rowAt_setCell_at w1 ko 0 (.int .i64 s17) (by rw [HR.out]; rfl)
  rw [HR.out] at R9
  refine ⟨rfl, ?_, R9, ?_⟩
  · obtain ⟨cur, a, b⟩ := HC.out
    exact ⟨cur, (rowAt_setCell_ne _ _ _ _ _ h1).trans a, b⟩
  · exact fun B b1 b2 => (HB.out B b1).setCell (by simpa using b2) _
end Go.Proofs.Ytfdoehakpeddnaa
