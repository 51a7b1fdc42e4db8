/- To where a cell flows: the model. -/
import Derived.Test.YtfdoehakpeddnaaFlu
namespace Go.Proofs.Ytfdoehakpeddnaa
open Go.RowKit

set_option maxRecDepth 100000 in
set_option maxHeartbeats 2000000 in
theorem l06Pipe_any (k b : Nat) (c : Array Value) (g : Gt) (v : Value) (j : Nat) (w : World) (hA : GutAt w k c g v b) (hm : g.m ≤ 2000000) :
    Calls Try.prog 79 #[.pointer (some ⟨k, 0, none⟩), .int .i64 j] w fun e w' => e = .returned (.bool (g.pipe j)) ∧ Below w.heap.size w w' := by
  have HA := Lib.hid hA
  obtain ⟨a, cap, rfl⟩ := hA.pipes.shape
  clear hA
  go_enter Try.func79, Try.ntmps79
  go_wp2_with fail
  go_loopw [5] (fun i W => ∃ q : Nat, q ≤ g.m ∧ i = .int .i64 q ∧ Hid (∀ i, i < q → g.p (i * 2) ≠ j) ∧ Below w.heap.size w W) (fun i _ => g.m - (intOf i).toNat)
  case atStart => exact ⟨0, by omega, rfl, Lib.hid (by omega), Below.refl _ _⟩
  case round =>
    obtain ⟨q, hq, rfl, hF, hB⟩ := hrel
    have HB := Lib.hid hB
    have rW := brow hB HA.out.row
    have z20 : wr.cell? ⟨k, 20, none⟩ = some (.slice a g.m cap) := by rw [cell_of_rowAt rW]; exact HA.out.is.getP
    have hlw := rowAt_lt rW
    by_cases hlt : q < g.m
    · obtain ⟨g', rfl, hg', hcs⟩ := (HA.out.pipes.below hB (Nat.le_refl _)).pipe hlt
      have c0 := (hcs q hlt).1
      obtain ⟨⟨b0, b1⟩, b2, b3⟩ := HA.out.is.p0 q hlt
      have j0 : 0 ≤ (q : Int) := by omega
      have j1 : (q : Int) < g.m := by omega
      clear hcs hB rW
      by_cases he : g.p (q * 2) = j
      · have hb : (g.p (q * 2) == (j : Int)) = true := by simp [he]
        have HX := Lib.hid (Gt.pipe_t (g := g) (j := j) ⟨q, hlt, he⟩)
        clear he
        go_wp2_with fail
        go_ret
        exact ⟨by rw [HX.out]; rfl, HB.out⟩
      · have hb : (g.p (q * 2) == (j : Int)) = false := by simp [he]
        have HE := Lib.hid he
        clear he
        go_wp2_with fail
        refine ⟨⟨q + 1, by omega, by go_num, Lib.hid (fun i hi => ?_), HB.out⟩, by simp [intOf]; omega⟩
        by_cases hiq : i = q
        · subst hiq; exact HE.out
        · exact hF.out i (by omega)
    · obtain rfl : q = g.m := by omega
      have HX := Lib.hid (Gt.pipe_f (g := g) (j := j) hF.out)
      go_wp2_with fail
      go_ret
      exact ⟨by rw [HX.out]; rfl, HB.out⟩

set_option maxRecDepth 100000 in
set_option maxHeartbeats 4000000 in
theorem l06To_any (k b : Nat) (c : Array Value) (g : Gt) (v : Value) (j : Nat) (w : World) (hA : GutAt w k c g v b) (hj : (j : Int) < g.n) (hn : g.n ≤ 17) (hm : g.m ≤ 2000000) :
    Calls Try.prog 85 #[.pointer (some ⟨k, 0, none⟩), .int .i64 j] w fun e w' => e = .returned (.int .i64 (g.to j)) ∧ Below w.heap.size w w' := by
  have CL := fun W H => l06Leaf_any k b c g v j W H (by omega)
  have CP := fun W H => l06Pipe_any k b c g v j W H hm
  have HA := Lib.hid hA
  cases hl : g.leaf j with
  | true =>
    rw [hl] at CL
    have HR := Lib.hid (show g.to j = -1 from if_pos (.inr hl))
    clear hl hA
    go_enter Try.func85, Try.ntmps85
    go_wp2_with fail
    refine (CL _ HA.out).mono ?_
    rintro e w1 ⟨rfl, b1⟩
    go_wp2_with fail
    go_ret
    exact ⟨by rw [HR.out]; rfl, b1⟩
  | false =>
  rw [hl] at CL
  cases hp : g.pipe j with
  | true =>
    rw [hp] at CP
    have HR := Lib.hid (show g.to j = -1 from if_pos (.inl hp))
    clear hl hp hA
    go_enter Try.func85, Try.ntmps85
    go_wp2_with fail
    refine (CL _ HA.out).mono ?_
    rintro e w1 ⟨rfl, b1⟩
    have A1 := Lib.hid (HA.out.below b1 (Nat.le_refl _))
    go_wp2_with fail
    refine (CP _ A1.out).mono ?_
    rintro e w2 ⟨rfl, b2⟩
    have B2 := bnext b1 b2 b1.size
    clear b1 b2
    go_wp2_with fail
    go_ret
    exact ⟨by rw [HR.out]; rfl, B2⟩
  | false =>
  rw [hp] at CP
  have HR := Lib.hid (show g.to j = g.toK j 2 from if_neg (by simp [hl, hp]))
  have K2 := Lib.hid (show g.toK j 2 = if (j : Int) + 1 < g.n ∧ g.h (j + 1) < g.lowK j 1 then (j : Int) + 1 else g.toK j 1 from rfl)
  have K1 := Lib.hid (show g.toK j 1 = if 0 < j ∧ g.h (j - 1) < g.h j then (j : Int) - 1 else -1 from rfl)
  have L1 := Lib.hid (show g.lowK j 1 = if 0 < j ∧ g.h (j - 1) < g.h j then g.h (j - 1) else g.h j from rfl)
  have n0 := hA.is.n0
  have j0 : 0 ≤ (j : Int) := by omega
  have j17 : (j : Int) < 17 := by omega
  have jn : (j : Int).toNat = j := by omega
  obtain ⟨hb0, hb1⟩ : -128 ≤ g.h j ∧ g.h j ≤ 127 := ⟨hA.is.h0 j (by omega), hA.is.h1 j (by omega)⟩
  have HB := Lib.hid (fun i (hi : i < 17) => (⟨hA.is.h0 i hi, hA.is.h1 i hi⟩ : -128 ≤ g.h i ∧ g.h i ≤ 127))
  have HC := Lib.hid (fun (W : World) (hW : rowAt W k = some c) i (hi : i < 17) => show W.cell? ⟨k, 2 + i, none⟩ = some (.int .i8 (g.h i)) from by rw [cell_of_rowAt hW]; exact HA.out.is.getH hi)
  clear hl hp hA
  go_enter Try.func85, Try.ntmps85
  go_wp2_with fail
  refine (CL _ HA.out).mono ?_
  rintro e w1 ⟨rfl, b1⟩
  have A1 := Lib.hid (HA.out.below b1 (Nat.le_refl _))
  go_wp2_with fail
  refine (CP _ A1.out).mono ?_
  rintro e w2 ⟨rfl, b2⟩
  have r2 := brow b2 A1.out.row
  have B2 := bnext b1 b2 b1.size
  have lt := rowAt_lt r2
  have z0 : w2.cell? ⟨k, 0, none⟩ = some (.int .i8 g.n) := by rw [cell_of_rowAt r2]; exact HA.out.is.get0
  have zj := HC.out _ r2 j (by omega)
  have R2 := Lib.hid r2
  clear b1 b2 CL CP A1 r2
  by_cases hp : 0 < j
  · have hpd : decide (0 < j) = true := by simp [hp]
    have i0 : 0 ≤ (j : Int) - 1 := by omega
    have i1 : (j : Int) - 1 < 17 := by omega
    have i2 : ((j : Int) - 1).toNat = j - 1 := by omega
    have zl := HC.out _ R2.out (j - 1) (by omega)
    obtain ⟨hl0, hl1⟩ := HB.out (j - 1) (by omega)
    by_cases hx : g.h (j - 1) < g.h j
    · have hxd : decide (g.h (j - 1) < g.h j) = true := by simp [hx]
      have E1 := Lib.hid (K1.out.trans (if_pos ⟨hp, hx⟩))
      have F1 := Lib.hid (L1.out.trans (if_pos ⟨hp, hx⟩))
      clear hx
      by_cases hr : (j : Int) + 1 < g.n
      · have hrd : decide ((j : Int) + 1 < g.n) = true := by simp [hr]
        have m0 : 0 ≤ (j : Int) + 1 := by omega
        have m1 : (j : Int) + 1 < 17 := by omega
        have m2 : ((j : Int) + 1).toNat = j + 1 := by omega
        have zr := HC.out _ R2.out (j + 1) (by omega)
        obtain ⟨hr0, hr1⟩ := HB.out (j + 1) (by omega)
        by_cases hy : g.h (j + 1) < g.h (j - 1)
        · have hyd : decide (g.h (j + 1) < g.h (j - 1)) = true := by simp [hy]
          have E2 := Lib.hid (K2.out.trans (if_pos ⟨hr, by rw [F1.out]; exact hy⟩))
          clear hy
          go_wp2_with fail
          go_ret
          exact ⟨by rw [HR.out, E2.out]; rfl, B2⟩
        · have hyd : decide (g.h (j + 1) < g.h (j - 1)) = false := by simp; omega
          have E2 := Lib.hid (K2.out.trans (if_neg (fun a => hy (by have := a.2; rw [F1.out] at this; exact this))))
          clear hy
          go_wp2_with fail
          go_ret
          exact ⟨by rw [HR.out, E2.out, E1.out]; rfl, B2⟩
      · have hrd : decide ((j : Int) + 1 < g.n) = false := by simp; omega
        have E2 := Lib.hid (K2.out.trans (if_neg (fun a => hr a.1)))
        go_wp2_with fail
        go_ret
        exact ⟨by rw [HR.out, E2.out, E1.out]; rfl, B2⟩
    · have hxd : decide (g.h (j - 1) < g.h j) = false := by simp; omega
      have E1 := Lib.hid (K1.out.trans (if_neg (fun a => hx a.2)))
      have F1 := Lib.hid (L1.out.trans (if_neg (fun a => hx a.2)))
      clear hx
      by_cases hr : (j : Int) + 1 < g.n
      · have hrd : decide ((j : Int) + 1 < g.n) = true := by simp [hr]
        have m0 : 0 ≤ (j : Int) + 1 := by omega
        have m1 : (j : Int) + 1 < 17 := by omega
        have m2 : ((j : Int) + 1).toNat = j + 1 := by omega
        have zr := HC.out _ R2.out (j + 1) (by omega)
        obtain ⟨hr0, hr1⟩ := HB.out (j + 1) (by omega)
        by_cases hy : g.h (j + 1) < g.h j
        · have hyd : decide (g.h (j + 1) < g.h j) = true := by simp [hy]
          have E2 := Lib.hid (K2.out.trans (if_pos ⟨hr, by rw [F1.out]; exact hy⟩))
          clear hy
          go_wp2_with fail
          go_ret
          exact ⟨by rw [HR.out, E2.out]; rfl, B2⟩
        · have hyd : decide (g.h (j + 1) < g.h j) = false := by simp; omega
          have E2 := Lib.hid (K2.out.trans (if_neg (fun a => hy (by have := a.2; rw [F1.out] at this; exact this))))
          clear hy
          go_wp2_with fail
          go_ret
          exact ⟨by rw [HR.out, E2.out, E1.out]; rfl, B2⟩
      · have hrd : decide ((j : Int) + 1 < g.n) = false := by simp; omega
        have E2 := Lib.hid (K2.out.trans (if_neg (fun a => hr a.1)))
        go_wp2_with fail
        go_ret
        exact ⟨by rw [HR.out, E2.out, E1.out]; rfl, B2⟩
  · have hpd : decide (0 < j) = false := by simp; omega
    have E1 := Lib.hid (K1.out.trans (if_neg (fun a => hp a.1)))
    have F1 := Lib.hid (L1.out.trans (if_neg (fun a => hp a.1)))
    have hz : ¬ 0 < j := hp
    by_cases hr : (j : Int) + 1 < g.n
    · have hrd : decide ((j : Int) + 1 < g.n) = true := by simp [hr]
      have m0 : 0 ≤ (j : Int) + 1 := by omega
      have m1 : (j : Int) + 1 < 17 := by omega
      have m2 : ((j : Int) + 1).toNat = j + 1 := by omega
      have zr := HC.out _ R2.out (j + 1) (by omega)
      obtain ⟨hr0, hr1⟩ := HB.out (j + 1) (by omega)
      by_cases hy : g.h (j + 1) < g.h j
      · have hyd : decide (g.h (j + 1) < g.h j) = true := by simp [hy]
        have E2 := Lib.hid (K2.out.trans (if_pos ⟨hr, by rw [F1.out]; exact hy⟩))
        clear hy
        go_wp2_with fail
        go_ret
        exact ⟨by rw [HR.out, E2.out]; rfl, B2⟩
      · have hyd : decide (g.h (j + 1) < g.h j) = false := by simp; omega
        have E2 := Lib.hid (K2.out.trans (if_neg (fun a => hy (by have := a.2; rw [F1.out] at this; exact this))))
        clear hy
        go_wp2_with fail
        go_ret
        exact ⟨by rw [HR.out, E2.out, E1.out]; rfl, B2⟩
    · have hrd : decide ((j : Int) + 1 < g.n) = false := by simp; omega
      have E2 := Lib.hid (K2.out.trans (if_neg (fun a => hr a.1)))
      go_wp2_with fail
      go_ret
      exact ⟨by rw [HR.out, E2.out, E1.out]; rfl, B2⟩
end Go.Proofs.Ytfdoehakpeddnaa
