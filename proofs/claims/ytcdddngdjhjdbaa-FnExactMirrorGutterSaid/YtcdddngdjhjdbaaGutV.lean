/- Valid gutters: the program's answer. -/
import Derived.Test.YtcdddngdjhjdbaaGutM
namespace Go.Proofs.Ytcdddngdjhjdbaa
open Go.RowKit

open Classical in
noncomputable def Gt.hsB (g : Gt) : Bool := decide (∀ i, i < 17 → g.hOk i)
theorem Gt.hsB_t (g : Gt) (h : ∀ i, i < 17 → g.hOk i) : g.hsB = true := by simpa only [Gt.hsB, decide_eq_true_eq] using h
theorem Gt.hsB_f (g : Gt) {i : Nat} (hi : i < 17) (h : ¬ g.hOk i) : g.hsB = false := by simp only [Gt.hsB, decide_eq_false_iff_not]; exact fun a => h (a i hi)
open Classical in
noncomputable def Gt.psB (g : Gt) : Bool := decide (g.m ≤ 4 ∧ ∀ i, i < g.m → g.pOk i)
theorem Gt.psB_t (g : Gt) (h4 : g.m ≤ 4) (h : ∀ i, i < g.m → g.pOk i) : g.psB = true := by simp only [Gt.psB, decide_eq_true_eq]; exact ⟨h4, h⟩
theorem Gt.psB_m (g : Gt) (h4 : ¬ g.m ≤ 4) : g.psB = false := by simp only [Gt.psB, decide_eq_false_iff_not]; exact fun a => h4 a.1
theorem Gt.psB_f (g : Gt) {i : Nat} (hi : i < g.m) (h : ¬ g.pOk i) : g.psB = false := by simp only [Gt.psB, decide_eq_false_iff_not]; exact fun a => h (a.2 i hi)

set_option maxRecDepth 100000 in
set_option maxHeartbeats 2000000 in
theorem validHeights_any (c : Array Value) (g : Gt) (v : Value) (w : World) (hG : IsGut c g v) :
    Calls Try.prog 93 #[.agg c] w fun e w' => e = .returned (.bool g.hsB) ∧ Below w.heap.size w w' := by
  have hc := hG.size
  have n0 := hG.n0
  have n1 := hG.n1
  have hxs : (c.extract 2 (2 + 17)).size = 17 := by simp; omega
  have hx := hG.heights
  rw [show (19 : Nat) = 2 + 17 from rfl] at hx
  have HG := Lib.hid hG
  have rA : rowAt (w.alloc (.cells c 54)) w.heap.size = some c := rowAt_alloc_at _ _ _ _ rfl
  have hB0 : Below w.heap.size w (w.alloc (.cells c 54)) := (Below.refl _ _).alloc (Nat.le_refl _) _
  have HX := Lib.hid hx
  clear hG hx
  go_enter Try.func93, Try.ntmps93
  go_wp2_with fail
  go_loopw [7] (fun i W => ∃ j : Nat, j ≤ 17 ∧ i = .int .i64 j ∧ Hid (∀ q, q < j → g.hOk q) ∧ rowAt W w.heap.size = some c ∧ Below w.heap.size w W) (fun i _ => 17 - (intOf i).toNat)
  case atStart => exact ⟨0, by omega, rfl, Lib.hid (by omega), rA, hB0⟩
  case round =>
    clear rA hB0
    obtain ⟨j, hj, rfl, hF, rW, hB⟩ := hrel
    have HB := Lib.hid hB
    have z0 : wr.cell? ⟨w.heap.size, 0, none⟩ = some (.int .i8 g.n) := by rw [cell_of_rowAt rW]; exact HG.out.get0
    have RW := Lib.hid rW
    clear hB rW
    by_cases hlt : j < 17
    · have hk1 : j < (c.extract 2 (2 + 17)).size := by omega
      have h0 := HX.out.cell j hk1
      generalize c.extract 2 (2 + 17) = X at *
      have j0 : 0 ≤ (j : Int) := by omega
      have j1 : (j : Int) < 17 := by omega
      have nxt : Hid (g.hOk j → ∀ q, q < j + 1 → g.hOk q) := Lib.hid fun hx q hq => by
        by_cases hqj : q < j
        · exact hF.out q hqj
        · obtain rfl : q = j := by omega
          exact hx
      by_cases t0 : g.h j < 0
      · have e0 : decide (g.h j < 0) = true := by simp [t0]
        have HN := Lib.hid (Gt.hsB_f g hlt (fun o => by have := o.1; omega))
        go_wp2_with fail
        go_ret
        exact ⟨by rw [HN.out]; rfl, HB.out⟩
      have e0 : decide (g.h j < 0) = false := by simp; omega
      by_cases t1 : 9 < g.h j
      · have e1 : decide (9 < g.h j) = true := by simp [t1]
        have HN := Lib.hid (Gt.hsB_f g hlt (fun o => by have := o.2.1; omega))
        go_wp2_with fail
        go_ret
        exact ⟨by rw [HN.out]; rfl, HB.out⟩
      have e1 : decide (9 < g.h j) = false := by simp; omega
      by_cases t2 : (j : Int) < g.n
      · have e2 : decide (g.n ≤ (j : Int)) = false := by simp; omega
        go_wp2_with fail
        refine ⟨⟨j + 1, by omega, by go_num, Lib.hid (nxt.out ⟨by omega, by omega, .inl t2⟩), RW.out, HB.out⟩, by simp [intOf]; omega⟩
      have e2 : decide (g.n ≤ (j : Int)) = true := by simp; omega
      by_cases t3 : g.h j = 0
      · have e3 : (g.h j != 0) = false := by simp [t3]
        have T3 := Lib.hid t3
        clear t3
        go_wp2_with fail
        refine ⟨⟨j + 1, by omega, by go_num, Lib.hid (nxt.out ⟨by omega, by omega, .inr T3.out⟩), RW.out, HB.out⟩, by simp [intOf]; omega⟩
      · have e3 : (g.h j != 0) = true := by simp [t3]
        have HN := Lib.hid (Gt.hsB_f g hlt (fun o => by rcases o.2.2 with o | o <;> omega))
        clear t3
        go_wp2_with fail
        go_ret
        exact ⟨by rw [HN.out]; rfl, HB.out⟩
    · obtain rfl : j = 17 := by omega
      have HN := Lib.hid (Gt.hsB_t g hF.out)
      go_wp2_with fail
      go_ret
      exact ⟨by rw [HN.out]; rfl, HB.out⟩
set_option maxRecDepth 100000 in
set_option maxHeartbeats 2000000 in
theorem validPipes_any (b : Nat) (c : Array Value) (g : Gt) (v : Value) (w : World) (hG : IsGut c g v) (hv : IsList w b v 2 g.m (pipeV g.p)) (hn : 1 ≤ g.n ∧ g.n ≤ 17) (hm : g.m ≤ 2000000) :
    Calls Try.prog 94 #[.agg c] w fun e w' => e = .returned (.bool g.psB) ∧ Below w.heap.size w w' := by
  have hc := hG.size
  obtain ⟨n1, n17⟩ := hn
  have k20 := hG.pipes
  have hm0 : 0 ≤ (g.m : Int) := by omega
  have rA : rowAt (w.alloc (.cells c 54)) w.heap.size = some c := rowAt_alloc_at _ _ _ _ rfl
  have hB0 : Below w.heap.size w (w.alloc (.cells c 54)) := (Below.refl _ _).alloc (Nat.le_refl _) _
  have HG := Lib.hid hG
  have HV := Lib.hid hv
  obtain ⟨a, cap, rfl⟩ := hv.shape
  clear hG hv
  by_cases h4 : g.m ≤ 4
  rotate_left
  · have hm4 : decide ((4 : Int) < g.m) = true := by simp; omega
    have HN := Lib.hid (Gt.psB_m g h4)
    go_enter Try.func94, Try.ntmps94
    go_wp2_with fail
    go_ret
    exact ⟨by rw [HN.out]; rfl, hB0⟩
  have hm4 : decide ((4 : Int) < g.m) = false := by simp; omega
  go_enter Try.func94, Try.ntmps94
  go_wp2_with fail
  go_loopw [3, 13] (fun x i W => ∃ j : Nat, j ≤ g.m ∧ i = .int .i64 j ∧ x = .int .i8 (if j = 0 then 0 else g.p ((j - 1) * 2) + 1) ∧ Hid (∀ q, q < j → g.pOk q) ∧ rowAt W w.heap.size = some c ∧ Below w.heap.size w W) (fun _ i _ => g.m - (intOf i).toNat)
  case atStart => exact ⟨0, by omega, rfl, rfl, Lib.hid (by omega), rA, hB0⟩
  case round =>
    clear rA hB0 hm4
    obtain ⟨j, hj, rfl, rfl, hQ, rW, hB⟩ := hrel
    have HB := Lib.hid hB
    have RW := Lib.hid rW
    have z0 : wr.cell? ⟨w.heap.size, 0, none⟩ = some (.int .i8 g.n) := by rw [cell_of_rowAt rW]; exact HG.out.get0
    have hlw := rowAt_lt rW
    by_cases hlt : j < g.m
    · obtain ⟨g', rfl, hg', hcs⟩ := (HV.out.below hB (Nat.le_refl _)).pipe hlt
      have c0 := (hcs j hlt).1
      have c1 := (hcs j hlt).2
      obtain ⟨⟨b0, b1⟩, b2, b3⟩ := HG.out.p0 j hlt
      have j0 : 0 ≤ (j : Int) := by omega
      have j1 : (j : Int) < g.m := by omega
      have hws := hB.size
      obtain ⟨x, hx⟩ : ∃ x, x = if j = 0 then 0 else g.p ((j - 1) * 2) + 1 := ⟨_, rfl⟩
      have hx0 : x = 0 ∧ j = 0 ∨ 0 < j ∧ x = g.p ((j - 1) * 2) + 1 := by
        by_cases h : j = 0
        · exact .inl ⟨by rw [hx, if_pos h], h⟩
        · exact .inr ⟨by omega, by rw [hx, if_neg h]⟩
      have hlow : Hid (x ≤ g.p (j * 2) ↔ 0 ≤ g.p (j * 2) ∧ (0 < j → g.p ((j - 1) * 2) < g.p (j * 2))) := Lib.hid (by
        rcases hx0 with ⟨e, e'⟩ | ⟨e, e'⟩
        · subst e'; rw [e]; omega
        · have hp := (hQ.out (j - 1) (by omega)).1
          rw [e']; omega)
      rw [← hx]
      have nxt : Hid (g.pOk j → ∀ q, q < j + 1 → g.pOk q) := Lib.hid fun hx q hq => by
        by_cases hqj : q < j
        · exact hQ.out q hqj
        · obtain rfl : q = j := by omega
          exact hx
      clear hcs hB rW hx hx0
      by_cases t0 : g.p (j * 2) < x
      · have e0 : decide (g.p (j * 2) < x) = true := by simp [t0]
        have HN := Lib.hid (Gt.psB_f g hlt (fun o => by have := hlow.out.2 ⟨o.1, o.2.2.2.2⟩; omega))
        go_wp2_with fail
        go_ret
        exact ⟨by rw [HN.out]; rfl, HB.out.alloc HB.out.size _⟩
      have e0 : decide (g.p (j * 2) < x) = false := by simp; omega
      by_cases t1 : g.n ≤ g.p (j * 2)
      · have e1 : decide (g.n ≤ g.p (j * 2)) = true := by simp [t1]
        have HN := Lib.hid (Gt.psB_f g hlt (fun o => by have := o.2.1; omega))
        go_wp2_with fail
        go_ret
        exact ⟨by rw [HN.out]; rfl, HB.out.alloc HB.out.size _⟩
      have e1 : decide (g.n ≤ g.p (j * 2)) = false := by simp; omega
      by_cases t2 : g.p (j * 2 + 1) < 0
      · have e2 : decide (g.p (j * 2 + 1) < 0) = true := by simp [t2]
        have HN := Lib.hid (Gt.psB_f g hlt (fun o => by have := o.2.2.1; omega))
        go_wp2_with fail
        go_ret
        exact ⟨by rw [HN.out]; rfl, HB.out.alloc HB.out.size _⟩
      have e2 : decide (g.p (j * 2 + 1) < 0) = false := by simp; omega
      by_cases t3 : 1000 < g.p (j * 2 + 1)
      · have e3 : decide (1000 < g.p (j * 2 + 1)) = true := by simp [t3]
        have HN := Lib.hid (Gt.psB_f g hlt (fun o => by have := o.2.2.2.1; omega))
        go_wp2_with fail
        go_ret
        exact ⟨by rw [HN.out]; rfl, HB.out.alloc HB.out.size _⟩
      have e3 : decide (1000 < g.p (j * 2 + 1)) = false := by simp; omega
      have hl := hlow.out.1 (by omega)
      have HL := Lib.hid hl
      have r2 : rowAt (wr.alloc (.cells #[.int .i8 (g.p (j * 2)), .int .i16 (g.p (j * 2 + 1))] 90)) w.heap.size = some c := (rowAt_alloc_past _ _ _ hlw).trans RW.out
      have R2 := Lib.hid r2
      clear r2 hl
      go_wp2_with fail
      refine ⟨⟨j + 1, by omega, by go_num, by simp, Lib.hid (nxt.out ⟨HL.out.1, by omega, by omega, by omega, HL.out.2⟩), R2.out, HB.out.alloc HB.out.size _⟩, by simp [intOf]; omega⟩
    · obtain rfl : j = g.m := by omega
      have HN := Lib.hid (Gt.psB_t g h4 hQ.out)
      generalize (if g.m = 0 then (0 : Int) else g.p ((g.m - 1) * 2) + 1) = x
      go_wp2_with fail
      go_ret
      exact ⟨by rw [HN.out]; rfl, HB.out⟩
set_option maxRecDepth 100000 in
set_option maxHeartbeats 2000000 in
theorem implValidGutter_any (b : Nat) (c : Array Value) (g : Gt) (v : Value) (w : World) (hG : IsGut c g v) (hv : IsList w b v 2 g.m (pipeV g.p)) (hm : g.m ≤ 2000000) :
    Calls Try.prog 49 #[.agg c] w fun e w' => e = .returned (.bool g.ok) ∧ Below w.heap.size w w' := by
  have hc := hG.size
  have k0 := hG.cells
  have k1 := hG.deep
  have k19 := hG.leaves
  have n0 := hG.n0
  have n1 := hG.n1
  have d0 := hG.d0
  have d1 := hG.d1
  have l0 := hG.l0
  have l1 := hG.l1
  have rA : rowAt (w.alloc (.cells c 54)) w.heap.size = some c := rowAt_alloc_at _ _ _ _ rfl
  have hB0 : Below w.heap.size w (w.alloc (.cells c 54)) := (Below.refl _ _).alloc (Nat.le_refl _) _
  have hV0 := Lib.hid (hv.below hB0 (Nat.le_refl _))
  have HB0 := Lib.hid hB0
  by_cases t0 : g.n < 1
  · have e0 : decide (g.n < 1) = true := by simp [t0]
    have HN := Lib.hid (Gt.ok_f (g := g) (fun o => by have := o.n1; omega))
    clear hG hv
    go_enter Try.func49, Try.ntmps49
    go_wp2_with fail
    go_ret
    exact ⟨by rw [HN.out]; rfl, hB0⟩
  have e0 : decide (g.n < 1) = false := by simp; omega
  by_cases t1 : 17 < g.n
  · have e1 : decide (17 < g.n) = true := by simp [t1]
    have HN := Lib.hid (Gt.ok_f (g := g) (fun o => by have := o.n17; omega))
    clear hG hv
    go_enter Try.func49, Try.ntmps49
    go_wp2_with fail
    go_ret
    exact ⟨by rw [HN.out]; rfl, hB0⟩
  have e1 : decide (17 < g.n) = false := by simp; omega
  by_cases t2 : g.d < 0
  · have e2 : decide (g.d < 0) = true := by simp [t2]
    have HN := Lib.hid (Gt.ok_f (g := g) (fun o => by have := o.d0; omega))
    clear hG hv
    go_enter Try.func49, Try.ntmps49
    go_wp2_with fail
    go_ret
    exact ⟨by rw [HN.out]; rfl, hB0⟩
  have e2 : decide (g.d < 0) = false := by simp; omega
  by_cases t3 : 1000 < g.d
  · have e3 : decide (1000 < g.d) = true := by simp [t3]
    have HN := Lib.hid (Gt.ok_f (g := g) (fun o => by have := o.d1; omega))
    clear hG hv
    go_enter Try.func49, Try.ntmps49
    go_wp2_with fail
    go_ret
    exact ⟨by rw [HN.out]; rfl, hB0⟩
  have e3 : decide (1000 < g.d) = false := by simp; omega
  have hn1 : 1 ≤ g.n := by omega
  have hn2 : g.n ≤ 17 := by omega
  have CH := fun W => validHeights_any c g v W hG
  have CP := fun W H => validPipes_any b c g v W hG H ⟨hn1, hn2⟩ hm
  have HY := Lib.hid (show g.hsB = true → g.lvB = true → g.psB = true → g.ok = true from fun a b d => by
    simp only [Gt.hsB, decide_eq_true_eq] at a
    simp only [Gt.psB, decide_eq_true_eq] at d
    exact Gt.ok_t ⟨hn1, hn2, by omega, by omega, b, d.1, a, d.2⟩)
  have H1 := Lib.hid (show g.hsB = false → g.ok = false from fun a => Gt.ok_f fun o => by rw [Gt.hsB_t g o.hs] at a; cases a)
  have H2 := Lib.hid (show g.lvB = false → g.ok = false from fun a => Gt.ok_f fun o => by rw [o.lv] at a; cases a)
  have H3 := Lib.hid (show g.psB = false → g.ok = false from fun a => Gt.ok_f fun o => by rw [Gt.psB_t g o.m4 o.ps] at a; cases a)
  clear hG hv t0 t1 t2 t3 n0 n1
  cases hh : g.hsB with
  | false =>
    have HN := Lib.hid (H1.out hh)
    rw [hh] at CH
    clear hh
    go_enter Try.func49, Try.ntmps49
    go_wp2_with fail
    refine (CH _).mono ?_
    rintro e w1 ⟨rfl, b1⟩
    have B1 := bnext HB0.out b1 HB0.out.size
    clear b1 rA hB0
    go_wp2_with fail
    go_ret
    exact ⟨by rw [HN.out]; rfl, B1⟩
  | true =>
    rw [hh] at CH
    cases hl : g.lvB with
    | false =>
      have HN := Lib.hid (H2.out hl)
      have hs : (g.l / 2 ^ g.n.toNat == 0) = false := hl
      clear hh hl
      go_enter Try.func49, Try.ntmps49
      go_wp2_with fail
      refine (CH _).mono ?_
      rintro e w1 ⟨rfl, b1⟩
      have r1 := brow b1 rA
      have z := cell_of_rowAt r1
      have B1 := bnext HB0.out b1 HB0.out.size
      clear b1 rA hB0
      go_wp2_with fail
      go_ret
      exact ⟨by rw [HN.out]; rfl, B1⟩
    | true =>
      have hs : (g.l / 2 ^ g.n.toNat == 0) = true := hl
      obtain ⟨pb, hp⟩ : ∃ pb, g.psB = pb := ⟨_, rfl⟩
      have HN := Lib.hid (show g.ok = pb from by
        cases pb with
        | false => exact H3.out hp
        | true => exact HY.out hh hl hp)
      rw [hp] at CP
      clear hh hl hp
      go_enter Try.func49, Try.ntmps49
      go_wp2_with fail
      refine (CH _).mono ?_
      rintro e w1 ⟨rfl, b1⟩
      have r1 := brow b1 rA
      have z := cell_of_rowAt r1
      have B1 := bnext HB0.out b1 HB0.out.size
      have HV1 := Lib.hid (hV0.out.below b1 (Nat.le_refl _))
      clear b1 rA hB0
      go_wp2_with fail
      refine (CP _ HV1.out).mono ?_
      rintro e w2 ⟨rfl, b2⟩
      have B2 := bnext B1 b2 B1.size
      clear b2 r1 z B1
      go_wp2_with fail
      go_ret
      exact ⟨by rw [HN.out]; rfl, B2⟩
end Go.Proofs.Ytcdddngdjhjdbaa
