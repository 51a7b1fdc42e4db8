/- SameGutter: both sides. -/
import Derived.Test.YtlkmdoccnbnacaaGutG
import Derived.Test.YtlkmdoccnbnacaaGutV
import Derived.Test.YtlkmdoccnbnacaaEq
import Derived.Test.YtlkmdoccnbnacaaEnd
namespace Go.Proofs.Ytlkmdoccnbnacaa
open Go.RowKit

/-- A pipe is as another one. -/
def ppE (p q : Nat → Int) (i : Nat) : Prop := p (i * 2) = q (i * 2) ∧ p (i * 2 + 1) = q (i * 2 + 1)
/-- Pipes are as others. -/
def PpE (n m : Nat) (p q : Nat → Int) : Prop := n = m ∧ ∀ i, i < n → ppE p q i
open Classical in
noncomputable def ppB (n m : Nat) (p q : Nat → Int) : Bool := decide (PpE n m p q)
theorem ppB_t {n m : Nat} {p q : Nat → Int} (h : PpE n m p q) : ppB n m p q = true := by simp only [ppB, decide_eq_true_eq]; exact h
theorem ppB_f {n m : Nat} {p q : Nat → Int} (h : ¬ PpE n m p q) : ppB n m p q = false := by simp only [ppB, decide_eq_false_iff_not]; exact h

set_option maxRecDepth 100000 in
set_option maxHeartbeats 1000000 in
theorem equalPp_any (b b' n m : Nat) (v u : Value) (p q : Nat → Int) (w : World) (hv : IsList w b v 2 n (pipeV p)) (hu : IsList w b' u 2 m (pipeV q)) (hn : n ≤ 2000000) (hm : m ≤ 2000000) :
    Calls Try.prog 65 #[v, u] w fun e w' => e = .returned (.bool (ppB n m p q)) ∧ Below w.heap.size w w' := by
  have HV := Lib.hid hv
  have HU := Lib.hid hu
  obtain ⟨a, cap, rfl⟩ := hv.shape
  obtain ⟨a', cap', rfl⟩ := hu.shape
  clear hv hu
  by_cases hnm : n = m
  rotate_left
  · have hd : ((n : Int) != (m : Int)) = true := by simp; omega
    rw [ppB_f (fun h => hnm h.1)]
    go_enter Try.func65, Try.ntmps65
    go_wp2_with fail
    go_ret
    exact ⟨rfl, Below.refl _ _⟩
  subst hnm
  have hd : ((n : Int) != (n : Int)) = false := by simp
  have HT := Lib.hid (show (∀ i, i < n → ppE p q i) → ppB n n p q = true from fun h => ppB_t ⟨rfl, h⟩)
  have HF := Lib.hid (show ∀ i, i < n → ¬ ppE p q i → ppB n n p q = false from fun i hi h => ppB_f (fun x => h (x.2 i hi)))
  go_enter Try.func65, Try.ntmps65
  go_wp2_with fail
  go_loopw [5, 13] (fun _ i W => ∃ j : Nat, j ≤ n ∧ i = .int .i64 j ∧ Hid (∀ x, x < j → ppE p q x) ∧ Below w.heap.size w W) (fun _ i _ => n - (intOf i).toNat)
  case atStart => exact ⟨0, by omega, rfl, Lib.hid (by omega), Below.refl _ _⟩
  case round =>
    obtain ⟨j, hj, rfl, hF, hB⟩ := hrel
    by_cases hlt : j < n
    · obtain ⟨g1, rfl, hg1, hc1⟩ := (HV.out.below hB (Nat.le_refl _)).pipe hlt
      obtain ⟨g2, rfl, hg2, hc2⟩ := (HU.out.below hB (Nat.le_refl _)).pipe hlt
      have c0 := (hc1 j hlt).1
      have c1 := (hc1 j hlt).2
      have d0 := (hc2 j hlt).1
      have d1 := (hc2 j hlt).2
      have j0 : 0 ≤ (j : Int) := by omega
      have j1 : (j : Int) < n := by omega
      have nxt : Hid (ppE p q j → ∀ x, x < j + 1 → ppE p q x) := Lib.hid fun hx x hq => by
        by_cases hqj : x < j
        · exact hF.out x hqj
        · obtain rfl : x = j := by omega
          exact hx
      have HB := Lib.hid hB
      clear hc1 hc2 hB
      by_cases he : ppE p q j
      · have e1 : (p (j * 2) == q (j * 2)) = true := by simpa using he.1
        have e2 : (p (j * 2 + 1) == q (j * 2 + 1)) = true := by simpa using he.2
        have HE := Lib.hid he
        clear he
        go_wp2_with fail
        go_quiet (fail)
        go_wp2_with fail
        refine ⟨⟨j + 1, by omega, by go_num, Lib.hid (nxt.out HE.out), below_drewN HB.out _⟩, by simp [intOf]; omega⟩
      · have HX := Lib.hid (HF.out j hlt he)
        by_cases h1 : p (j * 2) = q (j * 2)
        · have h2 : p (j * 2 + 1) ≠ q (j * 2 + 1) := fun h => he ⟨h1, h⟩
          have e1 : (p (j * 2) == q (j * 2)) = true := by simpa using h1
          have e2 : (p (j * 2 + 1) == q (j * 2 + 1)) = false := by simpa using h2
          clear he h1 h2
          go_wp2_with fail
          go_quiet (fail)
          go_wp2_with fail
          go_ret
          exact ⟨by rw [HX.out]; rfl, below_drewN HB.out _⟩
        · have e1 : (p (j * 2) == q (j * 2)) = false := by simpa using h1
          clear he h1
          go_wp2_with fail
          go_quiet (fail)
          go_wp2_with fail
          go_ret
          exact ⟨by rw [HX.out]; rfl, below_drewN HB.out _⟩
    · obtain rfl : j = n := by omega
      have HX := Lib.hid (HT.out hF.out)
      go_wp2_with fail
      go_ret
      exact ⟨by rw [HX.out]; rfl, hB⟩

/-- Gutters are alike. -/
def Gt.SameE (g k : Gt) : Prop := g.n = k.n ∧ g.d = k.d ∧ (∀ i, i < 17 → g.h i = k.h i) ∧ g.l = k.l ∧ PpE g.m k.m g.p k.p
open Classical in
noncomputable def Gt.sameB (g k : Gt) : Bool := decide (g.SameE k)
theorem Gt.sameB_f {g k : Gt} (h : ¬ g.SameE k) : g.sameB k = false := by simp only [Gt.sameB, decide_eq_false_iff_not]; exact h
theorem Gt.sameB_t {g k : Gt} (a : g.n = k.n) (b : g.d = k.d) (c : ∀ i, i < 17 → g.h i = k.h i) (d : g.l = k.l) (e : PpE g.m k.m g.p k.p) : g.sameB k = true := by simp only [Gt.sameB, decide_eq_true_eq]; exact ⟨a, b, c, d, e⟩
theorem Gt.sameB_p {g k : Gt} (a : g.n = k.n) (b : g.d = k.d) (c : ∀ i, i < 17 → g.h i = k.h i) (d : g.l = k.l) : g.sameB k = ppB g.m k.m g.p k.p := by
  by_cases h : PpE g.m k.m g.p k.p
  · rw [ppB_t h]; exact Gt.sameB_t a b c d h
  · rw [ppB_f h]; exact Gt.sameB_f fun x => h x.2.2.2.2

set_option maxRecDepth 100000 in
set_option maxHeartbeats 4000000 in
theorem implSameGutter_x (b b' : Nat) (c e : Array Value) (g k : Gt) (v u : Value) (w : World) (hG : IsGut c g v) (hK : IsGut e k u) (hv : IsList w b v 2 g.m (pipeV g.p)) (hu : IsList w b' u 2 k.m (pipeV k.p)) (hm : g.m ≤ 2000000) (hm' : k.m ≤ 2000000) :
    Calls Try.prog 23 #[.agg c, .agg e] w fun e w' => e = .returned (.bool (g.sameB k)) ∧ Below w.heap.size w w' := by
  have hc := hG.size
  have he := hK.size
  have k0 := hG.cells
  have k1 := hG.deep
  have k19 := hG.leaves
  have k20 := hG.pipes
  have m0 := hK.cells
  have m1 := hK.deep
  have m19 := hK.leaves
  have m20 := hK.pipes
  have HG := Lib.hid hG
  have HK := Lib.hid hK
  have HB := Lib.hid (show Below w.heap.size w ((w.alloc (.cells c 33)).alloc (.cells e 33)) from ((Below.refl _ _).alloc (Nat.le_refl _) _).alloc (by simp) _)
  have HV := Lib.hid hv
  have HU := Lib.hid hu
  have ho1 : Ones (c.extract 2 (2 + 17)) := hG.ones.extract _ _
  have hs1 : (c.extract 2 (2 + 17)).size = 17 := by simp; omega
  have ho2 : Ones (e.extract 2 (2 + 17)) := hK.ones.extract _ _
  have hs2 : (e.extract 2 (2 + 17)).size = 17 := by simp; omega
  obtain ⟨a, cap, rfl⟩ := hv.shape
  obtain ⟨a', cap', rfl⟩ := hu.shape
  clear hv hu hG hK
  by_cases xn : g.n = k.n
  rotate_left
  · have HX := Lib.hid (Gt.sameB_f (g := g) (k := k) (fun h => xn h.1))
    have y0 : (g.n == k.n) = false := by simp; omega
    have y1 : (g.n != k.n) = true := by simp; omega
    clear xn
    go_enter Try.func23, Try.ntmps23
    go_wp2_with fail
    go_ret
    exact ⟨by rw [HX.out]; rfl, HB.out⟩
  have yn0 : (g.n == k.n) = true := by simp; omega
  have yn1 : (g.n != k.n) = false := by simp; omega
  have Xn := Lib.hid xn
  clear xn
  by_cases xd : g.d = k.d
  rotate_left
  · have HX := Lib.hid (Gt.sameB_f (g := g) (k := k) (fun h => xd h.2.1))
    have y0 : (g.d == k.d) = false := by simp; omega
    have y1 : (g.d != k.d) = true := by simp; omega
    clear xd
    go_enter Try.func23, Try.ntmps23
    go_wp2_with fail
    go_ret
    exact ⟨by rw [HX.out]; rfl, HB.out⟩
  have yd0 : (g.d == k.d) = true := by simp; omega
  have yd1 : (g.d != k.d) = false := by simp; omega
  have Xd := Lib.hid xd
  clear xd
  by_cases xh : ∀ i, i < 17 → g.h i = k.h i
  rotate_left
  · have HX := Lib.hid (Gt.sameB_f (g := g) (k := k) (fun h => xh h.2.2.1))
    have hq := fun W : World => run_equalIn_ints_f Try.underlying24 Try.underlying22 (by kernel_rfl) (c.extract 2 (2 + 17)) (e.extract 2 (2 + 17)) g.h k.h (fun i hi => HG.out.heights.get hi) (fun i hi => HK.out.heights.get hi) xh 9998 W
    clear xh
    go_enter Try.func23, Try.ntmps23
    go_wp2_with fail
    go_ret
    exact ⟨by rw [HX.out]; rfl, HB.out⟩
  have hq := fun W : World => run_equalIn_ints_t Try.underlying24 Try.underlying22 (by kernel_rfl) (c.extract 2 (2 + 17)) (e.extract 2 (2 + 17)) g.h k.h (fun i hi => HG.out.heights.get hi) (fun i hi => HK.out.heights.get hi) xh 9998 W
  have Xh := Lib.hid xh
  clear xh
  by_cases xl : g.l = k.l
  rotate_left
  · have HX := Lib.hid (Gt.sameB_f (g := g) (k := k) (fun h => xl h.2.2.2.1))
    have y0 : (g.l == k.l) = false := by simp; omega
    have y1 : (g.l != k.l) = true := by simp; omega
    clear xl
    go_enter Try.func23, Try.ntmps23
    go_wp2_with fail
    go_ret
    exact ⟨by rw [HX.out]; rfl, HB.out⟩
  have yl0 : (g.l == k.l) = true := by simp; omega
  have yl1 : (g.l != k.l) = false := by simp; omega
  have Xl := Lib.hid xl
  clear xl
  have HX := Lib.hid (Gt.sameB_p Xn.out Xd.out Xh.out Xl.out)
  go_enter Try.func23, Try.ntmps23
  go_wp2_with fail
  refine (equalPp_any b b' g.m k.m _ _ g.p k.p _ (HV.out.below HB.out (Nat.le_refl _)) (HU.out.below HB.out (Nat.le_refl _)) hm hm').mono ?_
  rintro e w1 ⟨rfl, b1⟩
  have B1 := bnext HB.out b1 HB.out.size
  clear b1
  go_wp2_with fail
  go_ret
  exact ⟨by rw [HX.out]; rfl, B1⟩

set_option maxRecDepth 100000 in
set_option maxHeartbeats 4000000 in
theorem specSameGutter_x (b b' : Nat) (c e : Array Value) (g k : Gt) (v u : Value) (w : World) (hG : IsGut c g v) (hK : IsGut e k u) (hv : IsList w b v 2 g.m (pipeV g.p)) (hu : IsList w b' u 2 k.m (pipeV k.p)) (hm : g.m ≤ 2000000) (_hm' : k.m ≤ 2000000) :
    Calls Try.prog 22 #[.agg c, .agg e] w fun e w' => e = .returned (.bool (g.sameB k)) ∧ Below w.heap.size w w' := by
  have hc := hG.size
  have he := hK.size
  have k0 := hG.cells
  have k1 := hG.deep
  have k19 := hG.leaves
  have k20 := hG.pipes
  have m0 := hK.cells
  have m1 := hK.deep
  have m19 := hK.leaves
  have m20 := hK.pipes
  have HG := Lib.hid hG
  have HK := Lib.hid hK
  have HB := Lib.hid (show Below w.heap.size w ((w.alloc (.cells c 33)).alloc (.cells e 33)) from ((Below.refl _ _).alloc (Nat.le_refl _) _).alloc (by simp) _)
  have HV := Lib.hid hv
  have HU := Lib.hid hu
  have ho1 : Ones (c.extract 2 (2 + 17)) := hG.ones.extract _ _
  have hs1 : (c.extract 2 (2 + 17)).size = 17 := by simp; omega
  have ho2 : Ones (e.extract 2 (2 + 17)) := hK.ones.extract _ _
  have hs2 : (e.extract 2 (2 + 17)).size = 17 := by simp; omega
  obtain ⟨a, cap, rfl⟩ := hv.shape
  obtain ⟨a', cap', rfl⟩ := hu.shape
  clear hv hu hG hK
  by_cases xn : g.n = k.n
  rotate_left
  · have HX := Lib.hid (Gt.sameB_f (g := g) (k := k) (fun h => xn h.1))
    have y0 : (g.n == k.n) = false := by simp; omega
    have y1 : (g.n != k.n) = true := by simp; omega
    clear xn
    go_enter Try.func22, Try.ntmps22
    go_wp2_with fail
    go_ret
    exact ⟨by rw [HX.out]; rfl, HB.out⟩
  have yn0 : (g.n == k.n) = true := by simp; omega
  have yn1 : (g.n != k.n) = false := by simp; omega
  have Xn := Lib.hid xn
  clear xn
  by_cases xd : g.d = k.d
  rotate_left
  · have HX := Lib.hid (Gt.sameB_f (g := g) (k := k) (fun h => xd h.2.1))
    have y0 : (g.d == k.d) = false := by simp; omega
    have y1 : (g.d != k.d) = true := by simp; omega
    clear xd
    go_enter Try.func22, Try.ntmps22
    go_wp2_with fail
    go_ret
    exact ⟨by rw [HX.out]; rfl, HB.out⟩
  have yd0 : (g.d == k.d) = true := by simp; omega
  have yd1 : (g.d != k.d) = false := by simp; omega
  have Xd := Lib.hid xd
  clear xd
  by_cases xh : ∀ i, i < 17 → g.h i = k.h i
  rotate_left
  · have HX := Lib.hid (Gt.sameB_f (g := g) (k := k) (fun h => xh h.2.2.1))
    have hq := fun W : World => run_equalIn_ints_f Try.underlying24 Try.underlying22 (by kernel_rfl) (c.extract 2 (2 + 17)) (e.extract 2 (2 + 17)) g.h k.h (fun i hi => HG.out.heights.get hi) (fun i hi => HK.out.heights.get hi) xh 9998 W
    clear xh
    go_enter Try.func22, Try.ntmps22
    go_wp2_with fail
    go_ret
    exact ⟨by rw [HX.out]; rfl, HB.out⟩
  have hq := fun W : World => run_equalIn_ints_t Try.underlying24 Try.underlying22 (by kernel_rfl) (c.extract 2 (2 + 17)) (e.extract 2 (2 + 17)) g.h k.h (fun i hi => HG.out.heights.get hi) (fun i hi => HK.out.heights.get hi) xh 9998 W
  have Xh := Lib.hid xh
  clear xh
  by_cases xl : g.l = k.l
  rotate_left
  · have HX := Lib.hid (Gt.sameB_f (g := g) (k := k) (fun h => xl h.2.2.2.1))
    have y0 : (g.l == k.l) = false := by simp; omega
    have y1 : (g.l != k.l) = true := by simp; omega
    clear xl
    go_enter Try.func22, Try.ntmps22
    go_wp2_with fail
    go_ret
    exact ⟨by rw [HX.out]; rfl, HB.out⟩
  have yl0 : (g.l == k.l) = true := by simp; omega
  have yl1 : (g.l != k.l) = false := by simp; omega
  have Xl := Lib.hid xl
  clear xl
  by_cases xm : g.m = k.m
  rotate_left
  · have HX := Lib.hid (Gt.sameB_f (g := g) (k := k) (fun h => xm h.2.2.2.2.1))
    have y0 : ((g.m : Int) == (k.m : Int)) = false := by simp; omega
    have y1 : ((g.m : Int) != (k.m : Int)) = true := by simp; omega
    clear xm
    go_enter Try.func22, Try.ntmps22
    go_wp2_with fail
    go_ret
    exact ⟨by rw [HX.out]; rfl, HB.out⟩
  have ym0 : ((g.m : Int) == (k.m : Int)) = true := by simp; omega
  have ym1 : ((g.m : Int) != (k.m : Int)) = false := by simp; omega
  have Xm := Lib.hid xm
  clear xm
  have HT := Lib.hid (show (∀ i, i < g.m → ppE g.p k.p i) → g.sameB k = true from fun h => Gt.sameB_t Xn.out Xd.out Xh.out Xl.out ⟨Xm.out, h⟩)
  have HF := Lib.hid (show ∀ i, i < g.m → ¬ ppE g.p k.p i → g.sameB k = false from fun i hi h => Gt.sameB_f (fun x => h (x.2.2.2.2.2 i hi)))
  have r1 : rowAt ((w.alloc (.cells c 33)).alloc (.cells e 33)) w.heap.size = some c := (rowAt_alloc_past _ _ _ (by simp)).trans (rowAt_alloc_at _ _ _ _ rfl)
  have r2 : rowAt ((w.alloc (.cells c 33)).alloc (.cells e 33)) (w.heap.size + 1) = some e := rowAt_alloc_at _ _ _ _ (by simp)
  have R1 := Lib.hid r1
  have R2 := Lib.hid r2
  clear r1 r2
  go_enter Try.func22, Try.ntmps22
  go_wp2_with fail
  clear hq yn0 yn1 yd0 yd1 yl0 yl1 ym0 ym1 k0 k1 k19 m0 m1 m19
  obtain ⟨W0, hW⟩ : ∃ W0, (w.alloc (.cells c 33)).alloc (.cells e 33) = W0 := ⟨_, rfl⟩
  rw [hW] at HB R1 R2 ⊢
  have hm1 := Xm.out
  clear hW
  go_loopw [5] (fun i W => ∃ j : Nat, j ≤ g.m ∧ i = .int .i64 j ∧ Hid (∀ x, x < j → ppE g.p k.p x) ∧ Below W0.heap.size W0 W) (fun i _ => g.m - (intOf i).toNat)
  case atStart => exact ⟨0, by omega, rfl, Lib.hid (by omega), Below.refl _ _⟩
  case round =>
    obtain ⟨j, hj, rfl, hF, hB⟩ := hrel
    have q1 := brow hB R1.out
    have q2 := brow hB R2.out
    have z1 : wr.cell? ⟨w.heap.size, 20, none⟩ = some (.slice a g.m cap) := by rw [cell_of_rowAt q1]; exact HG.out.getP
    have z2 : wr.cell? ⟨w.heap.size + 1, 20, none⟩ = some (.slice a' k.m cap') := by rw [cell_of_rowAt q2]; exact HK.out.getP
    have l1 := rowAt_lt q1
    have l2 := rowAt_lt q2
    have HB2 := Lib.hid (HB.out.trans (hB.mono HB.out.size))
    have HBB := Lib.hid hB
    by_cases hlt : j < g.m
    · obtain ⟨g1, rfl, hg1, hc1⟩ := (HV.out.below HB2.out (Nat.le_refl _)).pipe hlt
      obtain ⟨g2, rfl, hg2, hc2⟩ := (HU.out.below HB2.out (Nat.le_refl _)).pipe (show j < k.m by omega)
      have c0 := (hc1 j hlt).1
      have c1 := (hc1 j hlt).2
      have d0 := (hc2 j (by omega)).1
      have d1 := (hc2 j (by omega)).2
      have j0 : 0 ≤ (j : Int) := by omega
      have j1 : (j : Int) < g.m := by omega
      have j2 : (j : Int) < k.m := by omega
      have nxt : Hid (ppE g.p k.p j → ∀ x, x < j + 1 → ppE g.p k.p x) := Lib.hid fun hx x hq => by
        by_cases hqj : x < j
        · exact hF.out x hqj
        · obtain rfl : x = j := by omega
          exact hx
      clear hc1 hc2 hB q1 q2
      by_cases he : ppE g.p k.p j
      · have e1 : (g.p (j * 2) == k.p (j * 2)) = true := by simpa using he.1
        have e2 : (g.p (j * 2 + 1) == k.p (j * 2 + 1)) = true := by simpa using he.2
        have HE := Lib.hid he
        clear he
        go_wp2_with fail
        go_quiet (fail)
        go_wp2_with fail
        refine ⟨⟨j + 1, by omega, by go_num, Lib.hid (nxt.out HE.out), below_drewN HBB.out _⟩, by simp [intOf]; omega⟩
      · have HX := Lib.hid (HF.out j hlt he)
        by_cases h1 : g.p (j * 2) = k.p (j * 2)
        · have h2 : g.p (j * 2 + 1) ≠ k.p (j * 2 + 1) := fun h => he ⟨h1, h⟩
          have e1 : (g.p (j * 2) == k.p (j * 2)) = true := by simpa using h1
          have e2 : (g.p (j * 2 + 1) == k.p (j * 2 + 1)) = false := by simpa using h2
          clear he h1 h2
          go_wp2_with fail
          go_quiet (fail)
          go_wp2_with fail
          go_ret
          exact ⟨by rw [HX.out]; rfl, below_drewN HB2.out _⟩
        · have e1 : (g.p (j * 2) == k.p (j * 2)) = false := by simpa using h1
          clear he h1
          go_wp2_with fail
          go_quiet (fail)
          go_wp2_with fail
          go_ret
          exact ⟨by rw [HX.out]; rfl, below_drewN HB2.out _⟩
    · obtain rfl : j = g.m := by omega
      have HX := Lib.hid (HT.out hF.out)
      clear hB q1 q2
      go_wp2_with fail
      go_ret
      exact ⟨by rw [HX.out]; rfl, HB2.out⟩
theorem specSameGutter_any (b : Nat) (c : Array Value) (g : Gt) (v : Value) (b' : Nat) (e : Array Value) (k : Gt) (u : Value) (w : World) (hG : IsGut c g v) (hv : IsList w b v 2 g.m (pipeV g.p)) (hm : g.m ≤ 2000000) (hK : IsGut e k u) (hu : IsList w b' u 2 k.m (pipeV k.p)) (hm' : k.m ≤ 2000000) :
    Calls Try.prog 22 #[.agg c, .agg e] w fun e w' => e = .returned (.bool (g.sameB k)) ∧ Below w.heap.size w w' := specSameGutter_x b b' c e g k v u w hG hK hv hu hm hm'
theorem implSameGutter_any (b : Nat) (c : Array Value) (g : Gt) (v : Value) (b' : Nat) (e : Array Value) (k : Gt) (u : Value) (w : World) (hG : IsGut c g v) (hv : IsList w b v 2 g.m (pipeV g.p)) (hm : g.m ≤ 2000000) (hK : IsGut e k u) (hu : IsList w b' u 2 k.m (pipeV k.p)) (hm' : k.m ≤ 2000000) :
    Calls Try.prog 23 #[.agg c, .agg e] w fun e w' => e = .returned (.bool (g.sameB k)) ∧ Below w.heap.size w w' := implSameGutter_x b b' c e g k v u w hG hK hv hu hm hm'
end Go.Proofs.Ytlkmdoccnbnacaa
