/- Valid gutters: mathematics, and the model's answer. -/
import Derived.Test.YtcdddngdjhjdbaaGutH
import Derived.Test.YtcdddngdjhjdbaaSpecA
import Derived.Deep.LoopGhost
namespace Go.Proofs.Ytcdddngdjhjdbaa
open Go.RowKit

/-- Leaves lie in cells alone. -/
def Gt.lvB (g : Gt) : Bool := g.l / 2 ^ g.n.toNat == 0
/-- A height is as a valid gutter has it. -/
def Gt.hOk (g : Gt) (i : Nat) : Prop := 0 ≤ g.h i ∧ g.h i ≤ 9 ∧ ((i : Int) < g.n ∨ g.h i = 0)
/-- A pipe is as a valid gutter has it. -/
def Gt.pOk (g : Gt) (i : Nat) : Prop := 0 ≤ g.p (i * 2) ∧ g.p (i * 2) < g.n ∧ 0 ≤ g.p (i * 2 + 1) ∧ g.p (i * 2 + 1) ≤ 1000 ∧ (0 < i → g.p ((i - 1) * 2) < g.p (i * 2))
structure Gt.Ok (g : Gt) : Prop where
  n1 : 1 ≤ g.n
  n17 : g.n ≤ 17
  d0 : 0 ≤ g.d
  d1 : g.d ≤ 1000
  lv : g.lvB = true
  m4 : g.m ≤ 4
  hs : ∀ i, i < 17 → g.hOk i
  ps : ∀ i, i < g.m → g.pOk i
open Classical in
noncomputable def Gt.ok (g : Gt) : Bool := decide g.Ok
theorem Gt.ok_t {g : Gt} (h : g.Ok) : g.ok = true := by simp [Gt.ok, h]
theorem Gt.ok_f {g : Gt} (h : ¬ g.Ok) : g.ok = false := by simp [Gt.ok, h]
theorem Gt.Ok_of {g : Gt} (h : g.ok = true) : g.Ok := by simpa [Gt.ok] using h
theorem Gt.not_of {g : Gt} (h : g.ok = false) : ¬ g.Ok := by simpa [Gt.ok] using h

theorem l06Deep_any (n : Int) (w : World) :
    Calls Try.prog 91 #[.int .i64 n] w fun e w' => e = .returned (.bool (inB n 0 1000)) ∧ w = w' := by
  go_enter Try.func91, Try.ntmps91
  go_wp2_with fail
  refine (l00In_any _ _ _ _).mono ?_
  rintro e w' ⟨rfl, rfl⟩
  go_wp2
  go_ret
  exact ⟨rfl, rfl⟩
theorem l06Deep_tq (n : Int) (w : World) (h : 0 ≤ n ∧ n ≤ 1000) :
    Calls Try.prog 91 #[.int .i64 n] w fun e w' => e = .returned (.bool true) ∧ w' = w := by
  have := l06Deep_any n w; rw [inB_true h] at this; exact this.mono fun _ _ h => ⟨h.1, h.2.symm⟩
theorem l06Deep_fq (n : Int) (w : World) (h : ¬ (0 ≤ n ∧ n ≤ 1000)) :
    Calls Try.prog 91 #[.int .i64 n] w fun e w' => e = .returned (.bool false) ∧ w' = w := by
  have := l06Deep_any n w; rw [inB_false h] at this; exact this.mono fun _ _ h => ⟨h.1, h.2.symm⟩

/-- The cells of pipe k of a list of a call's own. -/
theorem IsList.pipe {w : World} {base n : Nat} {a : Option Addr} {cap : Nat} {f : Nat → Int} (h : IsList w base (.slice a n cap) 2 n (pipeV f)) {k : Nat} (hk : k < n) :
    ∃ g, a = some ⟨g, 0, none⟩ ∧ g < w.heap.size ∧ ∀ k, k < n → w.cell? ⟨g, k * 2, none⟩ = some (.int .i8 (f (k * 2))) ∧ w.cell? ⟨g, k * 2 + 1, none⟩ = some (.int .i16 (f (k * 2 + 1))) := by
  rcases h with ⟨h0, _⟩ | ⟨g, cap', cur, e, hg, hr, hs, hf⟩
  · omega
  · cases e
    exact ⟨g, rfl, rowAt_lt hr, fun k hk => ⟨by rw [cell_of_rowAt hr]; exact (hf _ (by omega)).trans (congrArg some (pipeV_0 f k)), by rw [cell_of_rowAt hr]; exact (hf _ (by omega)).trans (congrArg some (pipeV_1 f k))⟩⟩
/-- A gutter in a block: its cells, and its list of pipes. -/
structure GutAt (w : World) (k : Nat) (c : Array Value) (g : Gt) (v : Value) (b : Nat) : Prop where
  row : rowAt w k = some c
  is : IsGut c g v
  pipes : IsList w b v 2 g.m (pipeV g.p)
theorem GutAt.below {w w' : World} {k : Nat} {c : Array Value} {g : Gt} {v : Value} {b B : Nat} (h : GutAt w k c g v b) (hb : Below B w w') (hB : w.heap.size ≤ B) : GutAt w' k c g v b :=
  ⟨(rowAt_below hb k (Nat.lt_of_lt_of_le (rowAt_lt h.row) hB)).trans h.row, h.is, h.pipes.below hb hB⟩
theorem GutAt.lt {w : World} {k : Nat} {c : Array Value} {g : Gt} {v : Value} {b : Nat} (h : GutAt w k c g v b) : k < w.heap.size := rowAt_lt h.row

set_option maxRecDepth 100000 in
set_option maxHeartbeats 1000000 in
theorem l06Ok_a (k b : Nat) (c : Array Value) (g : Gt) (v : Value) (w : World) (hA : GutAt w k c g v b) (h : ¬ (1 ≤ g.n ∧ g.n ≤ 17)) :
    Calls Try.prog 45 #[.pointer (some ⟨k, 0, none⟩)] w fun e w' => e = .returned (.bool false) ∧ Below w.heap.size w w' := by
  have hcell := cell_of_rowAt hA.row
  have hlt := hA.lt
  have hc := hA.is.size
  have k0 := hA.is.cells
  have n0 := hA.is.n0
  have n1 := hA.is.n1
  clear hA
  go_enter Try.func45, Try.ntmps45
  go_wp2_with fail
  go_quiet ((go_at_call 70; exact Calls.quiet_of_same (l00In_fq _ _ _ _ h)))
  go_wp2_with fail
  go_ret
  exact ⟨rfl, below_drewN (Below.refl _ _) _⟩
set_option maxRecDepth 100000 in
set_option maxHeartbeats 1000000 in
theorem l06Ok_b (k b : Nat) (c : Array Value) (g : Gt) (v : Value) (w : World) (hA : GutAt w k c g v b) (h : 1 ≤ g.n ∧ g.n ≤ 17) (h2 : ¬ (0 ≤ g.d ∧ g.d ≤ 1000)) :
    Calls Try.prog 45 #[.pointer (some ⟨k, 0, none⟩)] w fun e w' => e = .returned (.bool false) ∧ Below w.heap.size w w' := by
  have hcell := cell_of_rowAt hA.row
  have hlt := hA.lt
  have hc := hA.is.size
  have k0 := hA.is.cells
  have n0 := hA.is.n0
  have n1 := hA.is.n1
  have k1 := hA.is.deep
  have d0 := hA.is.d0
  have d1 := hA.is.d1
  clear hA
  go_enter Try.func45, Try.ntmps45
  go_wp2_with fail
  go_quiet (first | (go_at_call 70; exact Calls.quiet_of_same (l00In_tq _ _ _ _ h)) | (go_at_call 91; exact Calls.quiet_of_same (l06Deep_fq _ _ h2)))
  go_wp2_with fail
  go_ret
  exact ⟨rfl, below_drewN (Below.refl _ _) _⟩
set_option maxRecDepth 100000 in
set_option maxHeartbeats 2000000 in
theorem l06Ok_c (k b : Nat) (c : Array Value) (g : Gt) (v : Value) (w : World) (hA : GutAt w k c g v b) (h : 1 ≤ g.n ∧ g.n ≤ 17) (h2 : 0 ≤ g.d ∧ g.d ≤ 1000) (h3 : g.lvB = false) :
    Calls Try.prog 45 #[.pointer (some ⟨k, 0, none⟩)] w fun e w' => e = .returned (.bool false) ∧ Below w.heap.size w w' := by
  have hcell := cell_of_rowAt hA.row
  have hlt := hA.lt
  have hc := hA.is.size
  have k0 := hA.is.cells
  have k1 := hA.is.deep
  have k19 := hA.is.leaves
  have k20 := hA.is.pipes
  have l0 := hA.is.l0
  have l1 := hA.is.l1
  have n0 := h.1
  have n1 := h.2
  have d0 := h2.1
  have d1 := h2.2
  have hm0 : 0 ≤ (g.m : Int) := by omega
  have hs : (g.l / 2 ^ g.n.toNat != 0) = true := by unfold Gt.lvB at h3; simpa using h3
  clear hA h3
  go_enter Try.func45, Try.ntmps45
  go_wp2_with fail
  go_quiet (first | (go_at_call 70; exact Calls.quiet_of_same (l00In_tq _ _ _ _ h)) | (go_at_call 91; exact Calls.quiet_of_same (l06Deep_tq _ _ h2)))
  go_wp2_with fail
  go_ret
  exact ⟨rfl, below_drewN (Below.refl _ _) _⟩
set_option maxRecDepth 100000 in
set_option maxHeartbeats 2000000 in
theorem l06Ok_d (k b : Nat) (c : Array Value) (g : Gt) (v : Value) (w : World) (hA : GutAt w k c g v b) (h : 1 ≤ g.n ∧ g.n ≤ 17) (h2 : 0 ≤ g.d ∧ g.d ≤ 1000) (h3 : g.lvB = true) (h4 : ¬ g.m ≤ 4) (hm : g.m ≤ 2000000) :
    Calls Try.prog 45 #[.pointer (some ⟨k, 0, none⟩)] w fun e w' => e = .returned (.bool false) ∧ Below w.heap.size w w' := by
  have hcell := cell_of_rowAt hA.row
  have hlt := hA.lt
  have hc := hA.is.size
  have k0 := hA.is.cells
  have k1 := hA.is.deep
  have k19 := hA.is.leaves
  have k20 := hA.is.pipes
  have l0 := hA.is.l0
  have l1 := hA.is.l1
  have n0 := h.1
  have n1 := h.2
  have d0 := h2.1
  have d1 := h2.2
  have hm0 : 0 ≤ (g.m : Int) := by omega
  have hs : (g.l / 2 ^ g.n.toNat != 0) = false := by unfold Gt.lvB at h3; simpa using h3
  have hm4 : (4 : Int) < g.m := by omega
  obtain ⟨a, cap, rfl⟩ := hA.pipes.shape
  clear hA h3 h4
  go_enter Try.func45, Try.ntmps45
  go_wp2_with fail
  go_quiet (first | (go_at_call 70; exact Calls.quiet_of_same (l00In_tq _ _ _ _ h)) | (go_at_call 91; exact Calls.quiet_of_same (l06Deep_tq _ _ h2)))
  go_wp2_with fail
  go_ret
  exact ⟨rfl, below_drewN (Below.refl _ _) _⟩
set_option maxRecDepth 100000 in
set_option maxHeartbeats 2000000 in
theorem l06Ok_e (k b : Nat) (c : Array Value) (g : Gt) (v : Value) (w : World) (hA : GutAt w k c g v b) (h : 1 ≤ g.n ∧ g.n ≤ 17) (h2 : 0 ≤ g.d ∧ g.d ≤ 1000) (h3 : g.lvB = true) (h4 : g.m ≤ 4) :
    Calls Try.prog 45 #[.pointer (some ⟨k, 0, none⟩)] w fun e w' => e = .returned (.bool g.ok) ∧ Below w.heap.size w w' := by
  have hcell := cell_of_rowAt hA.row
  have hlt := hA.lt
  have hc := hA.is.size
  have k0 := hA.is.cells
  have k1 := hA.is.deep
  have k19 := hA.is.leaves
  have k20 := hA.is.pipes
  have l0 := hA.is.l0
  have l1 := hA.is.l1
  have n0 := h.1
  have n1 := h.2
  have d0 := h2.1
  have d1 := h2.2
  have hm0 : 0 ≤ (g.m : Int) := by omega
  have hs : (g.l / 2 ^ g.n.toNat != 0) = false := by unfold Gt.lvB at h3; simpa using h3
  have hm4 : decide ((4 : Int) < g.m) = false := by simp; omega
  have HA := Lib.hid hA
  have HH := Lib.hid (show (∀ i, i < 17 → g.hOk i) → (∀ i, i < g.m → g.pOk i) → g.ok = true from fun a b => Gt.ok_t ⟨h.1, h.2, h2.1, h2.2, h3, h4, a, b⟩)
  have HN := Lib.hid (show ∀ i, i < 17 → ¬ g.hOk i → g.ok = false from fun i hi hn => Gt.ok_f fun o => hn (o.hs i hi))
  have HP := Lib.hid (show ∀ i, i < g.m → ¬ g.pOk i → g.ok = false from fun i hi hn => Gt.ok_f fun o => hn (o.ps i hi))
  obtain ⟨a, cap, rfl⟩ := hA.pipes.shape
  clear hA h3
  go_enter Try.func45, Try.ntmps45
  go_wp2_with fail
  go_quiet (first | (go_at_call 70; exact Calls.quiet_of_same (l00In_tq _ _ _ _ h)) | (go_at_call 91; exact Calls.quiet_of_same (l06Deep_tq _ _ h2)))
  go_wp2_with fail
  have B0 := below_drewN (Below.refl w.heap.size w) nq
  generalize w.drewN nq = w0 at *
  clear hcell hs hm4
  go_loopw [3] (fun i W => ∃ j : Nat, j ≤ 17 ∧ i = .int .i8 j ∧ Hid (∀ q, q < j → g.hOk q) ∧ Below w.heap.size w W) (fun i _ => 17 - (intOf i).toNat)
  case atStart => exact ⟨0, by omega, rfl, Lib.hid (by omega), B0⟩
  case round =>
    clear B0
    obtain ⟨j, hj, rfl, hF, hB⟩ := hrel
    have HB := Lib.hid hB
    have rW := brow hB HA.out.row
    have z0 : wr.cell? ⟨k, 0, none⟩ = some (.int .i8 g.n) := by rw [cell_of_rowAt rW]; exact HA.out.is.get0
    have hlw := rowAt_lt rW
    by_cases hlt : j < 17
    · have c0 : wr.cell? ⟨k, 2 + j, none⟩ = some (.int .i8 (g.h j)) := by rw [cell_of_rowAt rW]; exact HA.out.is.getH hlt
      have x0 := HA.out.is.h0 j hlt
      have x1 := HA.out.is.h1 j hlt
      have j0 : 0 ≤ (j : Int) := by omega
      have j1 : (j : Int) < 17 := by omega
      have nxt : Hid (g.hOk j → ∀ q, q < j + 1 → g.hOk q) := Lib.hid fun hx q hq => by
        by_cases hqj : q < j
        · exact hF.out q hqj
        · obtain rfl : q = j := by omega
          exact hx
      by_cases hr : 0 ≤ g.h j ∧ g.h j ≤ 9
      · by_cases hn : (j : Int) < g.n
        · have hb : decide (g.n ≤ (j : Int)) = false := by simp; omega
          go_wp2_with fail
          refine (l00In_t _ _ _ _ hr).mono ?_
          rintro e w' ⟨rfl, rfl⟩
          go_wp2_with fail
          refine ⟨⟨j + 1, by omega, by go_num, Lib.hid (nxt.out ⟨hr.1, hr.2, .inl hn⟩), HB.out⟩, by simp [intOf]; omega⟩
        · have hb : decide (g.n ≤ (j : Int)) = true := by simp; omega
          by_cases hz : g.h j = 0
          · have hzb : (g.h j != 0) = false := by simp [hz]
            have HZ := Lib.hid hz
            clear hz
            go_wp2_with fail
            refine (l00In_t _ _ _ _ hr).mono ?_
            rintro e w' ⟨rfl, rfl⟩
            go_wp2_with fail
            refine ⟨⟨j + 1, by omega, by go_num, Lib.hid (nxt.out ⟨hr.1, hr.2, .inr HZ.out⟩), HB.out⟩, by simp [intOf]; omega⟩
          · have hzb : (g.h j != 0) = true := by simp [hz]
            have HX := Lib.hid (HN.out j hlt (fun o => by rcases o.2.2 with o | o <;> omega))
            clear hz
            go_wp2_with fail
            refine (l00In_t _ _ _ _ hr).mono ?_
            rintro e w' ⟨rfl, rfl⟩
            go_wp2_with fail
            go_ret
            exact ⟨by rw [HX.out]; rfl, HB.out⟩
      · have HX := Lib.hid (HN.out j hlt (fun o => hr ⟨o.1, o.2.1⟩))
        go_wp2_with fail
        refine (l00In_f _ _ _ _ hr).mono ?_
        rintro e w' ⟨rfl, rfl⟩
        go_wp2_with fail
        go_ret
        exact ⟨by rw [HX.out]; rfl, HB.out⟩
    · obtain rfl : j = 17 := by omega
      have hj1 : ¬ ((17 : Nat) : Int) < 17 := by omega
      go_wp2_with fail
      clear hj1 hlt hj
      have hF := Lib.hid (HH.out (fun i hi => hF.out i hi))
      go_loopw [4] (fun i W => ∃ j : Nat, j ≤ g.m ∧ i = .int .i64 j ∧ Hid (∀ q, q < j → g.pOk q) ∧ Below w.heap.size w W) (fun i _ => g.m - (intOf i).toNat)
      case atStart => exact ⟨0, by omega, rfl, Lib.hid (by omega), HB.out⟩
      case round =>
        clear HB rW z0 hlw
        obtain ⟨j, hj, rfl, hQ, hB⟩ := hrel
        have HB := Lib.hid hB
        have rW := brow hB HA.out.row
        have z0 : wr.cell? ⟨k, 0, none⟩ = some (.int .i8 g.n) := by rw [cell_of_rowAt rW]; exact HA.out.is.get0
        have z20 : wr.cell? ⟨k, 20, none⟩ = some (.slice a g.m cap) := by rw [cell_of_rowAt rW]; exact HA.out.is.getP
        have hlw := rowAt_lt rW
        by_cases hlt : j < g.m
        · obtain ⟨g', rfl, hg', hcs⟩ := (HA.out.pipes.below hB (Nat.le_refl _)).pipe hlt
          have c0 := (hcs j hlt).1
          have c1 := (hcs j hlt).2
          have HC := Lib.hid hcs
          obtain ⟨⟨b0, b1⟩, b2, b3⟩ := HA.out.is.p0 j hlt
          have j0 : 0 ≤ (j : Int) := by omega
          have j1 : (j : Int) < g.m := by omega
          have hws := hB.size
          have nxt : Hid (g.pOk j → ∀ q, q < j + 1 → g.pOk q) := Lib.hid fun hx q hq => by
            by_cases hqj : q < j
            · exact hQ.out q hqj
            · obtain rfl : q = j := by omega
              exact hx
          clear hcs hB
          go_wp2_with fail
          refine gen_world fun W hW => ?_
          have y0 : W.cell? ⟨wr.heap.size, 0, none⟩ = some (.int .i8 (g.p (j * 2))) := by rw [hW]; simp [go_sem]
          have y1 : W.cell? ⟨wr.heap.size, 1, none⟩ = some (.int .i16 (g.p (j * 2 + 1))) := by rw [hW]; simp [go_sem]
          have bW : Below wr.heap.size wr W := by rw [hW]; exact (Below.refl _ _).alloc (Nat.le_refl _) _
          have y2 : W.cell? ⟨k, 0, none⟩ = some (.int .i8 g.n) := (bW.cell (p := ⟨k, 0, none⟩) hlw).trans z0
          have y3 : W.cell? ⟨k, 20, none⟩ = some (.slice (some ⟨g', 0, none⟩) g.m cap) := (bW.cell (p := ⟨k, 20, none⟩) hlw).trans z20
          have BW := Lib.hid (bnext HB.out bW hws)
          have HC2 := Lib.hid (fun q hq => (bW.cell (p := ⟨g', q * 2, none⟩) hg').trans (HC.out q hq).1)
          clear hW bW c0 c1 z0 z20 hg'
          by_cases t0 : g.p (j * 2) < 0
          · have e0 : decide (g.p (j * 2) < 0) = true := by simp [t0]
            have HX := Lib.hid (HP.out j hlt (fun o => by have := o.1; omega))
            go_quiet (fail)
            go_wp2_with fail
            go_ret
            exact ⟨by rw [HX.out]; rfl, below_drewN BW.out _⟩
          have e0 : decide (g.p (j * 2) < 0) = false := by simp; omega
          by_cases t1 : g.n ≤ g.p (j * 2)
          · have e1 : decide (g.n ≤ g.p (j * 2)) = true := by simp [t1]
            have HX := Lib.hid (HP.out j hlt (fun o => by have := o.2.1; omega))
            go_quiet (fail)
            go_wp2_with fail
            go_ret
            exact ⟨by rw [HX.out]; rfl, below_drewN BW.out _⟩
          have e1 : decide (g.n ≤ g.p (j * 2)) = false := by simp; omega
          by_cases ht : 0 ≤ g.p (j * 2 + 1) ∧ g.p (j * 2 + 1) ≤ 1000
          rotate_left
          · have HX := Lib.hid (HP.out j hlt (fun o => ht ⟨o.2.2.1, o.2.2.2.1⟩))
            go_quiet ((go_at_call 91; first | exact Calls.quiet_of_same (l06Deep_tq _ _ ht) | exact Calls.quiet_of_same (l06Deep_fq _ _ ht)))
            go_wp2_with fail
            go_ret
            exact ⟨by rw [HX.out]; rfl, below_drewN BW.out _⟩
          by_cases tj : j = 0
          · have e2 : decide (0 < j) = false := by simp [tj]
            have e2' : ¬ 0 < j := by omega
            have TJ := Lib.hid tj
            clear tj
            go_quiet ((go_at_call 91; first | exact Calls.quiet_of_same (l06Deep_tq _ _ ht) | exact Calls.quiet_of_same (l06Deep_fq _ _ ht)))
            go_wp2_with fail
            refine ⟨⟨j + 1, by omega, by go_num, Lib.hid (nxt.out ⟨by omega, by omega, by omega, by omega, fun h => absurd h e2'⟩), below_drewN BW.out _⟩, by simp [intOf]; omega⟩
          have e2 : decide (0 < j) = true := by simp; omega
          have e2' : 0 < j := by omega
          have jm : ((j : Int) - 1).toNat = j - 1 := by omega
          have jm0 : 0 ≤ (j : Int) - 1 := by omega
          have jm1 : (j : Int) - 1 < g.m := by omega
          have y4 : W.cell? ⟨g', (j - 1) * 2, none⟩ = some (.int .i8 (g.p ((j - 1) * 2))) := HC2.out (j - 1) (by omega)
          by_cases tp : g.p (j * 2) ≤ g.p ((j - 1) * 2)
          · have e3 : decide (g.p (j * 2) ≤ g.p ((j - 1) * 2)) = true := by simp [tp]
            have HX := Lib.hid (HP.out j hlt (fun o => by have := o.2.2.2.2 (by omega); omega))
            go_quiet ((go_at_call 91; first | exact Calls.quiet_of_same (l06Deep_tq _ _ ht) | exact Calls.quiet_of_same (l06Deep_fq _ _ ht)))
            go_wp2_with fail
            go_ret
            exact ⟨by rw [HX.out]; rfl, below_drewN BW.out _⟩
          · have e3 : decide (g.p (j * 2) ≤ g.p ((j - 1) * 2)) = false := by simp; omega
            go_quiet ((go_at_call 91; first | exact Calls.quiet_of_same (l06Deep_tq _ _ ht) | exact Calls.quiet_of_same (l06Deep_fq _ _ ht)))
            go_wp2_with fail
            refine ⟨⟨j + 1, by omega, by go_num, Lib.hid (nxt.out ⟨by omega, by omega, by omega, by omega, fun _ => by omega⟩), below_drewN BW.out _⟩, by simp [intOf]; omega⟩
        · obtain rfl : j = g.m := by omega
          have HX := Lib.hid (hF.out (fun i hi => hQ.out i hi))
          go_wp2_with fail
          go_ret
          exact ⟨by rw [HX.out]; rfl, HB.out⟩
end Go.Proofs.Ytcdddngdjhjdbaa
