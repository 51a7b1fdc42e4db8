/- areEnough: visits that keep all tiles from getting too old; mathematics and the program's side. -/
import Derived.Test.YtcdddngdjhjdbaaDoorIntsV
import Derived.Test.YtcdddngdjhjdbaaDoorNums
import Derived.Defers
import Derived.Recover
import Derived.WalkLawsBesides
import Derived.IntWalk
namespace Go.Proofs.YtcdddngdjhjdbaaDoor
open Go.RowKit

/-- When the oldest tile was new, ahead of the visit k. -/
def chkLast (v : Int) (vis : Nat → Int) : Nat → Int
  | 0 => - v
  | k + 1 => vis k
/-- The visit before the visit k. -/
def chkPrev (vis : Nat → Int) : Nat → Int
  | 0 => -1
  | k + 1 => vis k
def chkStep (v y z : Int) (vis : Nat → Int) (k : Nat) : Bool := decide (chkPrev vis k < vis k) && decide (vis k ≤ z) && decide (vis k - chkLast v vis k ≤ y)
/-- Visits are enough. -/
def chkB (v y z : Int) (vis : Nat → Int) (n : Nat) : Bool := (List.range n).all (chkStep v y z vis) && decide (z - chkLast v vis n ≤ y)
theorem chk_no {v y z : Int} {vis : Nat → Int} {n k : Nat} (hk : k < n) (h : chkStep v y z vis k = false) : chkB v y z vis n = false := by
  have : (List.range n).all (chkStep v y z vis) = false := by
    rw [List.all_eq_false]
    exact ⟨k, List.mem_range.2 hk, by simp [h]⟩
  unfold chkB
  rw [this]; rfl
theorem chk_end {v y z : Int} {vis : Nat → Int} {n : Nat} (h : ∀ k, k < n → chkStep v y z vis k = true) : chkB v y z vis n = decide (z - chkLast v vis n ≤ y) := by
  have : (List.range n).all (chkStep v y z vis) = true := List.all_eq_true.2 fun k hk => h k (List.mem_range.1 hk)
  unfold chkB
  rw [this]; rfl
theorem chk_step {v y z : Int} {vis : Nat → Int} {k : Nat} : chkStep v y z vis k = true ↔ (chkPrev vis k < vis k ∧ vis k ≤ z) ∧ vis k - chkLast v vis k ≤ y := by
  unfold chkStep; simp
theorem chk_stepF {v y z : Int} {vis : Nat → Int} {k : Nat} (h : ¬ ((chkPrev vis k < vis k ∧ vis k ≤ z) ∧ vis k - chkLast v vis k ≤ y)) : chkStep v y z vis k = false := by
  cases e : chkStep v y z vis k with
  | false => rfl
  | true => exact absurd (chk_step.1 e) h
theorem chk_bd {v y z : Int} {vis : Nat → Int} : ∀ k, (∀ j, j < k → chkStep v y z vis j = true) → -1 ≤ chkPrev vis k ∧ (k ≠ 0 → 0 ≤ chkPrev vis k ∧ chkPrev vis k ≤ z)
  | 0, _ => ⟨by simp [chkPrev], fun h => absurd rfl h⟩
  | k + 1, h => by
    have a := chk_bd k (fun j hj => h j (by omega))
    have b := chk_step.1 (h k (by omega))
    simp only [chkPrev]
    omega
theorem chk_bd2 {v y z : Int} {vis : Nat → Int} (hv : 0 ≤ v ∧ v ≤ 100) (hz : 0 ≤ z ∧ z ≤ 200) (k : Nat) (h : ∀ j, j < k → chkStep v y z vis j = true) : (-1 ≤ chkPrev vis k ∧ chkPrev vis k ≤ 200) ∧ (-100 ≤ chkLast v vis k ∧ chkLast v vis k ≤ 200) := by
  have a := chk_bd k h
  cases k with
  | zero => simp only [chkPrev, chkLast] at *; omega
  | succ k => simp only [chkPrev, chkLast] at *; omega

/-- The halt at a year that is no visit. -/
def noVis : Value := .iface 196 (.agg #[])
set_option maxRecDepth 100000 in
theorem expect_ok (x b z : Int) (w : World) (h : b < x ∧ x ≤ z) :
    Calls Tryd.prog 92 #[.int .i64 x, .int .i64 b, .int .i64 z] w fun e w' => e = .returned (.tuple #[]) ∧ w = w' := by
  have h1 : decide (x ≤ b) = false := by simp; omega
  have h2 : decide (z < x) = false := by simp; omega
  have h3 : ¬ x ≤ b := by omega
  have h4 : ¬ z < x := by omega
  clear h
  go_enter Tryd.func92, Tryd.ntmps92
  go_wp2_with fail
  go_end0
  exact ⟨rfl, rfl⟩
set_option maxRecDepth 100000 in
theorem expect_no (x b z : Int) (w : World) (h : ¬ (b < x ∧ x ≤ z)) :
    Calls Tryd.prog 92 #[.int .i64 x, .int .i64 b, .int .i64 z] w fun e w' => e = .panicked [{ v := noVis, recovered := false }] ∧ w = w' := by
  unfold noVis
  by_cases h1 : x ≤ b
  · have h2 : decide (x ≤ b) = true := by simp [h1]
    clear h
    go_enter Tryd.func92, Tryd.ntmps92
    go_wp2_with fail
    exact ⟨rfl, rfl, rfl⟩
  · have h2 : decide (x ≤ b) = false := by simp; omega
    have h3 : z < x := by omega
    have h4 : decide (z < x) = true := by simp [h3]
    clear h
    go_enter Tryd.func92, Tryd.ntmps92
    go_wp2_with fail
    exact ⟨rfl, rfl, rfl⟩

@[go_sem] theorem as_halt (w : World) : (Instr.typeAssert (.iface 196 (.agg #[])) 20 151 true).run Tryd.prog w = .ok (.tuple #[.iface 196 (.agg #[]), .bool true]) w := by kernel_rfl
@[go_sem] theorem as_haltN (w : World) : (Instr.typeAssert .nilIface 20 151 true).run Tryd.prog w = .ok (.tuple #[.nilIface, .bool false]) w := by kernel_rfl
@[go_sem] theorem at_enough (w : World) : (callMethod (.iface 196 (.agg #[])) "loop.example/g01376/impl.enough" #[]).run Tryd.prog w = .ok (.enter 203 #[.agg #[]]) w := by kernel_rfl
theorem enough_any (w : World) :
    Calls Tryd.prog 203 #[.agg #[]] w fun e w' => e = .returned (.bool false) ∧ Below w.heap.size w w' := by
  go_enter Tryd.func203, Tryd.ntmps203
  go_wp2_with fail
  go_ret
  exact ⟨rfl, by first | exact Below.refl _ _ | exact (Below.refl _ _).alloc (Nat.le_refl _) _⟩

theorem halt_idle (p : Addr) (w : World) :
    CallsD Tryd.prog 91 #[.pointer (some p)] .returning w fun e u' w' => e = .returned (.tuple #[]) ∧ u' = .returning ∧ w' = w := by
  refine callsD_of_wpS Tryd.func91 rfl fun c₀ cs hu => ?_
  apply wpS_seq
  apply wpS_region
  simp [wpOpsS, go_sem, recoverD, hu, Tryd.ntmps91, Exit.thenS]
  apply wpS_seq
  apply wpS_region
  simp [wpOpsS, go_sem, Exit.thenS]
  refine wpS_cond (t := false) (by simp [Act.eval, Array.replicate]) ?_
  simp only [Bool.false_eq_true, if_false]
  refine wpS_of_wp (wp_skip ?_)
  cases c₀
  simp_all [bodyPostS, results, Tryd.results91]
theorem halt_stops (n : Nat) (b : Bool) (older : List PanicEntry) (w : World) (hr : rowAt w n = some #[.bool b]) :
    CallsD Tryd.prog 91 #[.pointer (some ⟨n, 0, none⟩)] (.panicking ({ v := noVis, recovered := false } :: older)) w fun e u' w' =>
      e = .returned (.tuple #[]) ∧ u' = .panicking ({ v := noVis, recovered := true } :: older) ∧ rowAt w' n = some #[.bool false] ∧ ∀ B, B ≤ n → Below B w w' := by
  unfold noVis
  have hn := rowAt_lt hr
  refine callsD_of_wpS Tryd.func91 rfl fun c₀ cs hu => ?_
  apply wpS_seq
  apply wpS_region
  simp [wpOpsS, go_sem, recoverD, hu, Tryd.ntmps91, Exit.thenS]
  apply wpS_seq
  apply wpS_region
  simp [wpOpsS, go_sem, Exit.thenS]
  refine wpS_cond (t := true) (by simp [Act.eval, Array.replicate]) ?_
  simp only [if_true]
  refine wpS_of_wp ?_
  go_wp2_with fail
  refine (enough_any _).mono ?_
  rintro e w1 ⟨rfl, b1⟩
  have r1 := brow b1 hr
  have c1 := cell_of_rowAt r1 0
  have f1 := frozen_of_rowAt r1 0
  have l1 := rowAt_lt r1
  simp at c1
  go_wp2_with fail
  have R := rowAt_setCell_at w1 n 0 (.bool false) (by rw [r1]; rfl)
  rw [r1, Option.getD_some] at R
  have hbel : ∀ B, B ≤ n → Below B w (w1.setCell ⟨n, 0, none⟩ (.bool false)) := fun B hB => ((Below.refl B w).trans (b1.mono (by omega))).setCell (p := ⟨n, 0, none⟩) hB _
  cases c₀
  simp_all [bodyPostS, results, Tryd.results91]

set_option maxRecDepth 100000 in
set_option maxHeartbeats 2000000 in
theorem areEnough_any (b n : Nat) (u : Value) (vis : Nat → Int) (v y z : Int) (w : World) (hu : IsList w b u 1 n (fun i => .int .i64 (vis i))) (hb : ∀ i, i < n → -9223372036854775808 ≤ vis i ∧ vis i ≤ 9223372036854775807) (hv : 0 ≤ v ∧ v ≤ 100) (hy : 1 ≤ y ∧ y ≤ 100) (hz : 0 ≤ z ∧ z ≤ 200) (hn : n ≤ 200) :
    Calls Tryd.prog 59 #[u, .int .i64 v, .int .i64 y, .int .i64 z] w fun e w' => e = .returned (.bool (chkB v y z vis n)) ∧ Below w.heap.size w w' := by
  have hmf : ∀ (fn : Fn) (first cap : Array Value) (w : World), (Instr.makeFunc fn first cap).run Tryd.prog w = .ok (.func fn first cap) w := fun _ _ _ _ => rfl
  have HU := Lib.hid hu
  have HB0 := Lib.hid hb
  obtain ⟨av, cv, rfl⟩ := hu.shape
  clear hu hb
  have HEND := Lib.hid (fun h => chk_end (v := v) (y := y) (z := z) (vis := vis) (n := n) h)
  have HNO := Lib.hid (fun k hk h => chk_no (v := v) (y := y) (z := z) (vis := vis) (n := n) (k := k) hk h)
  have HBD := Lib.hid (fun k h => chk_bd2 (y := y) (vis := vis) hv hz k h)
  go_enter_defers Tryd.func59, Tryd.ntmps59
  go_wp2_with fail
  refine gen_world fun W hW => ?_
  have q0 : rowAt W w.heap.size = some #[.bool false] := by rw [hW]; exact rowAt_alloc_at _ _ _ _ rfl
  have BW : Below w.heap.size w W := by rw [hW]; exact (Below.refl _ _).alloc (Nat.le_refl _) _
  clear hW
  go_loopw [9, 10, 12, 18] (fun a p _ i V => ∃ k : Nat, k ≤ n ∧ i = .int .i64 k ∧ a = .int .i64 (chkLast v vis k) ∧ p = .int .i64 (chkPrev vis k) ∧ Hid (∀ j, j < k → chkStep v y z vis j = true) ∧ rowAt V w.heap.size = some #[.bool false] ∧ Below w.heap.size w V) (fun _ _ _ i _ => n - (intOf i).toNat)
  case atStart => exact ⟨0, by omega, rfl, rfl, rfl, Lib.hid (fun j hj => by omega), q0, BW⟩
  case round =>
    clear q0 BW
    obtain ⟨k, hk, rfl, rfl, rfl, hF, q0, hB⟩ := hrel
    obtain ⟨⟨p0, p1⟩, l0, l1⟩ := HBD.out k hF.out
    have lw := rowAt_lt q0
    have fz := frozen_of_rowAt q0 0
    have cz : wr.cell? ⟨w.heap.size, 0, none⟩ = some (.bool false) := by rw [cell_of_rowAt q0]; rfl
    by_cases hlt : k < n
    · obtain ⟨g, rfl, c0⟩ : ∃ g, av = some ⟨g, 0, none⟩ ∧ wr.cell? ⟨g, k, none⟩ = some (.int .i64 (vis k)) := by
        rcases (HU.out.below hB (Nat.le_refl _)) with ⟨h0, _⟩ | ⟨g', cap', cur', e, hg, hr', hs', hf'⟩
        · omega
        · cases e
          exact ⟨g', rfl, by rw [cell_of_rowAt hr']; exact hf' _ (by omega)⟩
      have k0 : 0 ≤ (k : Int) := by omega
      have k1 : (k : Int) < n := by omega
      obtain ⟨x0, x1⟩ := HB0.out k hlt
      have HL := Lib.hid (show chkLast v vis (k + 1) = vis k from rfl)
      have HP := Lib.hid (show chkPrev vis (k + 1) = vis k from rfl)
      have HY := Lib.hid (fun h => chk_step (v := v) (y := y) (z := z) (vis := vis) (k := k) |>.2 h)
      have HN := Lib.hid (fun h => chk_stepF (v := v) (y := y) (z := z) (vis := vis) (k := k) h)
      generalize vis k = x at *
      generalize chkLast v vis k = a at *
      generalize chkPrev vis k = p at *
      by_cases he : p < x ∧ x ≤ z
      · obtain ⟨he1, he2⟩ := he
        have ey : IntKind.i64.wrap (x - a) = x - a := IntWalk.i64_in _ (by omega)
        by_cases hl : x - a ≤ y
        · have hd : decide (y < x - a) = false := by simp; omega
          have HS := Lib.hid (HY.out ⟨⟨he1, he2⟩, hl⟩)
          clear ey
          go_wp2_with fail
          refine (expect_ok x p z _ ⟨he1, he2⟩).mono ?_
          rintro e w5 ⟨rfl, rfl⟩
          go_wp2_with fail
          refine ⟨⟨k + 1, by omega, by go_num, by rw [HL.out], by rw [HP.out], Lib.hid (fun j hj => ?_), q0, hB⟩, by simp [intOf]; omega⟩
          by_cases ej : j < k
          · exact hF.out j ej
          · obtain rfl : j = k := by omega
            exact HS.out
        · have hd : decide (y < x - a) = true := by simp; omega
          have HS := Lib.hid (HNO.out k hlt (HN.out (fun h => hl h.2)))
          clear ey
          go_wp2_with fail
          refine (expect_ok x p z _ ⟨he1, he2⟩).mono ?_
          rintro e w5 ⟨rfl, rfl⟩
          go_wp2_with fail
          refine leaves_cons (f := 91) (args := #[.pointer (some ⟨w.heap.size, 0, none⟩)]) (by simp) (by simp [go_sem]) ?_
          refine (halt_idle _ _).mono ?_
          rintro e u' w9 ⟨rfl, rfl, rfl⟩
          show Leaves _ _ _ _ [] (settle .returning) _
          simp only [Leaves, settle]
          refine ⟨.bool false, ?_, by rw [HS.out], hB.setCell (p := ⟨w.heap.size, 0, none⟩) (Nat.le_refl _) _⟩
          have R := rowAt_setCell_at wr w.heap.size 0 (.bool false) (by rw [q0]; rfl)
          rw [q0, Option.getD_some] at R
          have c9 : (wr.setCell ⟨w.heap.size, 0, none⟩ (.bool false)).cell? ⟨w.heap.size, 0, none⟩ = some (.bool false) := by rw [cell_of_rowAt R]; rfl
          simp [results, Tryd.results59, go_sem, c9]
      · have HS := Lib.hid (HNO.out k hlt (HN.out (fun h => he h.1)))
        go_wp2_with fail
        refine (expect_no x p z _ he).mono ?_
        rintro e w5 ⟨rfl, rfl⟩
        go_wp2_with fail
        refine leaves_cons (f := 91) (args := #[.pointer (some ⟨w.heap.size, 0, none⟩)]) (by simp) (by simp [go_sem]) ?_
        refine (halt_stops w.heap.size false [] _ q0).mono ?_
        rintro e u' w9 ⟨rfl, rfl, r9, b9⟩
        have c9 := cell_of_rowAt r9 0
        simp at c9
        have B9 := hB.trans (b9 w.heap.size (Nat.le_refl _))
        show Leaves _ _ _ _ [] (settle _) _
        simp only [settle]
        refine ⟨.bool false, ?_, by rw [HS.out], B9⟩
        simp [results, Tryd.results59, go_sem, c9]
    · obtain rfl : k = n := by omega
      have ez : IntKind.i64.wrap (z - chkLast v vis k) = z - chkLast v vis k := IntWalk.i64_in _ (by omega)
      have HE := Lib.hid (HEND.out hF.out)
      generalize chkLast v vis k = a at *
      go_wp2_with fail
      refine leaves_cons (f := 91) (args := #[.pointer (some ⟨w.heap.size, 0, none⟩)]) (by simp) (by simp [go_sem]) ?_
      refine (halt_idle _ _).mono ?_
      rintro e u' w9 ⟨rfl, rfl, rfl⟩
      show Leaves _ _ _ _ [] (settle .returning) _
      simp only [Leaves, settle]
      refine ⟨.bool (decide (z - a ≤ y)), ?_, by rw [HE.out], hB.setCell (p := ⟨w.heap.size, 0, none⟩) (Nat.le_refl _) _⟩
      have R := rowAt_setCell_at wr w.heap.size 0 (.bool (decide (z - a ≤ y))) (by rw [q0]; rfl)
      rw [q0, Option.getD_some] at R
      have c9 : (wr.setCell ⟨w.heap.size, 0, none⟩ (.bool (decide (z - a ≤ y)))).cell? ⟨w.heap.size, 0, none⟩ = some (.bool (decide (z - a ≤ y))) := by rw [cell_of_rowAt R]; rfl
      simp [results, Tryd.results59, go_sem, c9]
end Go.Proofs.YtcdddngdjhjdbaaDoor
