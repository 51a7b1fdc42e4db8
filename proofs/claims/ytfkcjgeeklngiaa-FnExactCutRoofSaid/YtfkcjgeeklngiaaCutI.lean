/- CutRoof: the program's side. -/
import Derived.Test.YtfkcjgeeklngiaaCutA
import Derived.RegionTactic
namespace Go.Proofs.Ytfkcjgeeklngiaa
open Go.RowKit

set_option maxRecDepth 100000 in
set_option maxHeartbeats 4000000 in
theorem implCut_go (c F : Array Value) (r : Rf) (a n : Nat) (w : World) (hR : IsRoof c r) (ho : r.Ok) (ha : (a : Int) < r.h) (hn : 1 ≤ n) (han : (a : Int) + n ≤ r.h) (hF : cutA c r a n n = F) :
    Calls Try.prog 50 #[.agg c, .int .i64 a, .int .i64 n] w fun e w' => e = .returned (.tuple #[.agg F, .int .i64 0]) ∧ Below w.heap.size w w' := by
  have hc := hR.size
  have hzs := zroof_size
  have hzo := zroof_ones
  have h8 := ho.2.2.2.1
  have k0 := hR.wide (by omega)
  have k1 := hR.high (by omega)
  have p0 : rowAt ((w.alloc (.cells c 33)).alloc (.cells Try.zeroCells33 33)) w.heap.size = some c := (rowAt_alloc_past _ _ _ (by simp)).trans (rowAt_alloc_at _ _ _ _ rfl)
  have p1 : rowAt ((w.alloc (.cells c 33)).alloc (.cells Try.zeroCells33 33)) (w.heap.size + 1) = some Try.zeroCells33 := rowAt_alloc_at _ _ _ _ (by simp)
  have pB : Below w.heap.size w ((w.alloc (.cells c 33)).alloc (.cells Try.zeroCells33 33)) := ((Below.refl _ _).alloc (Nat.le_refl _) _).alloc (by simp) _
  obtain ⟨fo, fs⟩ := cutA_ones hR (a := a) (k := n) (n := n) (by omega) (by omega) (by omega)
  rw [hF] at fo fs
  have e1 : IntKind.i64.wrap r.h = r.h := IntWalk.i64_in _ (by omega)
  have e2 : IntKind.i64.wrap (r.h - (a : Int)) = r.h - (a : Int) := IntWalk.i64_in _ (by omega)
  have e3 : IntKind.i8.wrap (n : Int) = (n : Int) := IntWalk.i8_in _ (by omega)
  have e4 : IntKind.i64.wrap ((a : Int) + (n : Int)) = (a : Int) + (n : Int) := IntWalk.i64_in _ (by omega)
  have d1 : decide ((n : Int) < 1) = false := by simp; omega
  have d2 : decide (r.h - (a : Int) < (n : Int)) = false := by simp; omega
  have a0 : 0 ≤ (a : Int) := by omega
  have a8 : (a : Int) ≤ 8 := by omega
  have an0 : 0 ≤ (a : Int) + (n : Int) := by omega
  have an1 : (a : Int) ≤ (a : Int) + (n : Int) := by omega
  have an8 : (a : Int) + (n : Int) ≤ 8 := by omega
  have hna : ¬ 8 = a := by omega
  have hnt : ((a : Int) + (n : Int)).toNat - a = n := by omega
  have ht : r.told (inB a 0 (r.h - 1)) = 0 := by rw [inB_true (by omega)]; exact Rf.told_in ho
  have X1 : IsRoof ((Try.zeroCells33.setIfInBounds 0 (.int .i8 r.w)).setIfInBounds 1 (.int .i8 (n : Int))) ⟨r.w, n, 0, fun _ => 0⟩ := (zroof_is.widened r.w hR.w0 hR.w1).highed n (by omega) (by omega)
  have X1o := X1.ones
  have X1s := X1.size
  have HR := Lib.hid hR
  go_enter Try.func50, Try.ntmps50
  go_wp2_with fail
  refine (checkCourse_any c r a _ hR).mono ?_
  rw [ht]
  rintro e w1 ⟨rfl, b1⟩
  have q0 := brow b1 p0
  have q1 := brow b1 p1
  have B1 := bnext pB b1 pB.size
  have lt0 := rowAt_lt q0
  have lt1 := rowAt_lt q1
  have c0 : w1.cell? ⟨w.heap.size, 0, none⟩ = some (.int .i8 r.w) := by rw [← k0]; exact (cell_of_rowAt q0 0).trans (Array.getElem?_eq_getElem (by omega))
  have c1 : w1.cell? ⟨w.heap.size, 1, none⟩ = some (.int .i8 r.h) := by rw [← k1]; exact (cell_of_rowAt q0 1).trans (Array.getElem?_eq_getElem (by omega))
  clear b1 p0 p1 pB
  go_wp2_with fail
  generalize hY : (Try.zeroCells33.setIfInBounds 0 (.int .i8 r.w)).setIfInBounds 1 (.int .i8 (n : Int)) = Y at *
  refine gen_callsC fun W hW => ?_
  have r0 : rowAt W w.heap.size = some c := by rw [hW]; exact (rowAt_alloc_past _ _ _ lt0).trans q0
  have r1 : rowAt W (w.heap.size + 1) = some Try.zeroCells33 := by rw [hW]; exact (rowAt_alloc_past _ _ _ lt1).trans q1
  have r4 : rowAt W w1.heap.size = some Y := by rw [hW]; exact rowAt_alloc_at _ _ _ _ rfl
  have rB : Below w.heap.size w W := by rw [hW]; exact B1.alloc B1.size _
  have n1 : w.heap.size ≠ w1.heap.size := by omega
  have n2 : w.heap.size + 1 ≠ w1.heap.size := by omega
  have n3 : w1.heap.size ≠ w.heap.size + 1 := by omega
  have ls := B1.size
  clear hW q0 q1 B1 c0 c1
  refine (shifted_any c r a _ hR (by omega)).mono ?_
  rintro e w2 ⟨rfl, b2⟩
  have q0 := brow b2 r0
  have q1 := brow b2 r1
  have q4 := brow b2 r4
  have B2 := bnext rB b2 rB.size
  have gcell := cell_of_rowAt q4
  have gfro := frozen_of_rowAt q4
  clear b2 r0 r1 r4 rB
  have hby := r.by_bd a
  by_cases hb : r.by a = 1
  · have hbb : (r.by a == 1) = true := by simp [hb]
    have hX0 : Y.setIfInBounds 2 (.int .u8 1) = cut0 r a n := by rw [← hY, ← hb]; rfl
    go_wp2_with fail
    refine gen_world fun W3 hW3 => ?_
    have r0 : rowAt W3 w.heap.size = some c := by rw [hW3]; exact (rowAt_setCell_ne _ _ _ _ _ n1).trans q0
    have r1 : rowAt W3 (w.heap.size + 1) = some Try.zeroCells33 := by rw [hW3]; exact (rowAt_setCell_ne _ _ _ _ _ n2).trans q1
    have r4 : rowAt W3 w1.heap.size = some (cut0 r a n) := by
      rw [hW3]
      have := rowAt_setCell_at w2 w1.heap.size 2 (.int .u8 1) (by rw [q4]; rfl)
      rw [q4, Option.getD_some, hX0] at this
      exact this
    have rB : Below w.heap.size w W3 := by rw [hW3]; exact B2.setCell (p := ⟨w1.heap.size, 2, none⟩) ls _
    clear hW3 q0 q1 q4 B2 gcell gfro hX0 hY
    have X0s := (cut0_is HR.out (a := a) (n := n) (by omega) (by omega)).size
    have X0o := (cut0_is HR.out (a := a) (n := n) (by omega) (by omega)).ones
    have hcp := run_copy_rowsN (P := Try.prog) W3.drew 115 115 3 23 w1.heap.size 3 8 8 w.heap.size (3 + a * 8) n (8 - a) n 8 (cut0 r a n) c Try.underlying115 (by kernel_rfl) r4 r0 (Nat.min_eq_left (by omega)).symm (by omega) (by omega) HR.out.ones
    rw [show splice (cut0 r a n) 3 (c.extract (3 + a * 8) (3 + a * 8 + n * 8)) = F from hF] at hcp
    go_still_tail 8, (by kernel_rfl)
    change wpList _ _ _ _ _ W3.drew
    repeat go_step
    clear hcp
    have s4 : rowAt (W3.drew.setRow w1.heap.size F) w1.heap.size = some F := rowAt_setRow_at _ _ _ (by rw [show rowAt W3.drew w1.heap.size = _ from r4]; rfl)
    have s1 : rowAt (W3.drew.setRow w1.heap.size F) (w.heap.size + 1) = some Try.zeroCells33 := (rowAt_setRow_ne _ _ _ _ n2).trans r1
    have sB : Below w.heap.size w (W3.drew.setRow w1.heap.size F) := below_setRow rB.drew ls _
    clear r0 r1 r4 rB
    go_wp2_with fail
    refine bodyPost_ret (v := .tuple #[.agg F, .int .i64 0]) (results_row2 (m := 67) rfl _ _ (w.heap.size + 1) _ _ rfl rfl (rowAt_setRow_at _ _ _ (Option.isSome_iff_exists.2 ⟨_, s1⟩)) Try.underlying33 rfl (by kernel_rfl) fs) rfl ⟨rfl, ?_⟩
    exact below_setRow sB (by omega) _
  · have hbb : (r.by a == 1) = false := by simp [hb]
    have hX0 : Y = cut0 r a n := by
      have h := cut0_is HR.out (a := a) (n := n) (by omega) (by omega)
      rw [show r.by a = 0 from by omega] at h
      exact X1.one h
    rw [hX0] at q4
    clear gcell gfro
    go_wp2_with fail
    refine gen_world fun W3 hW3 => ?_
    have r0 : rowAt W3 w.heap.size = some c := by rw [hW3]; exact q0
    have r1 : rowAt W3 (w.heap.size + 1) = some Try.zeroCells33 := by rw [hW3]; exact q1
    have r4 : rowAt W3 w1.heap.size = some (cut0 r a n) := by rw [hW3]; exact q4
    have rB : Below w.heap.size w W3 := by rw [hW3]; exact B2
    clear hW3 q0 q1 q4 B2 hX0 hY
    have X0s := (cut0_is HR.out (a := a) (n := n) (by omega) (by omega)).size
    have X0o := (cut0_is HR.out (a := a) (n := n) (by omega) (by omega)).ones
    have hcp := run_copy_rowsN (P := Try.prog) W3.drew 115 115 3 23 w1.heap.size 3 8 8 w.heap.size (3 + a * 8) n (8 - a) n 8 (cut0 r a n) c Try.underlying115 (by kernel_rfl) r4 r0 (Nat.min_eq_left (by omega)).symm (by omega) (by omega) HR.out.ones
    rw [show splice (cut0 r a n) 3 (c.extract (3 + a * 8) (3 + a * 8 + n * 8)) = F from hF] at hcp
    go_still_tail 8, (by kernel_rfl)
    change wpList _ _ _ _ _ W3.drew
    repeat go_step
    clear hcp
    have s4 : rowAt (W3.drew.setRow w1.heap.size F) w1.heap.size = some F := rowAt_setRow_at _ _ _ (by rw [show rowAt W3.drew w1.heap.size = _ from r4]; rfl)
    have s1 : rowAt (W3.drew.setRow w1.heap.size F) (w.heap.size + 1) = some Try.zeroCells33 := (rowAt_setRow_ne _ _ _ _ n2).trans r1
    have sB : Below w.heap.size w (W3.drew.setRow w1.heap.size F) := below_setRow rB.drew ls _
    clear r0 r1 r4 rB
    go_wp2_with fail
    refine bodyPost_ret (v := .tuple #[.agg F, .int .i64 0]) (results_row2 (m := 67) rfl _ _ (w.heap.size + 1) _ _ rfl rfl (rowAt_setRow_at _ _ _ (Option.isSome_iff_exists.2 ⟨_, s1⟩)) Try.underlying33 rfl (by kernel_rfl) fs) rfl ⟨rfl, ?_⟩
    exact below_setRow sB (by omega) _
end Go.Proofs.Ytfkcjgeeklngiaa
