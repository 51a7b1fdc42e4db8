/- CutRoof: the model's side. -/
import Derived.Test.YtfkcjgeeklngiaaCutI
import Derived.Deep.RegionWith
namespace Go.Proofs.Ytfkcjgeeklngiaa
open Go.RowKit

set_option maxRecDepth 100000 in
set_option maxHeartbeats 4000000 in
theorem specCut_go (c F : Array Value) (r : Rf) (a n : Nat) (w : World) (hR : IsRoof c r) (ho : r.Ok) (ha : (a : Int) < r.h) (hn : 1 ≤ n) (han : (a : Int) + n ≤ r.h) (hF : cutA c r a n n = F) :
    Calls Try.prog 49 #[.agg c, .int .i64 a, .int .i64 n] w fun e w' => e = .returned (.tuple #[.agg F, .int .i64 0]) ∧ Below w.heap.size w w' := by
  have hc := hR.size
  have hzs := zroof_size
  have hzo := zroof_ones
  have h8 := ho.2.2.2.1
  have k0 := hR.wide (by omega)
  have k1 := hR.high (by omega)
  have p0 : rowAt ((w.alloc (.cells c 33)).alloc (.cells Try.zeroCells33 33)) w.heap.size = some c := (rowAt_alloc_past _ _ _ (by simp)).trans (rowAt_alloc_at _ _ _ _ rfl)
  have p1 : rowAt ((w.alloc (.cells c 33)).alloc (.cells Try.zeroCells33 33)) (w.heap.size + 1) = some Try.zeroCells33 := rowAt_alloc_at _ _ _ _ (by simp)
  have pB : Below w.heap.size w ((w.alloc (.cells c 33)).alloc (.cells Try.zeroCells33 33)) := ((Below.refl _ _).alloc (Nat.le_refl _) _).alloc (by simp) _
  obtain ⟨fo, fs⟩ := cutA_ones hR (a := a) (k := n) (n := n) (by omega) (by omega) (by omega)
  rw [hF] at fo fs
  have hF0 := cutA_zero hR (a := a) (n := n) (by omega) (by omega) (by omega)
  have e1 : IntKind.i64.wrap r.h = r.h := IntWalk.i64_in _ (by omega)
  have e2 : IntKind.i64.wrap (r.h - (a : Int)) = r.h - (a : Int) := IntWalk.i64_in _ (by omega)
  have e3 : IntKind.i8.wrap (n : Int) = (n : Int) := IntWalk.i8_in _ (by omega)
  have hby := r.by_bd a
  have e5 : IntKind.u8.wrap (r.by a) = r.by a := IntWalk.u8_in _ (by omega)
  have ht : r.told (inB a 0 (r.h - 1)) = 0 := by rw [inB_true (by omega)]; exact Rf.told_in ho
  have hin : inB (n : Int) 1 (r.h - (a : Int)) = true := inB_true (by omega)
  have hX0 : ((Try.zeroCells33.setIfInBounds 0 (.int .i8 r.w)).setIfInBounds 1 (.int .i8 (n : Int))).setIfInBounds 2 (.int .u8 (r.by a)) = cut0 r a n := rfl
  have X0s := (cut0_is hR (a := a) (n := n) (by omega) (by omega)).size
  have X0o := (cut0_is hR (a := a) (n := n) (by omega) (by omega)).ones
  have HR := Lib.hid hR
  have HF := Lib.hid hF
  have HF0 := Lib.hid hF0
  clear hF hF0
  generalize hZ : cut0 r a n = X at *
  go_enter Try.func49, Try.ntmps49
  go_wp2_with fail
  refine (l01Course_any w.heap.size c r a _ p0 hR).mono ?_
  rintro e w0 ⟨rfl, rfl⟩
  go_wp2_with fail
  refine (l01Told_any w.heap.size c r _ _ p0 hR).mono ?_
  rw [ht]
  rintro e w1 ⟨rfl, b1⟩
  have q0 := brow b1 p0
  have q1 := brow b1 p1
  have B1 := bnext pB b1 pB.size
  have lt0 := rowAt_lt q0
  have lt1 := rowAt_lt q1
  have c0 : w1.cell? ⟨w.heap.size, 0, none⟩ = some (.int .i8 r.w) := by rw [← k0]; exact (cell_of_rowAt q0 0).trans (Array.getElem?_eq_getElem (by omega))
  have c1 : w1.cell? ⟨w.heap.size, 1, none⟩ = some (.int .i8 r.h) := by rw [← k1]; exact (cell_of_rowAt q0 1).trans (Array.getElem?_eq_getElem (by omega))
  clear b1 p0 p1 pB
  go_wp2_with fail
  refine (l00In_q (n : Int) 1 (r.h - (a : Int)) _).mono ?_
  rw [hin]
  rintro e w2 ⟨rfl, rfl⟩
  go_wp2_with fail
  have n1 : w.heap.size ≠ w2.heap.size := by omega
  have n2 : w.heap.size + 1 ≠ w2.heap.size := by omega
  have n3 : w2.heap.size ≠ w.heap.size + 1 := by omega
  have ls := B1.size
  go_region_with ((go_at_call 83; (refine (l01By_q w.heap.size c r a _ (by first | exact q0 | exact (rowAt_alloc_past _ _ _ lt0).trans q0) hR (by omega)).mono ?_); rintro x wx ⟨rfl, rfl⟩))
  all_goals
    go_wp2_with fail
    refine gen_world fun W hW => ?_
    have r0 : rowAt W w.heap.size = some c := by rw [hW]; exact (rowAt_alloc_past w2 _ _ lt0).trans q0
    have r1 : rowAt W (w.heap.size + 1) = some Try.zeroCells33 := by rw [hW]; exact (rowAt_alloc_past w2 _ _ lt1).trans q1
    have r4 : rowAt W w2.heap.size = some X := by rw [hW]; exact rowAt_alloc_at w2 _ _ _ rfl
    have rB : Below w.heap.size w W := by rw [hW]; exact (B1.alloc B1.size _).drew
    clear hW q0 q1 B1 c0 c1 e1 e2 e5 hin ht
    go_loopw [10] (fun i W => ∃ k : Nat, k ≤ n ∧ i = .int .i64 k ∧ rowAt W w.heap.size = some c ∧ rowAt W (w.heap.size + 1) = some Try.zeroCells33 ∧ rowAt W w2.heap.size = some (cutA c r a k n) ∧ Below w.heap.size w W) (fun i _ => n - (intOf i).toNat)
    case atStart => exact ⟨0, by omega, rfl, r0, r1, by rw [HF0.out]; exact r4, rB⟩
    case round =>
      clear r0 r1 r4 rB
      obtain ⟨k, hk, rfl, r0, r1, r4, rB⟩ := hrel
      by_cases hlt : k < n
      · have e4 : IntKind.i64.wrap ((a : Int) + (k : Int)) = ((a + k : Nat) : Int) := by rw [Int.natCast_add]; exact IntWalk.i64_in _ (by omega)
        have e4' : IntKind.i64.wrap ((a : Int) + (k : Int)) = (a : Int) + (k : Int) := IntWalk.i64_in _ (by omega)
        have i0 : 0 ≤ (a : Int) + (k : Int) := by omega
        have i1 : (a : Int) + (k : Int) < 8 := by omega
        have i2 : ((a : Int) + (k : Int)).toNat = a + k := by omega
        have j0 : 0 ≤ (k : Int) := by omega
        have j1 : (k : Int) < 8 := by omega
        have gs := cutA_succ HR.out (a := a) (k := k) (n := n) (by omega) (by omega) (by omega)
        obtain ⟨co, cz⟩ := cutA_ones HR.out (a := a) (k := k) (n := n) (by omega) (by omega) (by omega)
        obtain ⟨no, nz⟩ := cutA_ones HR.out (a := a) (k := k + 1) (n := n) (by omega) (by omega) (by omega)
        have xo := HR.out.ones.extract (3 + (a + k) * 8) (3 + (a + k) * 8 + 8)
        have xs : (c.extract (3 + (a + k) * 8) (3 + (a + k) * 8 + 8)).size = 8 := by simp; omega
        have cx : 3 + (a + k) * 8 + 8 ≤ 67 := by omega
        have cy : 3 + k * 8 + 8 ≤ 67 := by omega
        generalize hG : cutA c r a (k + 1) n = G at *
        generalize cutA c r a k n = E at *
        have HG := Lib.hid hG
        clear hG
        clear e4
        go_wp2_with fail
        refine ⟨⟨k + 1, by omega, by go_num, (rowAt_setRow_ne _ _ _ _ n1).trans r0, (rowAt_setRow_ne _ _ _ _ n2).trans r1, ?_, below_setRow rB ls _⟩, by simp [intOf]; omega⟩
        rw [HG.out]
        exact rowAt_setRow_at _ _ _ (Option.isSome_iff_exists.2 ⟨_, r4⟩)
      · obtain rfl : k = n := by omega
        rw [HF.out] at r4
        go_wp2_with fail
        refine bodyPost_ret (v := .tuple #[.agg F, .int .i64 0]) (results_row2 (m := 67) rfl _ _ (w.heap.size + 1) _ _ rfl rfl (rowAt_setRow_at _ _ _ (Option.isSome_iff_exists.2 ⟨_, r1⟩)) Try.underlying33 rfl (by kernel_rfl) fs) rfl ⟨rfl, ?_⟩
        exact below_setRow rB (by omega) _
end Go.Proofs.Ytfkcjgeeklngiaa
