/- MendAll: both sides. -/
import Derived.Test.YtoibolmippfcgaaMended
import Derived.Test.YtoibolmippfcgaaTiles
import Derived.Test.YtoibolmippfcgaaRunS
import Derived.Deep.RegionHeld3
import Derived.IntWalk
namespace Go.Proofs.Ytoibolmippfcgaa
open Go.RowKit

noncomputable def Rf.maN (r : Rf) : Int := if r.ok = true then r.w * r.h - ((r.ofKind 0 r.all).length : Int) else 0
noncomputable def Rf.maA (r : Rf) (c : Array Value) : Array Value := if r.ok = true then bareC c else Try.zeroCells29
noncomputable def Rf.maR (r : Rf) : Rf := if r.ok = true then r.bare else ⟨0, 0, 0, fun _ => 0⟩
noncomputable def Rf.okc (r : Rf) : Int := if r.ok = true then 0 else 1
theorem Rf.maA_is {r : Rf} {c : Array Value} (hR : IsRoof c r) : IsRoof (r.maA c) r.maR := by
  unfold Rf.maA Rf.maR
  split
  · exact hR.bare
  · exact zroof_is
theorem Rf.area {r : Rf} (ho : r.Ok) : 0 ≤ r.w * r.h ∧ r.w * r.h ≤ 64 := by
  obtain ⟨a, ha⟩ := Int.eq_ofNat_of_zero_le (show 0 ≤ r.w by have := ho.1; omega)
  obtain ⟨b, hb⟩ := Int.eq_ofNat_of_zero_le (show 0 ≤ r.h by have := ho.2.2.1; omega)
  have h1 := ho.2.1
  have h2 := ho.2.2.2.1
  have : a * b ≤ 8 * 8 := Nat.mul_le_mul (by omega) (by omega)
  rw [ha, hb]
  constructor
  · exact Int.mul_nonneg (by omega) (by omega)
  · have h3 : ((a : Int) * b) = ((a * b : Nat) : Int) := by simp
    rw [h3]; omega

theorem maKeep {n B : Nat} {w W w1 : World} {c : Array Value} {x y : Value} (b : Below W.heap.size W w1) (h : rowAt W n = some c ∧ W.cell? ⟨n, 0, none⟩ = some x ∧ W.cell? ⟨n, 1, none⟩ = some y ∧ Below B w W ∧ B ≤ W.heap.size) :
    rowAt w1 n = some c ∧ w1.cell? ⟨n, 0, none⟩ = some x ∧ w1.cell? ⟨n, 1, none⟩ = some y ∧ Below B w w1 ∧ B ≤ w1.heap.size :=
  ⟨brow b h.1, (b.cell (p := ⟨n, 0, none⟩) (rowAt_lt h.1)).trans h.2.1, (b.cell (p := ⟨n, 1, none⟩) (rowAt_lt h.1)).trans h.2.2.1, bnext h.2.2.2.1 b h.2.2.2.2, Nat.le_trans h.2.2.2.2 b.size⟩
theorem maSet {B : Nat} {w W : World} {c X : Array Value} (h : rowAt W B = some c ∧ Below B w W ∧ B ≤ W.heap.size) : rowAt (W.setRow (B + 1) X) B = some c ∧ Below B w (W.setRow (B + 1) X) ∧ B ≤ (W.setRow (B + 1) X).heap.size :=
  ⟨(rowAt_setRow_ne _ _ _ _ (by omega)).trans h.1, below_setRow h.2.1 (by omega) _, by simpa using h.2.2⟩
theorem maRow {n B : Nat} {w W : World} {c : Array Value} {x y : Value} (h : rowAt W n = some c ∧ W.cell? ⟨n, 0, none⟩ = some x ∧ W.cell? ⟨n, 1, none⟩ = some y ∧ Below B w W ∧ B ≤ W.heap.size) : rowAt W n = some c := h.1

set_option maxRecDepth 100000 in
set_option maxHeartbeats 2000000 in
theorem specMendAll_any (c : Array Value) (r : Rf) (w : World) (hR : IsRoof c r) :
    Calls Try.prog 20 #[.agg c] w fun e w' => e = .returned (.tuple #[.agg (r.maA c), .int .i64 r.maN, .int .i64 r.okc]) ∧ Below w.heap.size w w' := by
  have hc := hR.size
  have hzs := zroof_size
  have hzo := zroof_ones
  have p0 : rowAt ((w.alloc (.cells c 29)).alloc (.cells Try.zeroCells29 29)) w.heap.size = some c := (rowAt_alloc_past _ _ _ (by simp)).trans (rowAt_alloc_at _ _ _ _ rfl)
  have p1 : rowAt ((w.alloc (.cells c 29)).alloc (.cells Try.zeroCells29 29)) (w.heap.size + 1) = some Try.zeroCells29 := rowAt_alloc_at _ _ _ _ (by simp)
  have pB : Below w.heap.size w ((w.alloc (.cells c 29)).alloc (.cells Try.zeroCells29 29)) := ((Below.refl _ _).alloc (Nat.le_refl _) _).alloc (by simp) _
  by_cases ho : r.Ok
  · have e1 : r.maA c = bareC c := by unfold Rf.maA; rw [if_pos (Rf.ok_true ho)]
    have e2 : r.maN = r.w * r.h - ((r.ofKind 0 r.all).length : Int) := by unfold Rf.maN; rw [if_pos (Rf.ok_true ho)]
    have e3 : r.okc = 0 := by unfold Rf.okc; rw [if_pos (Rf.ok_true ho)]
    rw [e1, e2, e3]
    clear e1 e2 e3
    obtain ⟨a0, a1⟩ := Rf.area ho
    have hl := Nat.le_trans (r.ofKind_len (k := 0) r.all) (Rf.all_le ho)
    have hbo := hR.bare.ones
    have hbs := hR.bare.size
    have hbo1 := hbo
    unfold bareC at hbo1
    rw [← z64_lit] at hbo1
    have o64 := ones64
    have e4 : IntKind.i64.wrap r.w = r.w := IntWalk.i64_in _ (by have := ho.1; have := ho.2.1; omega)
    have e5 : IntKind.i64.wrap r.h = r.h := IntWalk.i64_in _ (by have := ho.2.2.1; have := ho.2.2.2.1; omega)
    have e6 : IntKind.i64.wrap (r.w * r.h) = r.w * r.h := IntWalk.i64_in _ (by omega)
    have e7 : IntKind.i64.wrap (r.w * r.h - ((r.ofKind 0 r.all).length : Int)) = r.w * r.h - ((r.ofKind 0 r.all).length : Int) := IntWalk.i64_in _ (by omega)
    have k0 := hR.wide (by omega)
    have k1 := hR.high (by omega)
    have CT := fun w h => l01Tiles_ok w.heap.size c r 0 w h hR ho
    go_enter Try.func20, Try.ntmps20
    go_wp2_with fail
    refine (l01Ok_t w.heap.size c r _ p0 hR ho).mono ?_
    rintro e w1 ⟨rfl, b1⟩
    have q0 := brow b1 p0
    have q1 := brow b1 p1
    have B1 := bnext pB b1 pB.size
    clear b1 p0 p1 pB CT
    have q1d : rowAt w1.drew (w.heap.size + 1) = some Try.zeroCells29 := q1
    go_wp2_with fail
    go_region_held3 (fun w' => rowAt w' w.heap.size = some c ∧ w'.cell? ⟨w.heap.size, 0, none⟩ = some (.int .i8 r.w) ∧ w'.cell? ⟨w.heap.size, 1, none⟩ = some (.int .i8 r.h) ∧ Below w.heap.size w w' ∧ w.heap.size ≤ w'.heap.size)
      (first | exact ⟨q0, by rw [← k0]; exact (cell_of_rowAt q0 0).trans (Array.getElem?_eq_getElem (by omega)), by rw [← k1]; exact (cell_of_rowAt q0 1).trans (Array.getElem?_eq_getElem (by omega)), B1.drew, B1.size⟩ | exact maKeep (by assumption) (by assumption))
      (first | (go_at_call 41; (refine (l01Tiles_ok w.heap.size c r 0 _ (maRow (by assumption)) hR ho).mono ?_); rintro x wx ⟨v, rfl, lx, bx⟩; have q2 := brow bx q1d; obtain ⟨va, vc, rfl⟩ := lx.shape))
    rename_i g
    obtain ⟨g0, _, _, gB, gs⟩ := g
    clear lx bx q1d q0 q1 B1
    have lt0 := rowAt_lt g0
    have lt1 := rowAt_lt q2
    have hne : w.heap.size + 1 ≠ w.heap.size := by omega
    go_wp2_with fail
    refine bodyPost_ret (v := .tuple #[.agg (bareC c), .int .i64 (r.w * r.h - ((r.ofKind 0 r.all).length : Int)), .int .i64 0]) (results_row3 (m := 67) rfl _ _ (w.heap.size + 1) _ _ _ rfl rfl rfl ((rowAt_setRow_at _ _ _ (by simp [go_sem, q2])).trans (by rw [z64_lit]; rfl)) Try.underlying29 rfl (by kernel_rfl) hbs) rfl ⟨rfl, ?_⟩
    exact below_setRow (below_setRow gB (Nat.le_refl _) _) (by omega) _
  · have e1 : r.maA c = Try.zeroCells29 := by unfold Rf.maA; rw [Rf.ok_false ho]; rfl
    have e2 : r.maN = 0 := by unfold Rf.maN; rw [Rf.ok_false ho]; rfl
    have e3 : r.okc = 1 := by unfold Rf.okc; rw [Rf.ok_false ho]; rfl
    rw [e1, e2, e3]
    clear e1 e2 e3
    go_enter Try.func20, Try.ntmps20
    go_wp2_with fail
    refine (l01Ok_f w.heap.size c r _ p0 hR ho).mono ?_
    rintro e w1 ⟨rfl, b1⟩
    have q1 := brow b1 p1
    have B1 := bnext pB b1 pB.size
    clear b1 p0 p1 pB
    go_wp2_with fail
    refine bodyPost_ret (v := .tuple #[.agg Try.zeroCells29, .int .i64 0, .int .i64 1]) (results_row3 (m := 67) rfl _ _ (w.heap.size + 1) _ _ _ rfl rfl rfl (rowAt_setRow_at _ _ _ (by simp [q1])) Try.underlying29 rfl (by kernel_rfl) hzs) rfl ⟨rfl, ?_⟩
    exact below_setRow B1 (by omega) _

set_option maxRecDepth 100000 in
set_option maxHeartbeats 2000000 in
theorem implMendAll_any (c : Array Value) (r : Rf) (w : World) (hR : IsRoof c r) :
    Calls Try.prog 21 #[.agg c] w fun e w' => e = .returned (.tuple #[.agg (r.maA c), .int .i64 r.maN, .int .i64 r.okc]) ∧ Below w.heap.size w w' := by
  have hc := hR.size
  have hzs := zroof_size
  have hzo := zroof_ones
  have p0 : rowAt ((w.alloc (.cells c 29)).alloc (.cells Try.zeroCells29 29)) w.heap.size = some c := (rowAt_alloc_past _ _ _ (by simp)).trans (rowAt_alloc_at _ _ _ _ rfl)
  have p1 : rowAt ((w.alloc (.cells c 29)).alloc (.cells Try.zeroCells29 29)) (w.heap.size + 1) = some Try.zeroCells29 := rowAt_alloc_at _ _ _ _ (by simp)
  have pB : Below w.heap.size w ((w.alloc (.cells c 29)).alloc (.cells Try.zeroCells29 29)) := ((Below.refl _ _).alloc (Nat.le_refl _) _).alloc (by simp) _
  by_cases ho : r.Ok
  · have e1 : r.maA c = bareC c := by unfold Rf.maA; rw [if_pos (Rf.ok_true ho)]
    have e2 : r.maN = r.w * r.h - ((r.ofKind 0 r.all).length : Int) := by unfold Rf.maN; rw [if_pos (Rf.ok_true ho)]
    have e3 : r.okc = 0 := by unfold Rf.okc; rw [if_pos (Rf.ok_true ho)]
    rw [e1, e2, e3]
    clear e1 e2 e3
    obtain ⟨a0, a1⟩ := Rf.area ho
    have hl := Nat.le_trans (r.ofKind_len (k := 0) r.all) (Rf.all_le ho)
    have hbo := hR.bare.ones
    have hbs := hR.bare.size
    have e4 : IntKind.i64.wrap r.w = r.w := IntWalk.i64_in _ (by have := ho.1; have := ho.2.1; omega)
    have e5 : IntKind.i64.wrap r.h = r.h := IntWalk.i64_in _ (by have := ho.2.2.1; have := ho.2.2.2.1; omega)
    have e6 : IntKind.i64.wrap (r.w * r.h) = r.w * r.h := IntWalk.i64_in _ (by omega)
    have e7 : IntKind.i64.wrap (r.w * r.h - ((r.ofKind 0 r.all).length : Int)) = r.w * r.h - ((r.ofKind 0 r.all).length : Int) := IntWalk.i64_in _ (by omega)
    have k0 := hR.wide (by omega)
    have k1 := hR.high (by omega)
    have CM := fun w => mended_any c r w hR
    have CP := fun w => placesOf_ok c r 0 w hR ho
    generalize bareC c = X at *
    go_enter Try.func21, Try.ntmps21
    go_wp2_with fail
    refine (implValid_t c r _ hR ho).mono ?_
    rintro e w1 ⟨rfl, b1⟩
    have q0 := brow b1 p0
    have q1 := brow b1 p1
    have B1 := bnext pB b1 pB.size
    have c0 : w1.cell? ⟨w.heap.size, 0, none⟩ = some (.int .i8 r.w) := by rw [← k0]; exact (cell_of_rowAt q0 0).trans (Array.getElem?_eq_getElem (by omega))
    have c1 : w1.cell? ⟨w.heap.size, 1, none⟩ = some (.int .i8 r.h) := by rw [← k1]; exact (cell_of_rowAt q0 1).trans (Array.getElem?_eq_getElem (by omega))
    clear b1 p0 p1 pB
    have q1d : rowAt w1.drew (w.heap.size + 1) = some Try.zeroCells29 := q1
    go_wp2_with fail
    clear c0 c1 k0 k1
    go_region_held3 (fun w' => rowAt w' w.heap.size = some c ∧ Below w.heap.size w w' ∧ w.heap.size ≤ w'.heap.size)
      (first | exact ⟨q0, B1.drew, B1.size⟩ | exact keep1 (by assumption) (by assumption) | exact maSet (by assumption))
      (first | (go_at_call 48; (refine (CM _).mono ?_); rintro x wx ⟨rfl, bx⟩; have q2 := brow bx q1d) | (go_at_call 44; (refine (CP _).mono ?_); rintro x wx ⟨v, rfl, lx, bx⟩; have q3 := brow bx q2; obtain ⟨va, vc, rfl⟩ := lx.shape))
    rename_i g
    go_wp2_with fail
    refine bodyPost_ret (v := .tuple #[.agg X, .int .i64 (r.w * r.h - ((r.ofKind 0 r.all).length : Int)), .int .i64 0]) (results_row3 (m := 67) rfl _ _ (w.heap.size + 1) _ _ _ rfl rfl rfl (rowAt_setRow_at _ _ _ (by rw [q3]; rfl)) Try.underlying29 rfl (by kernel_rfl) hbs) rfl ⟨rfl, ?_⟩
    exact g.2.1
  · have e1 : r.maA c = Try.zeroCells29 := by unfold Rf.maA; rw [Rf.ok_false ho]; rfl
    have e2 : r.maN = 0 := by unfold Rf.maN; rw [Rf.ok_false ho]; rfl
    have e3 : r.okc = 1 := by unfold Rf.okc; rw [Rf.ok_false ho]; rfl
    rw [e1, e2, e3]
    clear e1 e2 e3
    go_enter Try.func21, Try.ntmps21
    go_wp2_with fail
    refine (implValid_f c r _ hR ho).mono ?_
    rintro e w1 ⟨rfl, b1⟩
    have q1 := brow b1 p1
    have B1 := bnext pB b1 pB.size
    clear b1 p0 p1 pB
    go_wp2_with fail
    refine bodyPost_ret (v := .tuple #[.agg Try.zeroCells29, .int .i64 0, .int .i64 1]) (results_row3 (m := 67) rfl _ _ (w.heap.size + 1) _ _ _ rfl rfl rfl (rowAt_setRow_at _ _ _ (by simp [q1])) Try.underlying29 rfl (by kernel_rfl) hzs) rfl ⟨rfl, ?_⟩
    exact below_setRow B1 (by omega) _
end Go.Proofs.Ytoibolmippfcgaa
