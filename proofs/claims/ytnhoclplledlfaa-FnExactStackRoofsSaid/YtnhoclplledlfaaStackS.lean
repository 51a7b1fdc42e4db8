/- StackRoofs: the model's side. -/
import Derived.Test.YtnhoclplledlfaaStackA
import Derived.StillTailTactics
namespace Go.Proofs.Ytnhoclplledlfaa
open Go.RowKit

set_option maxRecDepth 100000 in
set_option maxHeartbeats 4000000 in
theorem specStack_go (c e F : Array Value) (r q : Rf) (h k : Nat) (w : World) (hR : IsRoof c r) (hQ : IsRoof e q) (ho : r.Ok) (hp : q.Ok) (hw : r.w = q.w) (hb : r.by r.h = q.by 0) (hh : r.h = h) (hhk : q.h = k) (hk : h + k ≤ 8) (hF : stkF c e h k = F) :
    Calls Try.prog 10 #[.agg c, .agg e] w fun x w' => x = .returned (.tuple #[.agg F, .int .i64 0]) ∧ Below w.heap.size w w' := by
  have hc := hR.size
  have he := hQ.size
  have hzs := zroof_size
  have hzo := zroof_ones
  obtain ⟨p0, p1, p2, pB⟩ := three_boxes w c e Try.zeroCells27 27 27
  have fo := (stkF_is hR hQ (h := h) (k := k) hk).ones
  have fs := (stkF_is hR hQ (h := h) (k := k) hk).size
  have kw := hR.wide (by omega)
  have kh := hR.high (by omega)
  have lw := hQ.wide (by omega)
  have lh := hQ.high (by omega)
  have sw : (r.w != q.w) = false := by simp [hw]
  rw [hF] at fo fs
  have sb : (r.by r.h != q.by 0) = false := by simp [hb]
  rw [hh] at sb
  have e1 : IntKind.i8.wrap ((h : Int) + (k : Int)) = (h : Int) + (k : Int) := IntWalk.i8_in _ (by omega)
  have e2 : IntKind.i64.wrap (h : Int) = (h : Int) := IntWalk.i64_in _ (by omega)
  have d1 : decide ((8 : Int) < ((h : Int) + (k : Int))) = false := by simp; omega
  go_enter Try.func10, Try.ntmps10
  go_wp2_with fail
  refine (l01Ok_t w.heap.size c r _ p0 hR ho).mono ?_
  rintro x w1 ⟨rfl, b1⟩
  have q0 := brow b1 p0
  have q1 := brow b1 p1
  have q2 := brow b1 p2
  have B1 := bnext pB b1 pB.size
  clear b1 p0 p1 p2 pB
  go_wp2_with fail
  refine (l01Ok_t (w.heap.size + 1) e q _ q1 hQ hp).mono ?_
  rintro x W ⟨rfl, b2⟩
  have p0 := brow b2 q0
  have p1 := brow b2 q1
  have p2 := brow b2 q2
  have B2 := bnext B1 b2 B1.size
  clear b2 q0 q1 q2 B1
  have cw : W.cell? ⟨w.heap.size, 0, none⟩ = some (.int .i8 r.w) := by rw [← kw]; exact (cell_of_rowAt p0 0).trans (Array.getElem?_eq_getElem (by omega))
  have ch : W.cell? ⟨w.heap.size, 1, none⟩ = some (.int .i8 h) := by rw [← hh, ← kh]; exact (cell_of_rowAt p0 1).trans (Array.getElem?_eq_getElem (by omega))
  have dw : W.cell? ⟨w.heap.size + 1, 0, none⟩ = some (.int .i8 q.w) := by rw [← lw]; exact (cell_of_rowAt p1 0).trans (Array.getElem?_eq_getElem (by omega))
  have dh : W.cell? ⟨w.heap.size + 1, 1, none⟩ = some (.int .i8 k) := by rw [← hhk, ← lh]; exact (cell_of_rowAt p1 1).trans (Array.getElem?_eq_getElem (by omega))
  go_wp2_with fail
  refine (l01By_any w.heap.size c r h _ p0 hR (by omega)).mono ?_
  rintro x w3 ⟨rfl, rfl⟩
  go_wp2_with fail
  refine (l01By_any (w.heap.size + 1) e q 0 _ p1 hQ (by omega)).mono ?_
  rintro x w4 ⟨rfl, rfl⟩
  clear cw dw
  go_wp2_with fail
  clear ch dh
  have HA0 := stkA_zero hR hQ (show h ≤ 8 by omega)
  have K1 : ∀ m W, m ≤ k → rowAt W w.heap.size = some (stkA c e h m) → W.cell? ⟨w.heap.size, 1, none⟩ = some (.int .i8 h) := fun m W hm hr => by
    have hi := stkA_is hR hQ (h := h) (k := m) (by omega)
    rw [cell_of_rowAt hr, Array.getElem?_eq_getElem (by have := hi.size; omega), hi.high (by have := hi.size; omega)]
    show some (Value.int .i8 r.h) = _
    rw [hh]
  have K2 : ∀ W, rowAt W (w.heap.size + 1) = some e → W.cell? ⟨w.heap.size + 1, 1, none⟩ = some (.int .i8 k) := fun W hr => by
    rw [cell_of_rowAt hr, Array.getElem?_eq_getElem (by omega), lh, hhk]
  have HR := Lib.hid hR
  have HQ := Lib.hid hQ
  have HK1 := Lib.hid K1
  have HK2 := Lib.hid K2
  have HF := Lib.hid hF
  have HH0 := Lib.hid HA0
  clear K1 K2 hF HA0 sb sw hw hb kw kh lw lh hR hQ ho hp e2
  go_loopw [6] (fun i W => ∃ m : Nat, m ≤ k ∧ i = .int .i8 m ∧ rowAt W w.heap.size = some (stkA c e h m) ∧ rowAt W (w.heap.size + 1) = some e ∧ rowAt W (w.heap.size + 1 + 1) = some Try.zeroCells27 ∧ Below w.heap.size w W) (fun i _ => k - (intOf i).toNat)
  case atStart => exact ⟨0, by omega, rfl, by rw [HH0.out]; exact p0, p1, p2, B2⟩
  case round =>
    clear p0 p1 p2 B2
    obtain ⟨m, hm, rfl, r0, r1, r2, rB⟩ := hrel
    have c2 := HK2.out _ r1
    have c1 := HK1.out _ _ hm r0
    have lt0 := rowAt_lt r0
    have lt1 := rowAt_lt r1
    have lt2 := rowAt_lt r2
    have n1 : w.heap.size + 1 ≠ w.heap.size := by omega
    have n2 : w.heap.size + 1 + 1 ≠ w.heap.size := by omega
    by_cases hlt : m < k
    · have e3 : IntKind.i8.wrap ((h : Int) + (m : Int)) = (h : Int) + (m : Int) := IntWalk.i8_in _ (by omega)
      have i0 : 0 ≤ (h : Int) + (m : Int) := by omega
      have i1 : (h : Int) + (m : Int) < 8 := by omega
      have i2 : ((h : Int) + (m : Int)).toNat = h + m := by omega
      have j0 : 0 ≤ (m : Int) := by omega
      have j1 : (m : Int) < 8 := by omega
      have gs := stkA_succ HR.out HQ.out (h := h) (k := m) (by omega)
      obtain ⟨co, cz⟩ := stkA_ones HR.out HQ.out (h := h) (k := m) (by omega)
      obtain ⟨no, nz⟩ := stkA_ones HR.out HQ.out (h := h) (k := m + 1) (by omega)
      have xo := HQ.out.ones.extract (3 + m * 8) (3 + m * 8 + 8)
      have xs : (e.extract (3 + m * 8) (3 + m * 8 + 8)).size = 8 := by simp; omega
      have cx : 3 + m * 8 + 8 ≤ 67 := by omega
      have cy : 3 + (h + m) * 8 + 8 ≤ 67 := by omega
      generalize hG : stkA c e h (m + 1) = G at *
      generalize stkA c e h m = E at *
      have HG := Lib.hid hG
      clear hG
      go_wp2_with fail
      go_still_tail 10, (by kernel_rfl)
      change wpList _ _ _ _ _ wr.drew
      repeat go_step
      have s0 : rowAt (wr.drew.setRow w.heap.size G) w.heap.size = some G := rowAt_setRow_at _ _ _ (Option.isSome_iff_exists.2 ⟨_, r0⟩)
      have s1 : rowAt (wr.drew.setRow w.heap.size G) (w.heap.size + 1) = some e := (rowAt_setRow_ne _ _ _ _ n1).trans r1
      have s2 : rowAt (wr.drew.setRow w.heap.size G) (w.heap.size + 1 + 1) = some Try.zeroCells27 := (rowAt_setRow_ne _ _ _ _ n2).trans r2
      have sB : Below w.heap.size w (wr.drew.setRow w.heap.size G) := below_setRow rB.drew (Nat.le_refl _) _
      clear r0 r1 r2 rB c1 c2
      go_wp2_with fail
      refine ⟨⟨m + 1, by omega, by go_num, by rw [HG.out]; exact s0, s1, s2, sB⟩, by simp [intOf]; omega⟩
    · obtain rfl : m = k := by omega
      have gcell := cell_of_rowAt r0
      have gfro := frozen_of_rowAt r0
      obtain ⟨co, cz⟩ := stkA_ones HR.out HQ.out (h := h) (k := m) (by omega)
      have hF : (stkA c e h m).setIfInBounds 1 (.int .i8 ((h : Int) + (m : Int))) = F := HF.out
      generalize stkA c e h m = E at *
      go_wp2_with fail
      have n3 : w.heap.size ≠ w.heap.size + 1 + 1 := by omega
      refine bodyPost_ret (v := .tuple #[.agg F, .int .i64 0]) (results_row2 (m := 67) rfl _ _ (w.heap.size + 1 + 1) _ _ rfl rfl (rowAt_setRow_at _ _ _ (Option.isSome_iff_exists.2 ⟨_, (rowAt_setCell_ne _ _ _ _ _ n2).trans r2⟩)) Try.underlying27 rfl (by kernel_rfl) fs) rfl ⟨rfl, ?_⟩
      exact below_setRow (rB.setCell (p := ⟨w.heap.size, 1, none⟩) (Nat.le_refl _) _) (by omega) _
end Go.Proofs.Ytnhoclplledlfaa
