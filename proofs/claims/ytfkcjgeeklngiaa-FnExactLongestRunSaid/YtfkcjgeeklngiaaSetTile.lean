/- Contracts on replacing a tile. -/
import Derived.Test.YtfkcjgeeklngiaaCourse
import Derived.Test.YtfkcjgeeklngiaaEnd
import Derived.Test.YtfkcjgeeklngiaaRset
import Derived.Deep.RegionHeld3
import Derived.StillTailTactics
namespace Go.Proofs.Ytfkcjgeeklngiaa
open Go.RowKit

theorem l01Kind_q (k : Int) (w : World) :
    Calls Try.prog 64 #[.int .i64 k] w fun e w' => e = .returned (.bool (inB k 0 3)) ∧ w = w' := l01Kind_any k w

set_option maxRecDepth 100000 in
set_option maxHeartbeats 1000000 in
theorem specSetTile_yes (c : Array Value) (r : Rf) (i j : Nat) (k : Int) (w : World) (hR : IsRoof c r) (hi : i < 8) (hj : j < 8) (hk : 0 ≤ k ∧ k ≤ 3) (hz : r.ask i j true = 0) :
    Calls Try.prog 26 #[.agg c, .agg #[.int .i8 i, .int .i8 j], .int .i64 k] w fun e w' => e = .returned (.tuple #[.agg (c.setIfInBounds (3 + (i * 8 + j)) (.int .u8 k)), .int .i64 0]) ∧ Below w.heap.size w w' := by
  have hc := hR.size
  have hbb : (r.ask i j true != 0) = false := by simp [hz]
  have hin := inB_true (show 0 ≤ k ∧ k ≤ 3 from hk)
  have hzs := zroof_size
  have hrs := (hR.set (i * 8 + j) (by omega) k (by omega)).ones
  rw [← Nat.add_assoc] at hrs ⊢
  have i0 : 0 ≤ (i : Int) := by omega
  have i1 : (i : Int) < 8 := by omega
  have j0 : 0 ≤ (j : Int) := by omega
  have j1 : (j : Int) < 8 := by omega
  obtain ⟨hk0, hk3⟩ := hk
  have HZ := Lib.hid hz
  clear hz
  go_enter Try.func26, Try.ntmps26
  go_wp2_with fail
  generalize hW : ((w.alloc (.cells c 33)).alloc (.cells #[.int .i8 i, .int .i8 j] 37)).alloc (.cells Try.zeroCells33 33) = W
  have p0 : rowAt W w.heap.size = some c := by rw [← hW]; exact (rowAt_alloc_past _ _ _ (by simp; omega)).trans ((rowAt_alloc_past _ _ _ (by simp)).trans (rowAt_alloc_at _ _ _ _ rfl))
  have p1 : rowAt W (w.heap.size + 1) = some #[.int .i8 i, .int .i8 j] := by rw [← hW]; exact (rowAt_alloc_past _ _ _ (by simp)).trans (rowAt_alloc_at _ _ _ _ (by simp))
  have p2 : rowAt W (w.heap.size + 1 + 1) = some Try.zeroCells33 := by rw [← hW]; exact rowAt_alloc_at _ _ _ _ (by simp)
  have pB : Below w.heap.size w W := by rw [← hW]; exact (((Below.refl _ _).alloc (Nat.le_refl _) _).alloc (by simp) _).alloc (by simp; omega) _
  clear hW
  have p0d : rowAt W.drew w.heap.size = some c := p0
  have p2d : rowAt W.drew (w.heap.size + 1 + 1) = some Try.zeroCells33 := p2
  go_region_held3 (fun w' => rowAt w' w.heap.size = some c ∧ (w'.cell? ⟨w.heap.size + 1, 0, none⟩ = some (.int .i8 i) ∧ w'.cell? ⟨w.heap.size + 1, 1, none⟩ = some (.int .i8 j)) ∧ rowAt w' (w.heap.size + 1) = some #[.int .i8 i, .int .i8 j] ∧ Below w.heap.size w w' ∧ w.heap.size ≤ w'.heap.size)
    (first | exact keepP0 p0 p1 pB pB.size | assumption | exact keepP (by assumption) (by assumption))
    (first | (go_at_call 64; (with_reducible refine (l01Kind_q k _).mono ?_); rintro x wx ⟨rfl, rfl⟩) | (go_at_call 63; (with_reducible refine (l01Asked_any w.heap.size c r i j true _ p0d hR (by omega) (by omega)).mono ?_); rintro x wx ⟨rfl, bx⟩; have q2 := brow bx p2d))
  rename_i g
  clear p0 p1 p2 pB p0d p2d
  obtain ⟨g0, ⟨g1, g2⟩, g3, gB, gs⟩ := g
  have gcell := cell_of_rowAt g0
  have gfro := frozen_of_rowAt g0
  have hcx : 3 + i * 8 + j < 67 := by omega
  go_wp2_with fail
  have hne2 : w.heap.size + 1 + 1 ≠ w.heap.size := by omega
  go_still_tail 9, (by kernel_rfl)
  change wpList _ _ _ _ _ wx.drew
  repeat go_step
  have r0 := rowAt_setCell_at wx w.heap.size (3 + i * 8 + j) (.int .u8 k) (by simp [g0])
  have r2 := (rowAt_setCell_ne wx w.heap.size (w.heap.size + 1 + 1) (3 + i * 8 + j) (.int .u8 k) hne2).trans q2
  refine bodyPost_ret (v := .tuple #[.agg (c.setIfInBounds (3 + i * 8 + j) (.int .u8 k)), .int .i64 0]) (results_row2 (m := 67) rfl _ _ (w.heap.size + 1 + 1) _ _ rfl rfl (rowAt_setRow_at _ _ _ (by rw [r2]; rfl)) Try.underlying33 rfl (by kernel_rfl) (by simpa using hc)) rfl ⟨rfl, ?_⟩
  exact below_setRow ((gB.setCell (p := ⟨_, _, none⟩) (Nat.le_refl _) _).drew) (by omega) _

set_option maxRecDepth 100000 in
set_option maxHeartbeats 1000000 in
theorem specSetTile_no (c : Array Value) (r : Rf) (a b : Int) (k : Int) (w : World) (hR : IsRoof c r) (ha : -128 ≤ a ∧ a ≤ 127) (hb : -128 ≤ b ∧ b ≤ 127) (hz : r.ask a b (inB k 0 3) ≠ 0) :
    Calls Try.prog 26 #[.agg c, .agg #[.int .i8 a, .int .i8 b], .int .i64 k] w fun e w' => e = .returned (.tuple #[.agg Try.zeroCells33, .int .i64 (r.ask a b (inB k 0 3))]) ∧ Below w.heap.size w w' := by
  have hc := hR.size
  have hbb : (r.ask a b (inB k 0 3) != 0) = true := by simp [hz]
  have hzs := zroof_size
  have hrs := zroof_ones
  clear hz
  go_enter Try.func26, Try.ntmps26
  go_wp2_with fail
  generalize hW : ((w.alloc (.cells c 33)).alloc (.cells #[.int .i8 a, .int .i8 b] 37)).alloc (.cells Try.zeroCells33 33) = W
  have p0 : rowAt W w.heap.size = some c := by rw [← hW]; exact (rowAt_alloc_past _ _ _ (by simp; omega)).trans ((rowAt_alloc_past _ _ _ (by simp)).trans (rowAt_alloc_at _ _ _ _ rfl))
  have p1 : rowAt W (w.heap.size + 1) = some #[.int .i8 a, .int .i8 b] := by rw [← hW]; exact (rowAt_alloc_past _ _ _ (by simp)).trans (rowAt_alloc_at _ _ _ _ (by simp))
  have p2 : rowAt W (w.heap.size + 1 + 1) = some Try.zeroCells33 := by rw [← hW]; exact rowAt_alloc_at _ _ _ _ (by simp)
  have pB : Below w.heap.size w W := by rw [← hW]; exact (((Below.refl _ _).alloc (Nat.le_refl _) _).alloc (by simp) _).alloc (by simp; omega) _
  clear hW
  have p0d : rowAt W.drew w.heap.size = some c := p0
  have p2d : rowAt W.drew (w.heap.size + 1 + 1) = some Try.zeroCells33 := p2
  generalize hf : inB k 0 3 = fine at *
  have HF := Lib.hid hf
  clear hf
  go_region_held3 (fun w' => rowAt w' w.heap.size = some c ∧ (w'.cell? ⟨w.heap.size + 1, 0, none⟩ = some (.int .i8 a) ∧ w'.cell? ⟨w.heap.size + 1, 1, none⟩ = some (.int .i8 b)) ∧ rowAt w' (w.heap.size + 1) = some #[.int .i8 a, .int .i8 b] ∧ Below w.heap.size w w' ∧ w.heap.size ≤ w'.heap.size)
    (first | exact keepP0 p0 p1 pB pB.size | assumption | exact keepP (by assumption) (by assumption))
    (first | (go_at_call 64; (with_reducible refine (l01Kind_q k _).mono ?_); rintro x wx ⟨rfl, rfl⟩; rw [HF.out]) | (go_at_call 63; (with_reducible refine (l01Asked_any w.heap.size c r a b fine _ p0d hR ha hb).mono ?_); rintro x wx ⟨rfl, bx⟩; have q2 := brow bx p2d))
  rename_i g
  clear p0 p1 p2 pB p0d p2d
  obtain ⟨g0, ⟨g1, g2⟩, g3, gB, gs⟩ := g
  repeat go_step
  refine bodyPost_ret (v := .tuple #[.agg Try.zeroCells33, .int .i64 (r.ask a b fine)]) (results_row2 (m := 67) rfl _ _ (w.heap.size + 1 + 1) _ _ rfl rfl (rowAt_setRow_at _ _ _ (by rw [q2]; rfl)) Try.underlying33 rfl (by kernel_rfl) hzs) rfl ⟨by rw [HF.out], ?_⟩
  exact below_setRow gB (by omega) _

set_option maxHeartbeats 400000 in
theorem checkKind_any (c : Array Value) (r : Rf) (k : Int) (w : World) (hR : IsRoof c r) :
    Calls Try.prog 66 #[.agg c, .int .i64 k] w fun e w' => e = .returned (.int .i64 (r.told (inB k 0 3))) ∧ Below w.heap.size w w' := by
  have hc := hR.size
  by_cases ho : r.Ok
  · by_cases x0 : k < 0
    · rw [inB_false (by omega), Rf.told_out ho]
      go_enter Try.func66, Try.ntmps66
      go_wp2_with fail
      refine (implValid_t c r _ hR ho).mono ?_
      rintro e w1 ⟨rfl, b1⟩
      have B1 : Below w.heap.size w w1 := ((Below.refl _ _).alloc (Nat.le_refl _) _).trans (b1.mono (by simp))
      clear b1
      go_wp2_with fail
      go_ret
      exact ⟨rfl, B1⟩
    · by_cases x1 : 3 < k
      · rw [inB_false (by omega), Rf.told_out ho]
        go_enter Try.func66, Try.ntmps66
        go_wp2_with fail
        refine (implValid_t c r _ hR ho).mono ?_
        rintro e w1 ⟨rfl, b1⟩
        have B1 : Below w.heap.size w w1 := ((Below.refl _ _).alloc (Nat.le_refl _) _).trans (b1.mono (by simp))
        clear b1
        go_wp2_with fail
        go_ret
        exact ⟨rfl, B1⟩
      · rw [inB_true (by omega), Rf.told_in ho]
        go_enter Try.func66, Try.ntmps66
        go_wp2_with fail
        refine (implValid_t c r _ hR ho).mono ?_
        rintro e w1 ⟨rfl, b1⟩
        have B1 : Below w.heap.size w w1 := ((Below.refl _ _).alloc (Nat.le_refl _) _).trans (b1.mono (by simp))
        clear b1
        go_wp2_with fail
        go_ret
        exact ⟨rfl, B1⟩
  · rw [Rf.told_no ho]
    go_enter Try.func66, Try.ntmps66
    go_wp2_with fail
    refine (implValid_f c r _ hR ho).mono ?_
    rintro e w1 ⟨rfl, b1⟩
    have B1 : Below w.heap.size w w1 := ((Below.refl _ _).alloc (Nat.le_refl _) _).trans (b1.mono (by simp))
    clear b1
    go_wp2_with fail
    go_ret
    exact ⟨rfl, B1⟩

theorem ask_split {r : Rf} {a b : Int} {fine : Bool} : r.ask a b fine = if r.ask a b true = 0 then r.told fine else r.ask a b true := by
  unfold Rf.ask Rf.told
  by_cases h : r.ok = true
  · by_cases h2 : r.isB a b = true
    · simp [h, h2]
    · simp [h, h2]
  · simp [h]

set_option maxRecDepth 100000 in
set_option maxHeartbeats 1000000 in
theorem implSetTile_no (c : Array Value) (r : Rf) (a b : Int) (k : Int) (w : World) (hR : IsRoof c r) (hz : r.ask a b (inB k 0 3) ≠ 0) :
    Calls Try.prog 27 #[.agg c, .agg #[.int .i8 a, .int .i8 b], .int .i64 k] w fun e w' => e = .returned (.tuple #[.agg Try.zeroCells33, .int .i64 (r.ask a b (inB k 0 3))]) ∧ Below w.heap.size w w' := by
  have hc := hR.size
  have hzs := zroof_size
  have hrs := zroof_ones
  rw [ask_split] at hz ⊢
  by_cases hp : r.ask a b true = 0
  · rw [if_pos hp] at hz ⊢
    have hb0 : (r.ask a b true != 0) = false := by simp [hp]
    have hb1 : (r.told (inB k 0 3) != 0) = true := by simp [hz]
    clear hz hp
    go_enter Try.func27, Try.ntmps27
    go_wp2_with fail
    refine (checkPlace_any c r a b _ hR).mono ?_
    rintro e w1 ⟨rfl, b1⟩
    have q0 := brow b1 ((rowAt_alloc_past _ (.cells Try.zeroCells33 33) _ (by simp; omega)).trans ((rowAt_alloc_past _ (.cells #[.int .i8 a, .int .i8 b] 37) _ (by simp)).trans (rowAt_alloc_at w c 33 _ rfl)))
    have q1 := brow b1 ((rowAt_alloc_past _ (.cells Try.zeroCells33 33) (w.heap.size + 1) (by simp)).trans (rowAt_alloc_at (w.alloc (.cells c 33)) #[.int .i8 a, .int .i8 b] 37 _ (by simp)))
    have q2 := brow b1 (rowAt_alloc_at ((w.alloc (.cells c 33)).alloc (.cells #[.int .i8 a, .int .i8 b] 37)) Try.zeroCells33 33 (w.heap.size + 1 + 1) (by simp))
    have B1 : Below w.heap.size w w1 := ((((Below.refl _ _).alloc (Nat.le_refl _) _).alloc (by simp) _).alloc (by simp; omega) _).trans (b1.mono (by simp; omega))
    clear b1
    go_wp2_with fail
    refine (checkKind_any c r k _ hR).mono ?_
    rintro e w2 ⟨rfl, b2⟩
    have r2 := brow b2 q2
    have B2 := bnext B1 b2 B1.size
    clear b2 q0 q1 q2 B1
    (try dsimp only)
    repeat go_step
    refine bodyPost_ret (v := .tuple #[.agg Try.zeroCells33, .int .i64 (r.told (inB k 0 3))]) (results_row2 (m := 67) rfl _ _ (w.heap.size + 1 + 1) _ _ rfl rfl (rowAt_setRow_at _ _ _ (by rw [r2]; rfl)) Try.underlying33 rfl (by kernel_rfl) hzs) rfl ⟨rfl, ?_⟩
    exact below_setRow B2 (by omega) _
  · rw [if_neg hp]
    have hb0 : (r.ask a b true != 0) = true := by simp [hp]
    clear hz hp
    go_enter Try.func27, Try.ntmps27
    go_wp2_with fail
    refine (checkPlace_any c r a b _ hR).mono ?_
    rintro e w1 ⟨rfl, b1⟩
    have q0 := brow b1 ((rowAt_alloc_past _ (.cells Try.zeroCells33 33) _ (by simp; omega)).trans ((rowAt_alloc_past _ (.cells #[.int .i8 a, .int .i8 b] 37) _ (by simp)).trans (rowAt_alloc_at w c 33 _ rfl)))
    have q1 := brow b1 ((rowAt_alloc_past _ (.cells Try.zeroCells33 33) (w.heap.size + 1) (by simp)).trans (rowAt_alloc_at (w.alloc (.cells c 33)) #[.int .i8 a, .int .i8 b] 37 _ (by simp)))
    have q2 := brow b1 (rowAt_alloc_at ((w.alloc (.cells c 33)).alloc (.cells #[.int .i8 a, .int .i8 b] 37)) Try.zeroCells33 33 (w.heap.size + 1 + 1) (by simp))
    have B1 : Below w.heap.size w w1 := ((((Below.refl _ _).alloc (Nat.le_refl _) _).alloc (by simp) _).alloc (by simp; omega) _).trans (b1.mono (by simp; omega))
    clear b1
    (try dsimp only)
    repeat go_step
    refine bodyPost_ret (v := .tuple #[.agg Try.zeroCells33, .int .i64 (r.ask a b true)]) (results_row2 (m := 67) rfl _ _ (w.heap.size + 1 + 1) _ _ rfl rfl (rowAt_setRow_at _ _ _ (by rw [q2]; rfl)) Try.underlying33 rfl (by kernel_rfl) hzs) rfl ⟨rfl, ?_⟩
    exact below_setRow B1 (by omega) _

set_option maxRecDepth 100000 in
set_option maxHeartbeats 1000000 in
theorem implSetTile_yes (c : Array Value) (r : Rf) (i j : Nat) (k : Int) (w : World) (hR : IsRoof c r) (hi : i < 8) (hj : j < 8) (hk : 0 ≤ k ∧ k ≤ 3) (hz : r.ask i j true = 0) :
    Calls Try.prog 27 #[.agg c, .agg #[.int .i8 i, .int .i8 j], .int .i64 k] w fun e w' => e = .returned (.tuple #[.agg (c.setIfInBounds (3 + (i * 8 + j)) (.int .u8 k)), .int .i64 0]) ∧ Below w.heap.size w w' := by
  have hc := hR.size
  have hb0 : (r.ask i j true != 0) = false := by simp [hz]
  have ht : r.told (inB k 0 3) = 0 := by rw [inB_true (by omega), Rf.told_in (Rf.ask_zero hz).1]
  have hb1 : (r.told (inB k 0 3) != 0) = false := by simp [ht]
  have hzs := zroof_size
  have hrs := (hR.set (i * 8 + j) (by omega) k (by omega)).ones
  rw [← Nat.add_assoc] at hrs ⊢
  have i0 : 0 ≤ (i : Int) := by omega
  have i1 : (i : Int) < 8 := by omega
  have j0 : 0 ≤ (j : Int) := by omega
  have j1 : (j : Int) < 8 := by omega
  obtain ⟨hk0, hk3⟩ := hk
  have hcx : 3 + i * 8 + j < 67 := by omega
  have hne2 : w.heap.size + 1 + 1 ≠ w.heap.size := by omega
  clear hz ht
  go_enter Try.func27, Try.ntmps27
  go_wp2_with fail
  refine (checkPlace_any c r i j _ hR).mono ?_
  rintro e w1 ⟨rfl, b1⟩
  have q0 := brow b1 ((rowAt_alloc_past _ (.cells Try.zeroCells33 33) _ (by simp; omega)).trans ((rowAt_alloc_past _ (.cells #[.int .i8 i, .int .i8 j] 37) _ (by simp)).trans (rowAt_alloc_at w c 33 _ rfl)))
  have q1 := brow b1 ((rowAt_alloc_past _ (.cells Try.zeroCells33 33) (w.heap.size + 1) (by simp)).trans (rowAt_alloc_at (w.alloc (.cells c 33)) #[.int .i8 i, .int .i8 j] 37 _ (by simp)))
  have q2 := brow b1 (rowAt_alloc_at ((w.alloc (.cells c 33)).alloc (.cells #[.int .i8 i, .int .i8 j] 37)) Try.zeroCells33 33 (w.heap.size + 1 + 1) (by simp))
  have B1 : Below w.heap.size w w1 := ((((Below.refl _ _).alloc (Nat.le_refl _) _).alloc (by simp) _).alloc (by simp; omega) _).trans (b1.mono (by simp; omega))
  clear b1
  go_wp2_with fail
  refine (checkKind_any c r k _ hR).mono ?_
  rintro e wx ⟨rfl, b2⟩
  have g0 := brow b2 q0
  have g3 := brow b2 q1
  have r2 := brow b2 q2
  have g1 : wx.cell? ⟨w.heap.size + 1, 0, none⟩ = some (.int .i8 i) := by rw [cell_of_rowAt g3]; rfl
  have g2 : wx.cell? ⟨w.heap.size + 1, 1, none⟩ = some (.int .i8 j) := by rw [cell_of_rowAt g3]; rfl
  have B2 := bnext B1 b2 B1.size
  clear b2 q0 q1 q2 B1
  have gcell := cell_of_rowAt g0
  have gfro := frozen_of_rowAt g0
  go_wp2_with fail
  go_still_tail 9, (by kernel_rfl)
  change wpList _ _ _ _ _ wx.drew
  repeat go_step
  have s0 := rowAt_setCell_at wx w.heap.size (3 + i * 8 + j) (.int .u8 k) (by simp [g0])
  have s2 := (rowAt_setCell_ne wx w.heap.size (w.heap.size + 1 + 1) (3 + i * 8 + j) (.int .u8 k) hne2).trans r2
  refine bodyPost_ret (v := .tuple #[.agg (c.setIfInBounds (3 + i * 8 + j) (.int .u8 k)), .int .i64 0]) (results_row2 (m := 67) rfl _ _ (w.heap.size + 1 + 1) _ _ rfl rfl (rowAt_setRow_at _ _ _ (by rw [s2]; rfl)) Try.underlying33 rfl (by kernel_rfl) (by simpa using hc)) rfl ⟨rfl, ?_⟩
  exact below_setRow ((B2.setCell (p := ⟨_, _, none⟩) (Nat.le_refl _) _).drew) (by omega) _
end Go.Proofs.Ytfkcjgeeklngiaa
