/- LongestRun: both contracts. -/
import Derived.Test.YtfkcjgeeklngiaaLongS
namespace Go.Proofs.Ytfkcjgeeklngiaa
open Go.RowKit

noncomputable def Rf.lgV (r : Rf) (k : Int) : Value := if r.told (inB k 0 3) = 0 then r.longV k r.all else .tuple #[.agg #[.int .i8 0, .int .i8 0], .int .i64 0, .int .i64 (r.told (inB k 0 3))]
theorem Rf.lgE (r : Rf) (k : Int) : ∃ a b n cd : Int, r.lgV k = .tuple #[.agg #[.int .i8 a, .int .i8 b], .int .i64 n, .int .i64 cd] := by
  unfold Rf.lgV
  by_cases h : r.told (inB k 0 3) = 0
  · rw [if_pos h]
    unfold Rf.longV
    by_cases h0 : r.bestN k r.all = 0
    · rw [if_pos h0]; exact ⟨_, _, _, _, rfl⟩
    · rw [if_neg h0]; exact ⟨_, _, _, _, rfl⟩
  · rw [if_neg h]; exact ⟨_, _, _, _, rfl⟩

set_option maxRecDepth 100000 in
set_option maxHeartbeats 2000000 in
theorem specLongestRun_any (c : Array Value) (r : Rf) (k : Int) (w : World) (hR : IsRoof c r) :
    Calls Try.prog 46 #[.agg c, .int .i64 k] w fun e w' => e = .returned (r.lgV k) ∧ Below w.heap.size w w' := by
  by_cases hk : r.told (inB k 0 3) = 0
  · have ho := (Rf.told_zero hk).1
    have e1 : r.lgV k = r.longV k r.all := if_pos hk
    rw [e1]
    exact specLong_go c r k r.h.toNat r.w.toNat (by have := ho.2.2.1; omega) (by have := ho.1; omega) (by have := ho.2.2.2.1; omega) (by have := ho.2.1; omega) w hR hk
  · have hc := hR.size
    have e1 : r.lgV k = .tuple #[.agg #[.int .i8 0, .int .i8 0], .int .i64 0, .int .i64 (r.told (inB k 0 3))] := if_neg hk
    have hb : (r.told (inB k 0 3) != 0) = true := by simp [hk]
    have p1 : rowAt ((w.alloc (.cells c 33)).alloc (.cells #[.int .i8 0, .int .i8 0] 37)) (w.heap.size + 1) = some #[.int .i8 0, .int .i8 0] := rowAt_alloc_at _ _ _ _ (by simp)
    have p0 : rowAt ((w.alloc (.cells c 33)).alloc (.cells #[.int .i8 0, .int .i8 0] 37)) w.heap.size = some c := (rowAt_alloc_past _ _ _ (by simp)).trans (rowAt_alloc_at _ _ _ _ rfl)
    have pB : Below w.heap.size w ((w.alloc (.cells c 33)).alloc (.cells #[.int .i8 0, .int .i8 0] 37)) := ((Below.refl _ _).alloc (Nat.le_refl _) _).alloc (by simp) _
    rw [e1]
    clear hk e1
    go_enter Try.func46, Try.ntmps46
    go_wp2_with fail
    refine (l01Kind_any k _).mono ?_
    rintro e w0 ⟨rfl, rfl⟩
    go_wp2_with fail
    refine (l01Told_any w.heap.size c r _ _ p0 hR).mono ?_
    rintro e w1 ⟨rfl, b1⟩
    have z0 := brow b1 p1
    have B1 := bnext pB b1 pB.size
    have zf := frozen_of_rowAt z0
    have zc0 := cell_of_rowAt z0 0
    have zc1 := cell_of_rowAt z0 1
    simp at zc0 zc1
    clear b1 p0 p1 pB
    go_wp2_with fail
    have y1 := rowAt_setCell_at w1 (w.heap.size + 1) 0 (.int .i8 0) (by rw [z0]; rfl)
    rw [z0, Option.getD_some] at y1
    have zz := rowAt_setCell_at (w1.setCell ⟨w.heap.size + 1, 0, none⟩ (.int .i8 0)) (w.heap.size + 1) 1 (.int .i8 0) (by rw [y1]; rfl)
    rw [y1, Option.getD_some] at zz
    refine bodyPost_ret (v := .tuple #[.agg #[.int .i8 0, .int .i8 0], .int .i64 0, .int .i64 (r.told (inB k 0 3))]) (results_row3 (m := 2) rfl _ _ (w.heap.size + 1) _ _ _ rfl rfl rfl zz Try.underlying37 rfl (by kernel_rfl) rfl) rfl ⟨rfl, ?_⟩
    exact (B1.setCell (p := ⟨w.heap.size + 1, 0, none⟩) (Nat.le_succ _) (.int .i8 0)).setCell (p := ⟨w.heap.size + 1, 1, none⟩) (Nat.le_succ _) (.int .i8 0)

set_option maxRecDepth 100000 in
set_option maxHeartbeats 2000000 in
theorem implLongestRun_any (c : Array Value) (r : Rf) (k : Int) (w : World) (hR : IsRoof c r) :
    Calls Try.prog 47 #[.agg c, .int .i64 k] w fun e w' => e = .returned (r.lgV k) ∧ Below w.heap.size w w' := by
  by_cases hk : r.told (inB k 0 3) = 0
  · have ho := (Rf.told_zero hk).1
    have e1 : r.lgV k = r.longV k r.all := if_pos hk
    rw [e1]
    exact implLong_go c r k r.h.toNat r.w.toNat (by have := ho.2.2.1; omega) (by have := ho.1; omega) (by have := ho.2.2.2.1; omega) (by have := ho.2.1; omega) w hR hk
  · have hc := hR.size
    have e1 : r.lgV k = .tuple #[.agg #[.int .i8 0, .int .i8 0], .int .i64 0, .int .i64 (r.told (inB k 0 3))] := if_neg hk
    have hb : (r.told (inB k 0 3) != 0) = true := by simp [hk]
    have p1 : rowAt (((w.alloc (.cells c 33)).alloc (.cells #[.int .i64 k] 2)).alloc (.cells #[.int .i8 0, .int .i8 0] 37)) (w.heap.size + 1 + 1) = some #[.int .i8 0, .int .i8 0] := rowAt_alloc_at _ _ _ _ (by simp)
    have pB : Below w.heap.size w (((w.alloc (.cells c 33)).alloc (.cells #[.int .i64 k] 2)).alloc (.cells #[.int .i8 0, .int .i8 0] 37)) := (((Below.refl _ _).alloc (Nat.le_refl _) _).alloc (by simp) _).alloc (by simp; omega) _
    rw [e1]
    clear hk e1
    go_enter Try.func47, Try.ntmps47
    go_wp2_with fail
    refine (checkKind_any c r k _ hR).mono ?_
    rintro e w1 ⟨rfl, b1⟩
    have z0 := brow b1 p1
    have B1 := bnext pB b1 pB.size
    have zf := frozen_of_rowAt z0
    have zc0 := cell_of_rowAt z0 0
    have zc1 := cell_of_rowAt z0 1
    simp at zc0 zc1
    clear b1 p1 pB
    go_wp2_with fail
    have y1 := rowAt_setCell_at w1 (w.heap.size + 1 + 1) 0 (.int .i8 0) (by rw [z0]; rfl)
    rw [z0, Option.getD_some] at y1
    have zz := rowAt_setCell_at (w1.setCell ⟨w.heap.size + 1 + 1, 0, none⟩ (.int .i8 0)) (w.heap.size + 1 + 1) 1 (.int .i8 0) (by rw [y1]; rfl)
    rw [y1, Option.getD_some] at zz
    refine bodyPost_ret (v := .tuple #[.agg #[.int .i8 0, .int .i8 0], .int .i64 0, .int .i64 (r.told (inB k 0 3))]) (results_row3 (m := 2) rfl _ _ (w.heap.size + 1 + 1) _ _ _ rfl rfl rfl zz Try.underlying37 rfl (by kernel_rfl) rfl) rfl ⟨rfl, ?_⟩
    exact (B1.setCell (p := ⟨w.heap.size + 1 + 1, 0, none⟩) (by show _ ≤ w.heap.size + 1 + 1; omega) (.int .i8 0)).setCell (p := ⟨w.heap.size + 1 + 1, 1, none⟩) (by show _ ≤ w.heap.size + 1 + 1; omega) (.int .i8 0)
end Go.Proofs.Ytfkcjgeeklngiaa
