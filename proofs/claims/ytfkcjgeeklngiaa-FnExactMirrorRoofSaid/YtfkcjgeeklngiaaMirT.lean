/- MirrorRoof: both contracts. -/
import Derived.Test.YtfkcjgeeklngiaaMirS
namespace Go.Proofs.Ytfkcjgeeklngiaa
open Go.RowKit

noncomputable def Rf.miA (r : Rf) (c : Array Value) : Array Value := if r.ok = true then mirA r (mir0 c r) r.all else Try.zeroCells33
theorem miA_is {c : Array Value} {r : Rf} (hR : IsRoof c r) : ∃ q, IsRoof (r.miA c) q := by
  unfold Rf.miA
  by_cases ho : r.Ok
  · rw [if_pos (Rf.ok_true ho)]
    have := ho.2.2.1
    have := ho.2.2.2.1
    have := ho.2.1
    exact mirA_is hR (by omega) (by omega) r.all (mir0_is hR (by have := ho.2.2.2.2.1; omega))
  · rw [Rf.ok_false ho, if_neg (by decide)]
    exact ⟨_, zroof_is⟩

set_option maxRecDepth 100000 in
set_option maxHeartbeats 2000000 in
theorem specMirrorRoof_any (c : Array Value) (r : Rf) (w : World) (hR : IsRoof c r) :
    Calls Try.prog 38 #[.agg c] w fun e w' => e = .returned (.tuple #[.agg (r.miA c), .int .i64 r.okc]) ∧ Below w.heap.size w w' := by
  by_cases ho : r.Ok
  · have e1 : r.miA c = mirA r (mir0 c r) r.all := by unfold Rf.miA; rw [if_pos (Rf.ok_true ho)]
    have e3 : r.okc = 0 := by unfold Rf.okc; rw [if_pos (Rf.ok_true ho)]
    rw [e1, e3]
    exact specMirror_go c _ r r.h.toNat r.w.toNat (by have := ho.2.2.1; omega) (by have := ho.1; omega) (by have := ho.2.2.2.1; omega) (by have := ho.2.1; omega) w hR ho rfl
  · have hc := hR.size
    have hzs := zroof_size
    have hzo := zroof_ones
    have p0 : rowAt ((w.alloc (.cells c 33)).alloc (.cells Try.zeroCells33 33)) w.heap.size = some c := (rowAt_alloc_past _ _ _ (by simp)).trans (rowAt_alloc_at _ _ _ _ rfl)
    have p1 : rowAt ((w.alloc (.cells c 33)).alloc (.cells Try.zeroCells33 33)) (w.heap.size + 1) = some Try.zeroCells33 := rowAt_alloc_at _ _ _ _ (by simp)
    have pB : Below w.heap.size w ((w.alloc (.cells c 33)).alloc (.cells Try.zeroCells33 33)) := ((Below.refl _ _).alloc (Nat.le_refl _) _).alloc (by simp) _
    have e1 : r.miA c = Try.zeroCells33 := by unfold Rf.miA; rw [Rf.ok_false ho]; rfl
    have e3 : r.okc = 1 := by unfold Rf.okc; rw [Rf.ok_false ho]; rfl
    rw [e1, e3]
    clear e1 e3
    go_enter Try.func38, Try.ntmps38
    go_wp2_with fail
    refine (l01Ok_f w.heap.size c r _ p0 hR ho).mono ?_
    rintro e w1 ⟨rfl, b1⟩
    have q1 := brow b1 p1
    have B1 := bnext pB b1 pB.size
    clear b1 p0 p1 pB
    go_wp2_with fail
    refine bodyPost_ret (v := .tuple #[.agg Try.zeroCells33, .int .i64 1]) (results_row2 (m := 67) rfl _ _ (w.heap.size + 1) _ _ rfl rfl (rowAt_setRow_at _ _ _ (by simp [q1])) Try.underlying33 rfl (by kernel_rfl) hzs) rfl ⟨rfl, ?_⟩
    exact below_setRow B1 (by omega) _

set_option maxRecDepth 100000 in
set_option maxHeartbeats 2000000 in
theorem implMirrorRoof_any (c : Array Value) (r : Rf) (w : World) (hR : IsRoof c r) :
    Calls Try.prog 39 #[.agg c] w fun e w' => e = .returned (.tuple #[.agg (r.miA c), .int .i64 r.okc]) ∧ Below w.heap.size w w' := by
  by_cases ho : r.Ok
  · have e1 : r.miA c = mirA r (mir0 c r) r.all := by unfold Rf.miA; rw [if_pos (Rf.ok_true ho)]
    have e3 : r.okc = 0 := by unfold Rf.okc; rw [if_pos (Rf.ok_true ho)]
    rw [e1, e3]
    exact implMirror_go c _ r r.h.toNat r.w.toNat (by have := ho.2.2.1; omega) (by have := ho.1; omega) (by have := ho.2.2.2.1; omega) (by have := ho.2.1; omega) w hR ho rfl
  · have hc := hR.size
    have hzs := zroof_size
    have hzo := zroof_ones
    have p0 : rowAt ((w.alloc (.cells c 33)).alloc (.cells Try.zeroCells33 33)) w.heap.size = some c := (rowAt_alloc_past _ _ _ (by simp)).trans (rowAt_alloc_at _ _ _ _ rfl)
    have p1 : rowAt ((w.alloc (.cells c 33)).alloc (.cells Try.zeroCells33 33)) (w.heap.size + 1) = some Try.zeroCells33 := rowAt_alloc_at _ _ _ _ (by simp)
    have pB : Below w.heap.size w ((w.alloc (.cells c 33)).alloc (.cells Try.zeroCells33 33)) := ((Below.refl _ _).alloc (Nat.le_refl _) _).alloc (by simp) _
    have e1 : r.miA c = Try.zeroCells33 := by unfold Rf.miA; rw [Rf.ok_false ho]; rfl
    have e3 : r.okc = 1 := by unfold Rf.okc; rw [Rf.ok_false ho]; rfl
    rw [e1, e3]
    clear e1 e3
    go_enter Try.func39, Try.ntmps39
    go_wp2_with fail
    refine (implValid_f c r _ hR ho).mono ?_
    rintro e w1 ⟨rfl, b1⟩
    have q1 := brow b1 p1
    have B1 := bnext pB b1 pB.size
    clear b1 p0 p1 pB
    go_wp2_with fail
    refine bodyPost_ret (v := .tuple #[.agg Try.zeroCells33, .int .i64 1]) (results_row2 (m := 67) rfl _ _ (w.heap.size + 1) _ _ rfl rfl (rowAt_setRow_at _ _ _ (by simp [q1])) Try.underlying33 rfl (by kernel_rfl) hzs) rfl ⟨rfl, ?_⟩
    exact below_setRow B1 (by omega) _
end Go.Proofs.Ytfkcjgeeklngiaa
