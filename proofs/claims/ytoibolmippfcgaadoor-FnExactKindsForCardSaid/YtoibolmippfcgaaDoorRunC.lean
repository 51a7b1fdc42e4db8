/- The program's closures that tell what drips. -/
import Derived.Test.YtoibolmippfcgaaDoorRunD
namespace Go.Proofs.YtoibolmippfcgaaDoor
open Go.RowKit

theorem drip0_any (x a : Int) (w : World) :
    Calls Tryd.prog 83 #[.int .i64 x, .int .i64 a] w fun e w' => e = .returned (.int .i64 0) ∧ w = w' := by
  go_enter Tryd.func83, Tryd.ntmps83
  go_wp2_with fail
  go_ret
  exact ⟨rfl, rfl⟩

theorem dripP_any (x a k : Int) (B : Nat) (w : World) (hB : rowAt w B = some #[.int .i64 k]) (x0 : 0 ≤ x) (x1 : x ≤ 1000) (k0 : 1 ≤ k) (k1 : k ≤ 3) :
    Calls Tryd.prog 85 #[.int .i64 x, .int .i64 a, .pointer (some ⟨B, 0, none⟩)] w fun e w' => e = .returned (.int .i64 ((x + k - 1) / k)) ∧ w = w' := by
  have hc : w.cell? ⟨B, 0, none⟩ = some (.int .i64 k) := (cell_of_rowAt hB 0).trans rfl
  clear hB
  go_enter Tryd.func85, Tryd.ntmps85
  go_wp2_with fail
  refine (dividedUp_any x k _ x0 (by omega) k0 (by omega)).mono ?_
  rintro e w1 ⟨rfl, rfl⟩
  go_wp2_with fail
  go_ret
  exact ⟨rfl, rfl⟩

theorem dripG_any (x a : Int) (w : World) :
    Calls Tryd.prog 87 #[.int .i64 x, .int .i64 a] w fun e w' => e = .returned (.int .i64 (if a = 2 then 0 else x)) ∧ w = w' := by
  by_cases h : a = 2
  · rw [if_pos h]
    subst h
    go_enter Tryd.func87, Tryd.ntmps87
    go_wp2_with fail
    go_ret
    exact ⟨rfl, rfl⟩
  · rw [if_neg h]
    have hb : (a == 2) = false := by simp [h]
    go_enter Tryd.func87, Tryd.ntmps87
    go_wp2_with fail
    go_ret
    exact ⟨rfl, rfl⟩

@[go_sem ↓] theorem loadAt_d4 (v : Value) : Instr.loadAt 79 v = loadWhole 79 v := rfl
@[go_sem ↓] theorem storeAt_d4 (a v : Value) : Instr.storeAt 79 a v = storeWhole 79 a v := rfl
@[go_sem] theorem load_d4 (w : World) (n o : Nat) : (loadWhole 79 (.pointer (some ⟨n, o, none⟩))).run Tryd.prog w = rowLoad Tryd.prog 79 4 n o w (rowAt w n) := run_load_by Tryd.underlying79 rfl (by kernel_rfl) w n o
@[go_sem] theorem store_d4 (vs : Array Value) (w : World) (n o : Nat) : (storeWhole 79 (.pointer (some ⟨n, o, none⟩)) (.agg vs)).run Tryd.prog w = rowStore Tryd.prog 79 4 n o vs w (rowAt w n) := run_store_by (by kernel_rfl) vs w n o

/-- The four closures, the second and the third with blocks of their own. -/
def dripK (B2 B3 : Nat) : Array Value := #[.func (.func 83) #[] #[], .func (.func 85) #[] #[.pointer (some ⟨B2, 0, none⟩)], .func (.func 85) #[] #[.pointer (some ⟨B3, 0, none⟩)], .func (.func 87) #[] #[]]

theorem dripPart_any (k : Int) (w : World) :
    Calls Tryd.prog 84 #[.int .i64 k] w fun e w' => e = .returned (.func (.func 85) #[] #[.pointer (some ⟨w.heap.size, 0, none⟩)]) ∧ w.alloc (.cells #[.int .i64 k] 2) = w' := by
  go_enter Tryd.func84, Tryd.ntmps84
  go_wp2_with fail
  go_ret
  exact ⟨rfl, rfl⟩

theorem ones_dripK (B2 B3 : Nat) : Ones (dripK B2 B3) := by
  intro v hv
  simp [dripK] at hv
  rcases hv with rfl | rfl | rfl | rfl <;> rfl
theorem ones_dripL (B2 B3 : Nat) : Ones #[.func (.func 83) #[] #[], .func (.func 85) #[] #[.pointer (some ⟨B2, 0, none⟩)], .func (.func 85) #[] #[.pointer (some ⟨B3, 0, none⟩)], .func (.func 87) #[] #[]] := ones_dripK B2 B3

def DripEnd (w : World) (e : Ending) (w' : World) : Prop := ∃ B2 B3, e = .returned (.agg (dripK B2 B3)) ∧ rowAt w' B2 = some #[.int .i64 2] ∧ rowAt w' B3 = some #[.int .i64 3] ∧ w.heap.size ≤ B2 ∧ w.heap.size ≤ B3 ∧ Below w.heap.size w w'

set_option maxRecDepth 100000 in
theorem drippers_any (w : World) : Calls Tryd.prog 60 #[] w (DripEnd w) := by
  go_enter Tryd.func60, Tryd.ntmps60
  go_wp2_with fail
  refine (dripPart_any 2 _).mono ?_
  rintro e w1 ⟨rfl, rfl⟩
  go_wp2_with fail
  refine (dripPart_any 3 _).mono ?_
  rintro e w1 ⟨rfl, rfl⟩
  have ho := ones_dripL (w.heap.size + 1) (w.heap.size + 1 + 1)
  go_wp2_with fail
  refine bodyPost_ret (v := .agg (dripK (w.heap.size + 1) (w.heap.size + 1 + 1))) (results_row1 rfl _ _ w.heap.size (dripK (w.heap.size + 1) (w.heap.size + 1 + 1)) rfl ?_ Tryd.underlying79 rfl (by kernel_rfl) rfl) rfl ⟨_, _, rfl, ?_, ?_, by omega, by omega, ?_⟩
  · exact (rowAt_alloc_past _ _ _ (by simp; omega)).trans ((rowAt_alloc_past _ _ _ (by simp)).trans (rowAt_alloc_at _ _ _ _ rfl))
  · exact (rowAt_alloc_past _ _ _ (by simp)).trans (rowAt_alloc_at _ _ _ _ (by simp))
  · exact rowAt_alloc_at _ _ _ _ (by simp)
  · exact (((Below.refl _ _).alloc (Nat.le_refl _) _).alloc (by simp) _).alloc (by simp; omega) _
end Go.Proofs.YtoibolmippfcgaaDoor
