/- Contracts of the laws' comparisons, where both sides are the same. -/
import Derived.Test.YtgdhfcpmeaeioaaDoorTy
import Derived.Test.YtgdhfcpmeaeioaaDoorRoof
import Derived.Deep.QuietTactic
import Derived.BigQuiet
import Derived.StillTailTactics
namespace Go.Proofs.YtgdhfcpmeaeioaaDoor
open Go.RowKit

set_option maxRecDepth 100000 in
set_option maxHeartbeats 400000 in
theorem eqByteA8_same (xs : Array Value) (t : Nat → Int) (w : World) (hX : IsU8 xs 8 t) :
    Calls Tryd.prog 65 #[.agg xs, .agg xs] w fun e w' => e = .returned (.bool true) ∧ Below w.heap.size w w' := by
  have hx := hX.size
  have H := Lib.hid hX; clear hX
  go_enter Tryd.func65, Tryd.ntmps65
  go_wp2
  go_loopw [5] (fun i W => ∃ k : Nat, k ≤ 8 ∧ i = .int .i64 k ∧ rowAt W w.heap.size = some xs ∧ rowAt W (w.heap.size + 1) = some xs ∧ Below w.heap.size w W) (fun i _ => 8 - (intOf i).toNat)
  case atStart => exact ⟨0, by omega, rfl, (rowAt_alloc_past _ _ _ (by simp)).trans (rowAt_alloc_at _ _ _ _ rfl), rowAt_alloc_at _ _ _ _ (by simp), ((Below.refl _ _).alloc (Nat.le_refl _) _).alloc (by simp) _⟩
  case round =>
    obtain ⟨k, hk, rfl, r0, r1, hB⟩ := hrel
    by_cases hlt : k < 8
    · have hk1 : k < xs.size := by omega
      have h0 := H.out.cell k hk1
      have c0 : wr.cell? ⟨w.heap.size, k, none⟩ = some (.int .u8 (t k)) := by rw [cell_of_rowAt r0, Array.getElem?_eq_getElem hk1, h0]
      have c1 : wr.cell? ⟨w.heap.size + 1, k, none⟩ = some (.int .u8 (t k)) := by rw [cell_of_rowAt r1, Array.getElem?_eq_getElem hk1, h0]
      have hi0 : 0 ≤ (k : Int) := by omega
      have hi1 : (k : Int) < 8 := by omega
      go_wp2
      go_quiet (fail)
      go_wp2
      refine ⟨⟨k + 1, by omega, by go_num, r0, r1, below_drewN hB _⟩, by simp [intOf]; omega⟩
    · go_wp2
      go_ret
      exact ⟨rfl, hB⟩

set_option maxRecDepth 100000 in
set_option maxHeartbeats 400000 in
theorem eqByteA8A8_same (xs : Array Value) (t : Nat → Int) (w : World) (hX : IsU8 xs 64 t) :
    Calls Tryd.prog 35 #[.agg xs, .agg xs] w fun e w' => e = .returned (.bool true) ∧ Below w.heap.size w w' := by
  have hx := hX.size
  have H := Lib.hid hX; clear hX
  go_enter Tryd.func35, Tryd.ntmps35
  go_wp2
  go_loopw [5] (fun i W => ∃ k : Nat, k ≤ 8 ∧ i = .int .i64 k ∧ rowAt W w.heap.size = some xs ∧ rowAt W (w.heap.size + 1) = some xs ∧ Below w.heap.size w W) (fun i _ => 8 - (intOf i).toNat)
  case atStart => exact ⟨0, by omega, rfl, (rowAt_alloc_past _ _ _ (by simp)).trans (rowAt_alloc_at _ _ _ _ rfl), rowAt_alloc_at _ _ _ _ (by simp), ((Below.refl _ _).alloc (Nat.le_refl _) _).alloc (by simp) _⟩
  case round =>
    obtain ⟨k, hk, rfl, r0, r1, hB⟩ := hrel
    by_cases hlt : k < 8
    · have hk8 : k * 8 + 8 ≤ 64 := by omega
      have hi0 : 0 ≤ (k : Int) := by omega
      have hi1 : (k : Int) < 8 := by omega
      go_wp2
      go_still_tail 6, (by kernel_rfl)
      change wpList _ _ _ _ _ wr.drew
      go_wp2_with fail
      refine (eqByteA8_same _ _ _ (H.out.extract (k * 8) 8 hk8)).mono ?_
      rintro e w1 ⟨rfl, hb⟩
      have q0 := brow hb r0
      have q1 := brow hb r1
      have hB1 := (hB.drew).trans (hb.mono hB.size)
      clear hb r0 r1
      go_wp2_with fail
      refine ⟨⟨k + 1, by omega, by go_num, q0, q1, hB1⟩, by simp [intOf]; omega⟩
    · go_wp2
      go_ret
      exact ⟨rfl, hB⟩

set_option maxRecDepth 100000 in
set_option maxHeartbeats 400000 in
theorem eqRoof_same (c : Array Value) (r : Rf) (w : World) (hR : IsRoof c r) :
    Calls Tryd.prog 10 #[.agg c, .agg c] w fun e w' => e = .returned (.bool true) ∧ Below w.heap.size w w' := by
  obtain ⟨hc, k0, k1, k2, w0, w1, h0, h1, s0, s1⟩ := hR.view
  have H := Lib.hid hR; clear hR
  have e0 : (r.w != r.w) = false := by simp
  have e1 : (r.h != r.h) = false := by simp
  have e2 : (r.s != r.s) = false := by simp
  go_enter Tryd.func10, Tryd.ntmps10
  go_wp2_with fail
  refine (eqByteA8A8_same _ _ _ H.out.tiles).mono ?_
  rintro e w1 ⟨rfl, hb⟩
  have hB1 : Below w.heap.size w w1 := (((Below.refl _ _).alloc (Nat.le_refl _) _).alloc (by simp) _).trans (hb.mono (by simp; omega))
  clear hb
  go_wp2_with fail
  go_ret
  exact ⟨rfl, hB1⟩

end Go.Proofs.YtgdhfcpmeaeioaaDoor
