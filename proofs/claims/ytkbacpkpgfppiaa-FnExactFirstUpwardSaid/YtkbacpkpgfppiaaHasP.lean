/- Whether a list has a place: both sides. -/
import Derived.Test.YtkbacpkpgfppiaaOrder
import Derived.Laws.StructEq
namespace Go.Proofs.Ytkbacpkpgfppiaa
open Go.RowKit

theorem hasP_hit {f : Nat → Int} {n k : Nat} {a b : Int} (hk : k < n) (h : f (k * 2) = a ∧ f (k * 2 + 1) = b) : hasP f n a b = true := anyI_t hk (by simp [h.1, h.2])
theorem hasP_miss {f : Nat → Int} {n : Nat} {a b : Int} (h : ∀ k, k < n → ¬ (f (k * 2) = a ∧ f (k * 2 + 1) = b)) : hasP f n a b = false := anyI_f.2 fun k hk => by simpa using h k hk

set_option maxRecDepth 100000 in
set_option maxHeartbeats 1000000 in
theorem l01Has_any (B n : Nat) (v : Value) (f : Nat → Int) (a b : Int) (w : World) (hv : IsList w B v 2 n (fun i => .int .i8 (f i))) (hn : n ≤ 2000000) :
    Calls Try.prog 53 #[v, .agg #[.int .i8 a, .int .i8 b]] w fun e w' => e = .returned (.bool (hasP f n a b)) ∧ Below w.heap.size w w' := by
  obtain ⟨av, cv, rfl⟩ := hv.shape
  go_enter Try.func53, Try.ntmps53
  go_wp2_with fail
  refine gen_world fun W0 hW => ?_
  have pB : Hid (Below w.heap.size w W0) := Lib.hid (by rw [hW]; exact (Below.refl _ _).alloc (Nat.le_refl _) _)
  have pX : Hid (rowAt W0 w.heap.size = some #[.int .i8 a, .int .i8 b]) := Lib.hid (by rw [hW]; exact rowAt_alloc_at _ _ _ _ rfl)
  have HV := Lib.hid (hv.below pB.out (Nat.le_refl _))
  clear hW hv
  go_loopw [5] (fun i' W => ∃ k : Nat, k ≤ n ∧ i' = .int .i64 k ∧ Hid (∀ q, q < k → ¬ (f (q * 2) = a ∧ f (q * 2 + 1) = b)) ∧ Below W0.heap.size W0 W) (fun i' _ => n - (intOf i').toNat)
  case atStart => exact ⟨0, by omega, rfl, Lib.hid (by omega), Below.refl _ _⟩
  case round =>
    obtain ⟨k, hk, rfl, hF, hB⟩ := hrel
    by_cases hlt : k < n
    · obtain ⟨gg, rfl, c0, c1⟩ := (HV.out.below hB (Nat.le_refl _)).pl hlt
      have x0 := cell_of_rowAt (brow hB pX.out) 0
      have x1 := cell_of_rowAt (brow hB pX.out) 1
      have hi0 : 0 ≤ (k : Int) := by omega
      have hi1 : (k : Int) < n := by omega
      have HB := Lib.hid hB
      clear hB
      by_cases hx : f (k * 2) = a ∧ f (k * 2 + 1) = b
      · have HX := Lib.hid hx
        obtain ⟨h0, h1⟩ := hx
        have e0 : (f (k * 2) == a) = true := by simp [h0]
        have e1 : (f (k * 2 + 1) == b) = true := by simp [h1]
        clear h0 h1
        go_wp2_with fail
        go_quiet (fail)
        go_wp2_with fail
        go_ret
        exact ⟨by rw [hasP_hit hlt HX.out]; rfl, below_drewN (pB.out.trans (HB.out.mono pB.out.size)) _⟩
      · have HX := Lib.hid hx
        by_cases h0 : f (k * 2) = a
        · have h1 : ¬ f (k * 2 + 1) = b := fun e => hx ⟨h0, e⟩
          have e0 : (f (k * 2) == a) = true := by simp [h0]
          have e1 : (f (k * 2 + 1) == b) = false := by simp [h1]
          clear h0 h1 hx
          go_wp2_with fail
          go_quiet (fail)
          go_wp2_with fail
          refine ⟨⟨k + 1, by omega, by go_num, Lib.hid (fun q hq => ?_), below_drewN HB.out _⟩, by simp [intOf]; omega⟩
          by_cases e : q = k
          · subst e; exact HX.out
          · exact hF.out q (by omega)
        · have e0 : (f (k * 2) == a) = false := by simp [h0]
          clear h0 hx
          go_wp2_with fail
          go_quiet (fail)
          go_wp2_with fail
          refine ⟨⟨k + 1, by omega, by go_num, Lib.hid (fun q hq => ?_), below_drewN HB.out _⟩, by simp [intOf]; omega⟩
          by_cases e : q = k
          · subst e; exact HX.out
          · exact hF.out q (by omega)
    · obtain rfl : k = n := by omega
      go_wp2_with fail
      go_ret
      exact ⟨by rw [hasP_miss hF.out]; rfl, pB.out.trans (hB.mono pB.out.size)⟩
end Go.Proofs.Ytkbacpkpgfppiaa
