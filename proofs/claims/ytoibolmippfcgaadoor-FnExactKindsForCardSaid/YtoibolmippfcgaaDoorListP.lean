/- The laws' helpers that compare, mark and hold lists of places. -/
import Derived.Test.YtoibolmippfcgaaDoorList
import Derived.Test.YtoibolmippfcgaaDoorSame
namespace Go.Proofs.YtoibolmippfcgaaDoor
open Go.RowKit

set_option maxRecDepth 100000 in
set_option maxHeartbeats 400000 in
theorem eqPlaceS_same (n : Nat) (f : Nat → Int) (v u : Value) (b b' : Nat) (w : World) (hv : IsList w b v 2 n fun i => .int .i8 (f i)) (hu : IsList w b' u 2 n fun i => .int .i8 (f i)) (hn : n ≤ 2000000) :
    Calls Tryd.prog 14 #[v, u] w fun e w' => e = .returned (.bool true) ∧ Below w.heap.size w w' := by
  have HV := Lib.hid hv
  have HU := Lib.hid hu
  obtain ⟨av, cv, rfl⟩ := hv.shape
  obtain ⟨au, cu, rfl⟩ := hu.shape
  clear hv hu
  have hnn : ((n : Int) != n) = false := by simp
  go_enter Tryd.func14, Tryd.ntmps14
  go_wp2_with fail
  go_loopw [5] (fun i W => ∃ k : Nat, k ≤ n ∧ i = .int .i64 k ∧ Below w.heap.size w W) (fun i _ => n - (intOf i).toNat)
  case atStart => exact ⟨0, by omega, rfl, Below.refl _ _⟩
  case round =>
    obtain ⟨k, hk, rfl, hB⟩ := hrel
    by_cases hlt : k < n
    · rcases HV.out.below hB (Nat.le_refl _) with ⟨h0, _⟩ | ⟨g, cap, cur, e1, hg, hr, hs, hf⟩
      · omega
      rcases HU.out.below hB (Nat.le_refl _) with ⟨h0, _⟩ | ⟨g', cap', cur', e2, hg', hr', hs', hf'⟩
      · omega
      cases e1
      cases e2
      have c0 : wr.cell? ⟨g, k * 2, none⟩ = some (.int .i8 (f (k * 2))) := by rw [cell_of_rowAt hr]; exact hf _ (by omega)
      have c1 : wr.cell? ⟨g, k * 2 + 1, none⟩ = some (.int .i8 (f (k * 2 + 1))) := by rw [cell_of_rowAt hr]; exact hf _ (by omega)
      have d0 : wr.cell? ⟨g', k * 2, none⟩ = some (.int .i8 (f (k * 2))) := by rw [cell_of_rowAt hr']; exact hf' _ (by omega)
      have d1 : wr.cell? ⟨g', k * 2 + 1, none⟩ = some (.int .i8 (f (k * 2 + 1))) := by rw [cell_of_rowAt hr']; exact hf' _ (by omega)
      have hi0 : 0 ≤ (k : Int) := by omega
      have hi1 : (k : Int) < n := by omega
      clear hf hf' hs hs' hr hr'
      go_wp2_with fail
      go_still_tail 8, (by kernel_rfl)
      change wpList _ _ _ _ _ wr.drew
      go_wp2_with fail
      refine (eqPlace_same _ _ _).mono ?_
      rintro e w1 ⟨rfl, hb⟩
      have hB1 := (hB.drew).trans (hb.mono hB.size)
      clear hb c0 c1 d0 d1
      go_wp2_with fail
      refine ⟨⟨k + 1, by omega, by go_num, hB1⟩, by simp [intOf]; omega⟩
    · go_wp2_with fail
      go_ret
      exact ⟨rfl, hB⟩

/-- What is marked: the numbers from m on, as they fit. -/
def markP (m i : Nat) : Int := IntKind.i8.wrap ((m : Int) + i)

end Go.Proofs.YtoibolmippfcgaaDoor
