/- Contracts on the tile that covers a cell, and on how many cells there are. -/
import Derived.Test.YtgdhfcpmeaeioaaDoorCourse
namespace Go.Proofs.YtgdhfcpmeaeioaaDoor
open Go.RowKit

theorem l01Cells_any (n : Nat) (c : Array Value) (r : Rf) (w : World) (hr : rowAt w n = some c) (hR : IsRoof c r) :
    Calls Tryd.prog 55 #[.pointer (some ⟨n, 0, none⟩)] w fun e w' => e = .returned (.int .i64 (2 * r.w + 1)) ∧ w = w' := by
  have hcell := cell_of_rowAt hr
  obtain ⟨hc, k0, k1, k2, w0, w1, h0, h1, s0, s1⟩ := hR.view
  clear hR hr k1 k2
  go_enter Tryd.func55, Tryd.ntmps55
  go_wp2_with fail
  go_ret
  exact ⟨rfl, rfl⟩

/-- The tile that covers a cell, or -1. -/
def Rf.tile (r : Rf) (k cell : Int) : Int := if cell - r.by k < 0 ∨ r.w ≤ (cell - r.by k) / 2 then -1 else (cell - r.by k) / 2

theorem across_any (c : Array Value) (r : Rf) (w : World) (hR : IsRoof c r) :
    Calls Tryd.prog 51 #[.agg c] w fun e w' => e = .returned (.int .i64 (2 * r.w + 1)) ∧ Below w.heap.size w w' := by
  obtain ⟨hc, k0, k1, k2, w0, wl, h0, h1, s0, s1⟩ := hR.view
  clear hR k1 k2
  go_enter Tryd.func51, Tryd.ntmps51
  go_wp2_with fail
  go_ret
  exact ⟨rfl, (Below.refl _ _).alloc (Nat.le_refl _) _⟩

end Go.Proofs.YtgdhfcpmeaeioaaDoor
