/- Cells with pipes and without: the interface site. -/
import Derived.Test.YtcdddngdjhjdbaaGutG
namespace Go.Proofs.Ytcdddngdjhjdbaa
open Go.RowKit

/-- Leaves lie in a cell. -/
def Gt.leaf (g : Gt) (j : Nat) : Bool := bits BinOp.and IntKind.u32 (g.l / 2 ^ j) 1 == 1
set_option maxRecDepth 100000 in
theorem l06Leaf_any (k b : Nat) (c : Array Value) (g : Gt) (v : Value) (j : Nat) (w : World) (hA : GutAt w k c g v b) (hj : j < 32) :
    Calls Try.prog 46 #[.pointer (some ⟨k, 0, none⟩), .int .i64 j] w fun e w' => e = .returned (.bool (g.leaf j)) ∧ Below w.heap.size w w' := by
  have hlt := hA.lt
  have z19 : w.cell? ⟨k, 19, none⟩ = some (.int .u32 g.l) := by rw [cell_of_rowAt hA.row]; exact hA.is.getL
  have l0 := hA.is.l0
  have l1 := hA.is.l1
  have j0 : 0 ≤ (j : Int) := by omega
  have jn : (j : Int).toNat = j := by omega
  clear hA
  go_enter Try.func46, Try.ntmps46
  go_wp2_with fail
  go_ret
  exact ⟨rfl, Below.refl _ _⟩
end Go.Proofs.Ytcdddngdjhjdbaa
