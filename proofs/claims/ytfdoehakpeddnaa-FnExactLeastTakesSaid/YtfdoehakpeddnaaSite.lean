/- Cells with pipes and without: the interface site. -/
import Derived.Test.YtfdoehakpeddnaaGutG
namespace Go.Proofs.Ytfdoehakpeddnaa
open Go.RowKit

/-- A cell without a pipe, and one with a pipe, as sites. -/
def spotV (i : Int) : Value := .iface 137 (.agg #[.int .i64 i])
def outV (i x : Int) : Value := .iface 139 (.agg #[.int .i64 i, .int .i32 x])

@[go_sem] theorem as_out (v : Value) (w : World) : (Instr.typeAssert (.iface 139 v) 118 139 true).run Try.prog w = .ok (.tuple #[v, .bool true]) w := by kernel_rfl
@[go_sem] theorem as_spot (v : Value) (w : World) : (Instr.typeAssert (.iface 137 v) 118 139 true).run Try.prog w = .ok (.tuple #[.agg #[.int .i64 0, .int .i32 0], .bool false]) w := by kernel_rfl
@[go_sem] theorem at_spotM (i : Int) (w : World) : (callMethod (.iface 137 (.agg #[.int .i64 i])) "loop.example/g01376/impl.at" #[]).run Try.prog w = .ok (.enter 94 #[.agg #[.int .i64 i]]) w := by kernel_rfl
@[go_sem] theorem at_outM (i x : Int) (w : World) : (callMethod (.iface 139 (.agg #[.int .i64 i, .int .i32 x])) "loop.example/g01376/impl.at" #[]).run Try.prog w = .ok (.enter 94 #[.agg #[.int .i64 i]]) w := by kernel_rfl
@[go_sem] theorem left_spotM (i : Int) (w : World) : (callMethod (.iface 137 (.agg #[.int .i64 i])) "loop.example/g01376/impl.left" #[]).run Try.prog w = .ok (.enter 122 #[.agg #[.int .i64 i]]) w := by kernel_rfl
@[go_sem] theorem left_outM (i x : Int) (w : World) : (callMethod (.iface 139 (.agg #[.int .i64 i, .int .i32 x])) "loop.example/g01376/impl.left" #[]).run Try.prog w = .ok (.enter 122 #[.agg #[.int .i64 i]]) w := by kernel_rfl
@[go_sem] theorem right_spotM (i : Int) (w : World) : (callMethod (.iface 137 (.agg #[.int .i64 i])) "loop.example/g01376/impl.right" #[]).run Try.prog w = .ok (.enter 123 #[.agg #[.int .i64 i]]) w := by kernel_rfl
@[go_sem] theorem right_outM (i x : Int) (w : World) : (callMethod (.iface 139 (.agg #[.int .i64 i, .int .i32 x])) "loop.example/g01376/impl.right" #[]).run Try.prog w = .ok (.enter 123 #[.agg #[.int .i64 i]]) w := by kernel_rfl

set_option maxRecDepth 100000 in
set_option maxHeartbeats 1000000 in
theorem hasPipe_t (i x : Int) (w : World) :
    Calls Try.prog 80 #[outV i x] w fun e w' => e = .returned (.bool true) ∧ Below w.heap.size w w' := by
  unfold outV
  go_enter Try.func80, Try.ntmps80
  go_wp2_with fail
  go_ret
  exact ⟨rfl, Below.refl _ _⟩
set_option maxRecDepth 100000 in
set_option maxHeartbeats 1000000 in
theorem hasPipe_f (i : Int) (w : World) :
    Calls Try.prog 80 #[spotV i] w fun e w' => e = .returned (.bool false) ∧ Below w.heap.size w w' := by
  unfold spotV
  go_enter Try.func80, Try.ntmps80
  go_wp2_with fail
  go_ret
  exact ⟨rfl, Below.refl _ _⟩
theorem spotAt_any (i : Int) (w : World) :
    Calls Try.prog 94 #[.agg #[.int .i64 i]] w fun e w' => e = .returned (.int .i64 i) ∧ Below w.heap.size w w' := by
  go_enter Try.func94, Try.ntmps94
  go_wp2_with fail
  go_ret
  exact ⟨rfl, (Below.refl _ _).alloc (Nat.le_refl _) _⟩
theorem spotLeft_any (i : Int) (w : World) (hi : -1000 ≤ i ∧ i ≤ 1000) :
    Calls Try.prog 122 #[.agg #[.int .i64 i]] w fun e w' => e = .returned (.int .i64 (i - 1)) ∧ Below w.heap.size w w' := by
  go_enter Try.func122, Try.ntmps122
  go_wp2_with fail
  go_ret
  exact ⟨rfl, (Below.refl _ _).alloc (Nat.le_refl _) _⟩
theorem spotRight_any (i : Int) (w : World) (hi : -1000 ≤ i ∧ i ≤ 1000) :
    Calls Try.prog 123 #[.agg #[.int .i64 i]] w fun e w' => e = .returned (.int .i64 (i + 1)) ∧ Below w.heap.size w w' := by
  go_enter Try.func123, Try.ntmps123
  go_wp2_with fail
  go_ret
  exact ⟨rfl, (Below.refl _ _).alloc (Nat.le_refl _) _⟩

/-- Leaves lie in a cell. -/
def Gt.leaf (g : Gt) (j : Nat) : Bool := bits BinOp.and IntKind.u32 (g.l / 2 ^ j) 1 == 1
set_option maxRecDepth 100000 in
theorem hasLeaves_any (c : Array Value) (g : Gt) (v : Value) (j : Nat) (w : World) (hG : IsGut c g v) (hj : j < 32) :
    Calls Try.prog 62 #[.agg c, .int .i64 j] w fun e w' => e = .returned (.bool (g.leaf j)) ∧ Below w.heap.size w w' := by
  have hc := hG.size
  have k19 := hG.leaves
  have l0 := hG.l0
  have l1 := hG.l1
  have j0 : 0 ≤ (j : Int) := by omega
  have jn : (j : Int).toNat = j := by omega
  clear hG
  go_enter Try.func62, Try.ntmps62
  go_wp2_with fail
  go_ret
  exact ⟨rfl, (Below.refl _ _).alloc (Nat.le_refl _) _⟩
set_option maxRecDepth 100000 in
theorem l06Leaf_any (k b : Nat) (c : Array Value) (g : Gt) (v : Value) (j : Nat) (w : World) (hA : GutAt w k c g v b) (hj : j < 32) :
    Calls Try.prog 60 #[.pointer (some ⟨k, 0, none⟩), .int .i64 j] w fun e w' => e = .returned (.bool (g.leaf j)) ∧ Below w.heap.size w w' := by
  have hlt := hA.lt
  have z19 : w.cell? ⟨k, 19, none⟩ = some (.int .u32 g.l) := by rw [cell_of_rowAt hA.row]; exact hA.is.getL
  have l0 := hA.is.l0
  have l1 := hA.is.l1
  have j0 : 0 ≤ (j : Int) := by omega
  have jn : (j : Int).toNat = j := by omega
  clear hA
  go_enter Try.func60, Try.ntmps60
  go_wp2_with fail
  go_ret
  exact ⟨rfl, Below.refl _ _⟩
end Go.Proofs.Ytfdoehakpeddnaa
