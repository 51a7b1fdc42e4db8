/- As XZero: the zero cells of the table of drips. -/
import Derived.Test.YtcbgdhbjopjdnaaZero
namespace Go.Proofs.Ytcbgdhbjopjdnaa

@[irreducible] def Try.zeroCells73 : Array Value := Array.replicate 136 (.int .i32 0)
@[go_sem] theorem zval_drips (w : World) : (zeroValue 73).run Try.prog w = .ok (.agg Try.zeroCells73) w := by kernel_rfl
@[go_sem] theorem zsize_drips : (Try.zeroCells73).size = 136 := by kernel_rfl
@[simp] theorem zne_drips : Try.zeroCells73 ≠ #[] := by
  intro h; have := zsize_drips; rw [h] at this; cases this

@[irreducible] def Try.zeroCells79 : Array Value := Array.replicate 153 (.int .i64 0) ++ Array.replicate 136 (.int .i32 0)
@[go_sem] theorem zval_flow (w : World) : (zeroValue 79).run Try.prog w = .ok (.agg Try.zeroCells79) w := by kernel_rfl
@[go_sem] theorem zsize_flow : (Try.zeroCells79).size = 289 := by kernel_rfl
@[simp] theorem zne_flow : Try.zeroCells79 ≠ #[] := by
  intro h; have := zsize_flow; rw [h] at this; cases this

end Go.Proofs.Ytcbgdhbjopjdnaa
