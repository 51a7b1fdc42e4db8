/- For a seat whose program is loaded whole (a small one): the zero cells of the types of more than 64 cells, which a large seat's load names by itself. -/
import Derived.Test.YtgdhfcpmeaeioaaRows
namespace Go.Proofs.Ytgdhfcpmeaeioaa

@[irreducible] def Try.zeroCells28 : Array Value := #[.int .i8 0, .int .i8 0, .int .u8 0] ++ Array.replicate 64 (.int .u8 0)
@[go_sem] theorem zval_iroof (w : World) : (zeroValue 28).run Try.prog w = .ok (.agg Try.zeroCells28) w := by kernel_rfl
@[go_sem] theorem zsize_iroof : (Try.zeroCells28).size = 67 := by kernel_rfl
@[simp] theorem zne_iroof : Try.zeroCells28 ≠ #[] := by
  intro h; have := zsize_iroof; rw [h] at this; cases this

@[irreducible] def Try.zeroCells26 : Array Value := #[.int .i8 0, .int .i8 0, .int .u8 0] ++ Array.replicate 64 (.int .u8 0)
@[go_sem] theorem zval_lroof (w : World) : (zeroValue 26).run Try.prog w = .ok (.agg Try.zeroCells26) w := by kernel_rfl
@[go_sem] theorem zsize_lroof : (Try.zeroCells26).size = 67 := by kernel_rfl
@[simp] theorem zne_lroof : Try.zeroCells26 ≠ #[] := by
  intro h; have := zsize_lroof; rw [h] at this; cases this

end Go.Proofs.Ytgdhfcpmeaeioaa
