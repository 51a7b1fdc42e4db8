/- Bits counted and turned round: the program's tables. -/
import Derived.Test.YtppohghejhcilaaDoorCol
namespace Go.Proofs.YtppohghejhcilaaDoor
open Go.RowKit

/-- The bytes that a function gives. -/
def tabOf (f : Nat → Nat) : ByteArray := ⟨((List.range 256).map fun n => (f n).toUInt8).toArray⟩
theorem tab_get (f : Nat → Nat) (hf : ∀ k : Fin 256, f k.val < 256) (n : Nat) (hn : n < 256) (T : ByteArray) (h : n < T.size) (e : T = tabOf f) : (T[n]'h).toNat = f n := by
  subst e
  show (((List.range 256).map fun n => (f n).toUInt8).toArray[n]'_).toNat = f n
  simp
  exact hf ⟨n, hn⟩
theorem pop_lt (n : Nat) : pop n 8 < 256 := by have := pop_le n 8; omega

set_option maxRecDepth 100000 in
set_option maxHeartbeats 1000000 in
theorem ones8_any (n : Nat) (w : World) (hn : n < 256) :
    Calls Tryd.prog 110 #[.int .u8 (n : Int)] w fun e w' => e = .returned (.int .i64 (pop n 8 : Int)) ∧ w = w' := by
  have hp := pop_le n 8
  go_enter Tryd.func110, Tryd.ntmps110
  go_wp2
  go_ret
  refine ⟨?_, rfl⟩
  rw [tab_get (fun n => pop n 8) (fun k => pop_lt k.val) n hn _ _ (by kernel_rfl)]
  rw [IntWalk.wrap64_in _ (by omega)]
  rfl

end Go.Proofs.YtppohghejhcilaaDoor
