/-
  DERIVED. GIVEN WITH THE SEED: THE PROGRAM's TIES (one call each: nine closed facts by the kernel) AND EACH ROW's TIE, after the 31st guide's Derived/Test/Toyas{Tie, Card}.lean. No idea stands in it: it is a product of the set-up. Laid BY PROGRAM, IN A SANDBOX (cutbox-door.mjs). By AI agents, Wed Nov 11 2026. No macro, syntax, notation, axiom, sorry.
-/
import Derived.Test.YtoibolmippfcgaaDoorRows
import Derived.LaidByTextLater
import Derived.SevenTiedAt
import Derived.LaidSub
import Derived.LaidOnce
namespace Go.Proofs.YtoibolmippfcgaaDoor
open Go
set_option maxRecDepth 100000
theorem seatTie1 : Tryd.prog.laidByTextLater [("loop.example/g01376/impl.errNotValid", Rows.laid_loop_example_g01376_impl_errNotValid), ("loop.example/g01376/impl.errNoSuch", Rows.laid_loop_example_g01376_impl_errNoSuch), ("loop.example/g01376/impl.errTooMany", Rows.laid_loop_example_g01376_impl_errTooMany), ("loop.example/g01376/impl.errUnsound", Rows.laid_loop_example_g01376_impl_errUnsound), ("loop.example/g01376/impl.errUnlike", Rows.laid_loop_example_g01376_impl_errUnlike), ("loop.example/g01376/impl.errNotKept", Rows.laid_loop_example_g01376_impl_errNotKept)] [.sentinel, .sentinel, .sentinel, .sentinel, .sentinel, .sentinel] true :=
  Program.laidByTextLater_by_one 123 8 2 (by kernel_rfl) (by kernel_rfl) (by kernel_rfl) (by kernel_rfl) (by kernel_rfl) (by kernel_rfl) (fun _ _ => by kernel_rfl)
theorem noOwnUnsafe : Tryd.pinned.checked.prog.headLifts.contains "ownunsafe" = false := by kernel_rfl
theorem tie : Tryd.prog.laidByTextLater [("loop.example/g01376/impl.errNotValid", Rows.laid_loop_example_g01376_impl_errNotValid), ("loop.example/g01376/impl.errNoSuch", Rows.laid_loop_example_g01376_impl_errNoSuch), ("loop.example/g01376/impl.errTooMany", Rows.laid_loop_example_g01376_impl_errTooMany), ("loop.example/g01376/impl.errUnsound", Rows.laid_loop_example_g01376_impl_errUnsound), ("loop.example/g01376/impl.errUnlike", Rows.laid_loop_example_g01376_impl_errUnlike), ("loop.example/g01376/impl.errNotKept", Rows.laid_loop_example_g01376_impl_errNotKept)] [.sentinel, .sentinel, .sentinel, .sentinel, .sentinel, .sentinel] true :=
  Program.laidByTextLater.sub seatTie1 ["loop.example/g01376/impl.errNotValid", "loop.example/g01376/impl.errNoSuch", "loop.example/g01376/impl.errTooMany", "loop.example/g01376/impl.errUnsound", "loop.example/g01376/impl.errUnlike", "loop.example/g01376/impl.errNotKept"] (by kernel_rfl) (by kernel_rfl)
theorem fnExactDripAfter_row_tie : Rows.fnExactDripAfterRow.laidByTextAt .later Tryd.pinned [.sentinel, .sentinel, .sentinel, .sentinel, .sentinel, .sentinel] true :=
  OpenClaim.laidByTextAt_later rfl rfl tie noOwnUnsafe
theorem fnExactCheckRepairs_row_tie : Rows.fnExactCheckRepairsRow.laidByTextAt .later Tryd.pinned [.sentinel, .sentinel, .sentinel, .sentinel, .sentinel, .sentinel] true :=
  OpenClaim.laidByTextAt_later rfl rfl tie noOwnUnsafe
theorem fnExactExplains_row_tie : Rows.fnExactExplainsRow.laidByTextAt .later Tryd.pinned [.sentinel, .sentinel, .sentinel, .sentinel, .sentinel, .sentinel] true :=
  OpenClaim.laidByTextAt_later rfl rfl tie noOwnUnsafe
theorem fnExactComesTo_row_tie : Rows.fnExactComesToRow.laidByTextAt .later Tryd.pinned [.sentinel, .sentinel, .sentinel, .sentinel, .sentinel, .sentinel] true :=
  OpenClaim.laidByTextAt_later rfl rfl tie noOwnUnsafe
theorem fnExactKindsFor_row_tie : Rows.fnExactKindsForRow.laidByTextAt .later Tryd.pinned [.sentinel, .sentinel, .sentinel, .sentinel, .sentinel, .sentinel] true :=
  OpenClaim.laidByTextAt_later rfl rfl tie noOwnUnsafe
theorem fnExactDripAfterUpto_row_tie : Rows.fnExactDripAfterUptoRow.laidByTextAt .later Tryd.pinned [.sentinel, .sentinel, .sentinel, .sentinel, .sentinel, .sentinel] true :=
  OpenClaim.laidByTextAt_later rfl rfl tie noOwnUnsafe
theorem fnExactCheckRepairsUpto_row_tie : Rows.fnExactCheckRepairsUptoRow.laidByTextAt .later Tryd.pinned [.sentinel, .sentinel, .sentinel, .sentinel, .sentinel, .sentinel] true :=
  OpenClaim.laidByTextAt_later rfl rfl tie noOwnUnsafe
theorem fnExactExplainsUpto_row_tie : Rows.fnExactExplainsUptoRow.laidByTextAt .later Tryd.pinned [.sentinel, .sentinel, .sentinel, .sentinel, .sentinel, .sentinel] true :=
  OpenClaim.laidByTextAt_later rfl rfl tie noOwnUnsafe
theorem fnExactComesToUpto_row_tie : Rows.fnExactComesToUptoRow.laidByTextAt .later Tryd.pinned [.sentinel, .sentinel, .sentinel, .sentinel, .sentinel, .sentinel] true :=
  OpenClaim.laidByTextAt_later rfl rfl tie noOwnUnsafe
theorem fnExactKindsForUpto_row_tie : Rows.fnExactKindsForUptoRow.laidByTextAt .later Tryd.pinned [.sentinel, .sentinel, .sentinel, .sentinel, .sentinel, .sentinel] true :=
  OpenClaim.laidByTextAt_later rfl rfl tie noOwnUnsafe
end Go.Proofs.YtoibolmippfcgaaDoor
