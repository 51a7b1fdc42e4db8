/-
  DERIVED. GIVEN WITH THE SEED: THE PROGRAM's TIES (one call each: nine closed facts by the kernel) AND EACH ROW's TIE, after the 31st guide's Derived/Test/Toyas{Tie, Card}.lean. No idea stands in it: it is a product of the set-up. Laid BY PROGRAM, IN A SANDBOX (cutbox-door.mjs). By AI agents, Wed Nov 11 2026. No macro, syntax, notation, axiom, sorry.
-/
import Derived.Test.YtcopdilmkfmpiaaDoorRows
import Derived.LaidByTextLater
import Derived.SevenTiedAt
import Derived.LaidSub
import Derived.LaidOnce
namespace Go.Proofs.YtcopdilmkfmpiaaDoor
open Go
set_option maxRecDepth 100000
theorem seatTie1 : Tryd.prog.laidByTextLater [("loop.example/g01376/impl.codeNames", Rows.laid_loop_example_g01376_impl_codeNames), ("loop.example/g01376/impl.errNotValid", Rows.laid_loop_example_g01376_impl_errNotValid), ("loop.example/g01376/impl.errNoSuch", Rows.laid_loop_example_g01376_impl_errNoSuch), ("loop.example/g01376/impl.errTooMany", Rows.laid_loop_example_g01376_impl_errTooMany), ("loop.example/g01376/impl.errUnsound", Rows.laid_loop_example_g01376_impl_errUnsound), ("loop.example/g01376/impl.errUnlike", Rows.laid_loop_example_g01376_impl_errUnlike), ("loop.example/g01376/impl.errNotKept", Rows.laid_loop_example_g01376_impl_errNotKept)] [.data, .sentinel, .sentinel, .sentinel, .sentinel, .sentinel, .sentinel] true :=
  Program.laidByTextLater_by_one 128 8 10 (by kernel_rfl) (by kernel_rfl) (by kernel_rfl) (by kernel_rfl) (by kernel_rfl) (by kernel_rfl) (fun _ _ => by kernel_rfl)
theorem noOwnUnsafe : Tryd.pinned.checked.prog.headLifts.contains "ownunsafe" = false := by kernel_rfl
theorem tie : Tryd.prog.laidByTextLater [("loop.example/g01376/impl.codeNames", Rows.laid_loop_example_g01376_impl_codeNames)] [.data] true :=
  Program.laidByTextLater.sub seatTie1 ["loop.example/g01376/impl.codeNames"] (by kernel_rfl) (by kernel_rfl)
theorem fnExactCodeName_row_tie : Rows.fnExactCodeNameRow.laidByTextAt .later Tryd.pinned [.data] true :=
  OpenClaim.laidByTextAt_later rfl rfl tie noOwnUnsafe
theorem tie2 : Tryd.prog.laidByTextLater [("loop.example/g01376/impl.errNotValid", Rows.laid_loop_example_g01376_impl_errNotValid), ("loop.example/g01376/impl.errNoSuch", Rows.laid_loop_example_g01376_impl_errNoSuch), ("loop.example/g01376/impl.errTooMany", Rows.laid_loop_example_g01376_impl_errTooMany), ("loop.example/g01376/impl.errUnsound", Rows.laid_loop_example_g01376_impl_errUnsound), ("loop.example/g01376/impl.errUnlike", Rows.laid_loop_example_g01376_impl_errUnlike), ("loop.example/g01376/impl.errNotKept", Rows.laid_loop_example_g01376_impl_errNotKept)] [.sentinel, .sentinel, .sentinel, .sentinel, .sentinel, .sentinel] true :=
  Program.laidByTextLater.sub seatTie1 ["loop.example/g01376/impl.errNotValid", "loop.example/g01376/impl.errNoSuch", "loop.example/g01376/impl.errTooMany", "loop.example/g01376/impl.errUnsound", "loop.example/g01376/impl.errUnlike", "loop.example/g01376/impl.errNotKept"] (by kernel_rfl) (by kernel_rfl)
theorem fnExactDripAfter_row_tie : Rows.fnExactDripAfterRow.laidByTextAt .later Tryd.pinned [.sentinel, .sentinel, .sentinel, .sentinel, .sentinel, .sentinel] true :=
  OpenClaim.laidByTextAt_later rfl rfl tie2 noOwnUnsafe
theorem fnExactCheckRepairs_row_tie : Rows.fnExactCheckRepairsRow.laidByTextAt .later Tryd.pinned [.sentinel, .sentinel, .sentinel, .sentinel, .sentinel, .sentinel] true :=
  OpenClaim.laidByTextAt_later rfl rfl tie2 noOwnUnsafe
theorem fnExactComesTo_row_tie : Rows.fnExactComesToRow.laidByTextAt .later Tryd.pinned [.sentinel, .sentinel, .sentinel, .sentinel, .sentinel, .sentinel] true :=
  OpenClaim.laidByTextAt_later rfl rfl tie2 noOwnUnsafe
theorem fnExactExplains_row_tie : Rows.fnExactExplainsRow.laidByTextAt .later Tryd.pinned [.sentinel, .sentinel, .sentinel, .sentinel, .sentinel, .sentinel] true :=
  OpenClaim.laidByTextAt_later rfl rfl tie2 noOwnUnsafe
theorem fnExactKindsFor_row_tie : Rows.fnExactKindsForRow.laidByTextAt .later Tryd.pinned [.sentinel, .sentinel, .sentinel, .sentinel, .sentinel, .sentinel] true :=
  OpenClaim.laidByTextAt_later rfl rfl tie2 noOwnUnsafe
theorem fnExactNeedlessRepairs_row_tie : Rows.fnExactNeedlessRepairsRow.laidByTextAt .later Tryd.pinned [.sentinel, .sentinel, .sentinel, .sentinel, .sentinel, .sentinel] true :=
  OpenClaim.laidByTextAt_later rfl rfl tie2 noOwnUnsafe
theorem fnExactGroupsOf_row_tie : Rows.fnExactGroupsOfRow.laidByTextAt .later Tryd.pinned [.sentinel, .sentinel, .sentinel, .sentinel, .sentinel, .sentinel] true :=
  OpenClaim.laidByTextAt_later rfl rfl tie2 noOwnUnsafe
theorem fnExactCodeNameUpto_row_tie : Rows.fnExactCodeNameUptoRow.laidByTextAt .later Tryd.pinned [.data] true :=
  OpenClaim.laidByTextAt_later rfl rfl tie noOwnUnsafe
theorem fnExactDripAfterUpto_row_tie : Rows.fnExactDripAfterUptoRow.laidByTextAt .later Tryd.pinned [.sentinel, .sentinel, .sentinel, .sentinel, .sentinel, .sentinel] true :=
  OpenClaim.laidByTextAt_later rfl rfl tie2 noOwnUnsafe
theorem fnExactCheckRepairsUpto_row_tie : Rows.fnExactCheckRepairsUptoRow.laidByTextAt .later Tryd.pinned [.sentinel, .sentinel, .sentinel, .sentinel, .sentinel, .sentinel] true :=
  OpenClaim.laidByTextAt_later rfl rfl tie2 noOwnUnsafe
theorem fnExactComesToUpto_row_tie : Rows.fnExactComesToUptoRow.laidByTextAt .later Tryd.pinned [.sentinel, .sentinel, .sentinel, .sentinel, .sentinel, .sentinel] true :=
  OpenClaim.laidByTextAt_later rfl rfl tie2 noOwnUnsafe
theorem fnExactExplainsUpto_row_tie : Rows.fnExactExplainsUptoRow.laidByTextAt .later Tryd.pinned [.sentinel, .sentinel, .sentinel, .sentinel, .sentinel, .sentinel] true :=
  OpenClaim.laidByTextAt_later rfl rfl tie2 noOwnUnsafe
theorem fnExactKindsForUpto_row_tie : Rows.fnExactKindsForUptoRow.laidByTextAt .later Tryd.pinned [.sentinel, .sentinel, .sentinel, .sentinel, .sentinel, .sentinel] true :=
  OpenClaim.laidByTextAt_later rfl rfl tie2 noOwnUnsafe
theorem fnExactNeedlessRepairsUpto_row_tie : Rows.fnExactNeedlessRepairsUptoRow.laidByTextAt .later Tryd.pinned [.sentinel, .sentinel, .sentinel, .sentinel, .sentinel, .sentinel] true :=
  OpenClaim.laidByTextAt_later rfl rfl tie2 noOwnUnsafe
theorem fnExactGroupsOfUpto_row_tie : Rows.fnExactGroupsOfUptoRow.laidByTextAt .later Tryd.pinned [.sentinel, .sentinel, .sentinel, .sentinel, .sentinel, .sentinel] true :=
  OpenClaim.laidByTextAt_later rfl rfl tie2 noOwnUnsafe
end Go.Proofs.YtcopdilmkfmpiaaDoor
