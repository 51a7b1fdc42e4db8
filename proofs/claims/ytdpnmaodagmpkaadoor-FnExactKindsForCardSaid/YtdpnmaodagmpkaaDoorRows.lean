/-
  NARROWER THAN 'FOR EVERY INPUT', by the rows' own cells (each row's printed sentence says how): FnExactKindsFor: ifaces, laid · FnExactNeedlessRepairs: ifaces, laid · FnExactGroupsOf: ifaces, laid · FnExactLeastDrip: ifaces, laid · FnExactFewestRepairs: ifaces, laid.
  DERIVED. THE GIVEN ROWS OF THIS SEAT. 5 by the template 'for every input the law returns true; each argument reads behind the call as it read before'; 0 by the template 'total and deterministic' (their statements: YtdpnmaodagmpkaaDoorTotals.lean).
  GIVEN WITH THE SEED: the statements are not yours to turn. If you find one false, say at which input.
  Laid BY PROGRAM, IN A SANDBOX (cutbox-rows.mjs): the forced cells as the released guide's own fill.sh prints them over the translation b6b842fd3d2eb760… (all of the seat's roots in one cut). By AI agents, Wed Nov 11 2026. No macro, syntax, notation, axiom, sorry.
-/
import Derived.Test.YtdpnmaodagmpkaaDoorChecked
import GoSem.Claim
import GoSem.ClaimJoined
import GoSem.ClaimMapViews
import Derived.JoinedTies
import Derived.KernelRfl
namespace Go.Proofs.YtdpnmaodagmpkaaDoor
/- THE CELL 'sum', in the pinned program and in every row, IS THE sha256 OF THE DUMP (.gsa) THAT YtdpnmaodagmpkaaDoorProg.lean LOADS. Nothing in Lean hashes anything: it is a label: what it is worth is what the hold of that sum in a sandbox is worth. -/
noncomputable def Tryd.pinned : Pinned := { name := "ytdpnmaodagmpkaadoor", sum := "b6b842fd3d2eb76017fa92691f8b14f012ed6029caeb690ad7dfe5d847cdf040", checked := Tryd.checked }
namespace Rows
def none {H : Type} : Left H := { results := [], args := [] }

/- WHAT THE LISTED PACKAGE-LEVEL VARIABLES READ AS WHEN THE CALL BEGINS. Each datum BY PROGRAM (the guide's laid-datum.mjs) off the statement by which the dump's own 'gosem.cut.vars' lays the variable. In a bare row this is a premise. The card (YtdpnmaodagmpkaaDoorCards.lean) ties it to the program's text. -/
def laid_loop_example_g01376_impl_errNotValid {H : Type} : DataW H := .iface "*errors.errorString" (.ptr (.agg [.lit (.string [97, 32, 114, 111, 111, 102, 32, 111, 114, 32, 114, 97, 105, 110, 32, 105, 115, 32, 110, 111, 116, 32, 118, 97, 108, 105, 100])]))
def laid_loop_example_g01376_impl_errNoSuch {H : Type} : DataW H := .iface "*errors.errorString" (.ptr (.agg [.lit (.string [116, 104, 101, 114, 101, 32, 105, 115, 32, 110, 111, 32, 115, 117, 99, 104, 32, 112, 108, 97, 99, 101, 32, 111, 114, 32, 110, 117, 109, 98, 101, 114])]))
def laid_loop_example_g01376_impl_errTooMany {H : Type} : DataW H := .iface "*errors.errorString" (.ptr (.agg [.lit (.string [116, 104, 101, 114, 101, 32, 97, 114, 101, 32, 116, 111, 111, 32, 109, 97, 110, 121])]))
def laid_loop_example_g01376_impl_errUnsound {H : Type} : DataW H := .iface "*errors.errorString" (.ptr (.agg [.lit (.string [100, 114, 105, 112, 115, 32, 97, 114, 101, 32, 110, 111, 116, 32, 115, 111, 117, 110, 100])]))
def laid_loop_example_g01376_impl_errUnlike {H : Type} : DataW H := .iface "*errors.errorString" (.ptr (.agg [.lit (.string [114, 111, 111, 102, 115, 32, 97, 114, 101, 32, 110, 111, 116, 32, 97, 108, 105, 107, 101])]))
def laid_loop_example_g01376_impl_errNotKept {H : Type} : DataW H := .iface "*errors.errorString" (.ptr (.agg [.lit (.string [97, 32, 98, 111, 117, 110, 100, 32, 105, 115, 32, 110, 111, 116, 32, 107, 101, 112, 116])]))

/-- 'laws.FnExactKindsFor': WHATEVER THE INPUT: true; the input reads as it did. -/
def fnExactKindsForSpec : ChangeSpec := { name := "fnExactKindsFor", vars := ["loop.example/g01376/impl.errUnsound", "loop.example/g01376/impl.errNotValid", "loop.example/g01376/impl.errNoSuch", "loop.example/g01376/impl.errTooMany", "loop.example/g01376/impl.errUnlike", "loop.example/g01376/impl.errNotKept"], fn := fun _ => fun
  | [d1, d2, d3, d4, g1, g2, g3, g4, g5, g6] => { results := [.lit (.bool true)], args := [d1, d2, d3, d4], vars := [g1, g2, g3, g4, g5, g6] }
  | _ => none }
def fnExactKindsForRow : OpenClaim := { program := "ytdpnmaodagmpkaadoor", sum := "b6b842fd3d2eb76017fa92691f8b14f012ed6029caeb690ad7dfe5d847cdf040", func := "loop.example/g01376/laws.FnExactKindsFor", spec := "fnExactKindsFor", inPlace := ["internal/reflectlite.TypeOf"], unfollowed := true, recurses := true, named := ["loop.example/g01376/impl.errUnsound", "loop.example/g01376/impl.errNotValid", "loop.example/g01376/impl.errNoSuch", "loop.example/g01376/impl.errTooMany", "loop.example/g01376/impl.errUnlike", "loop.example/g01376/impl.errNotKept"], ifaces := true, plainKeys := false, apart := false, laid := [("loop.example/g01376/impl.errNotValid", laid_loop_example_g01376_impl_errNotValid), ("loop.example/g01376/impl.errNoSuch", laid_loop_example_g01376_impl_errNoSuch), ("loop.example/g01376/impl.errTooMany", laid_loop_example_g01376_impl_errTooMany), ("loop.example/g01376/impl.errUnsound", laid_loop_example_g01376_impl_errUnsound), ("loop.example/g01376/impl.errUnlike", laid_loop_example_g01376_impl_errUnlike), ("loop.example/g01376/impl.errNotKept", laid_loop_example_g01376_impl_errNotKept)] }
def FnExactKindsForSaid : Prop := fnExactKindsForRow.holds Tryd.pinned (OpenSpec.ofChange fnExactKindsForSpec)

/-- ITS FALSE NEIGHBOUR: 'it returns false'. Refute it at one input. -/
def fnExactKindsForWrong : ChangeSpec := { name := "fnExactKindsFor", vars := ["loop.example/g01376/impl.errUnsound", "loop.example/g01376/impl.errNotValid", "loop.example/g01376/impl.errNoSuch", "loop.example/g01376/impl.errTooMany", "loop.example/g01376/impl.errUnlike", "loop.example/g01376/impl.errNotKept"], fn := fun _ => fun
  | [d1, d2, d3, d4, g1, g2, g3, g4, g5, g6] => { results := [.lit (.bool false)], args := [d1, d2, d3, d4], vars := [g1, g2, g3, g4, g5, g6] }
  | _ => none }
def FnExactKindsForWrongFalsely : Prop := fnExactKindsForRow.holds Tryd.pinned (OpenSpec.ofChange fnExactKindsForWrong)

/-- 'laws.FnExactNeedlessRepairs': WHATEVER THE INPUT: true; the input reads as it did. -/
def fnExactNeedlessRepairsSpec : ChangeSpec := { name := "fnExactNeedlessRepairs", vars := ["loop.example/g01376/impl.errNotKept", "loop.example/g01376/impl.errNoSuch", "loop.example/g01376/impl.errNotValid", "loop.example/g01376/impl.errTooMany", "loop.example/g01376/impl.errUnsound", "loop.example/g01376/impl.errUnlike"], fn := fun _ => fun
  | [d1, d2, d3, d4, g1, g2, g3, g4, g5, g6] => { results := [.lit (.bool true)], args := [d1, d2, d3, d4], vars := [g1, g2, g3, g4, g5, g6] }
  | _ => none }
def fnExactNeedlessRepairsRow : OpenClaim := { program := "ytdpnmaodagmpkaadoor", sum := "b6b842fd3d2eb76017fa92691f8b14f012ed6029caeb690ad7dfe5d847cdf040", func := "loop.example/g01376/laws.FnExactNeedlessRepairs", spec := "fnExactNeedlessRepairs", inPlace := ["internal/reflectlite.TypeOf"], unfollowed := true, recurses := true, named := ["loop.example/g01376/impl.errNotKept", "loop.example/g01376/impl.errNoSuch", "loop.example/g01376/impl.errNotValid", "loop.example/g01376/impl.errTooMany", "loop.example/g01376/impl.errUnsound", "loop.example/g01376/impl.errUnlike"], ifaces := true, plainKeys := false, apart := false, laid := [("loop.example/g01376/impl.errNotValid", laid_loop_example_g01376_impl_errNotValid), ("loop.example/g01376/impl.errNoSuch", laid_loop_example_g01376_impl_errNoSuch), ("loop.example/g01376/impl.errTooMany", laid_loop_example_g01376_impl_errTooMany), ("loop.example/g01376/impl.errUnsound", laid_loop_example_g01376_impl_errUnsound), ("loop.example/g01376/impl.errUnlike", laid_loop_example_g01376_impl_errUnlike), ("loop.example/g01376/impl.errNotKept", laid_loop_example_g01376_impl_errNotKept)] }
def FnExactNeedlessRepairsSaid : Prop := fnExactNeedlessRepairsRow.holds Tryd.pinned (OpenSpec.ofChange fnExactNeedlessRepairsSpec)

/-- ITS FALSE NEIGHBOUR: 'it returns false'. Refute it at one input. -/
def fnExactNeedlessRepairsWrong : ChangeSpec := { name := "fnExactNeedlessRepairs", vars := ["loop.example/g01376/impl.errNotKept", "loop.example/g01376/impl.errNoSuch", "loop.example/g01376/impl.errNotValid", "loop.example/g01376/impl.errTooMany", "loop.example/g01376/impl.errUnsound", "loop.example/g01376/impl.errUnlike"], fn := fun _ => fun
  | [d1, d2, d3, d4, g1, g2, g3, g4, g5, g6] => { results := [.lit (.bool false)], args := [d1, d2, d3, d4], vars := [g1, g2, g3, g4, g5, g6] }
  | _ => none }
def FnExactNeedlessRepairsWrongFalsely : Prop := fnExactNeedlessRepairsRow.holds Tryd.pinned (OpenSpec.ofChange fnExactNeedlessRepairsWrong)

/-- 'laws.FnExactGroupsOf': WHATEVER THE INPUT: true; the input reads as it did. -/
def fnExactGroupsOfSpec : ChangeSpec := { name := "fnExactGroupsOf", vars := ["loop.example/g01376/impl.errTooMany", "loop.example/g01376/impl.errUnlike", "loop.example/g01376/impl.errNotValid", "loop.example/g01376/impl.errNoSuch", "loop.example/g01376/impl.errUnsound", "loop.example/g01376/impl.errNotKept"], fn := fun _ => fun
  | [d1, d2, g1, g2, g3, g4, g5, g6] => { results := [.lit (.bool true)], args := [d1, d2], vars := [g1, g2, g3, g4, g5, g6] }
  | _ => none }
def fnExactGroupsOfRow : OpenClaim := { program := "ytdpnmaodagmpkaadoor", sum := "b6b842fd3d2eb76017fa92691f8b14f012ed6029caeb690ad7dfe5d847cdf040", func := "loop.example/g01376/laws.FnExactGroupsOf", spec := "fnExactGroupsOf", inPlace := ["internal/reflectlite.TypeOf"], unfollowed := true, recurses := true, named := ["loop.example/g01376/impl.errTooMany", "loop.example/g01376/impl.errUnlike", "loop.example/g01376/impl.errNotValid", "loop.example/g01376/impl.errNoSuch", "loop.example/g01376/impl.errUnsound", "loop.example/g01376/impl.errNotKept"], ifaces := true, plainKeys := false, apart := false, laid := [("loop.example/g01376/impl.errNotValid", laid_loop_example_g01376_impl_errNotValid), ("loop.example/g01376/impl.errNoSuch", laid_loop_example_g01376_impl_errNoSuch), ("loop.example/g01376/impl.errTooMany", laid_loop_example_g01376_impl_errTooMany), ("loop.example/g01376/impl.errUnsound", laid_loop_example_g01376_impl_errUnsound), ("loop.example/g01376/impl.errUnlike", laid_loop_example_g01376_impl_errUnlike), ("loop.example/g01376/impl.errNotKept", laid_loop_example_g01376_impl_errNotKept)] }
def FnExactGroupsOfSaid : Prop := fnExactGroupsOfRow.holds Tryd.pinned (OpenSpec.ofChange fnExactGroupsOfSpec)

/-- ITS FALSE NEIGHBOUR: 'it returns false'. Refute it at one input. -/
def fnExactGroupsOfWrong : ChangeSpec := { name := "fnExactGroupsOf", vars := ["loop.example/g01376/impl.errTooMany", "loop.example/g01376/impl.errUnlike", "loop.example/g01376/impl.errNotValid", "loop.example/g01376/impl.errNoSuch", "loop.example/g01376/impl.errUnsound", "loop.example/g01376/impl.errNotKept"], fn := fun _ => fun
  | [d1, d2, g1, g2, g3, g4, g5, g6] => { results := [.lit (.bool false)], args := [d1, d2], vars := [g1, g2, g3, g4, g5, g6] }
  | _ => none }
def FnExactGroupsOfWrongFalsely : Prop := fnExactGroupsOfRow.holds Tryd.pinned (OpenSpec.ofChange fnExactGroupsOfWrong)

/-- 'laws.FnExactLeastDrip': WHATEVER THE INPUT: true; the input reads as it did. -/
def fnExactLeastDripSpec : ChangeSpec := { name := "fnExactLeastDrip", vars := ["loop.example/g01376/impl.errTooMany", "loop.example/g01376/impl.errNotValid", "loop.example/g01376/impl.errNoSuch", "loop.example/g01376/impl.errUnsound", "loop.example/g01376/impl.errUnlike", "loop.example/g01376/impl.errNotKept"], fn := fun _ => fun
  | [d1, d2, d3, g1, g2, g3, g4, g5, g6] => { results := [.lit (.bool true)], args := [d1, d2, d3], vars := [g1, g2, g3, g4, g5, g6] }
  | _ => none }
def fnExactLeastDripRow : OpenClaim := { program := "ytdpnmaodagmpkaadoor", sum := "b6b842fd3d2eb76017fa92691f8b14f012ed6029caeb690ad7dfe5d847cdf040", func := "loop.example/g01376/laws.FnExactLeastDrip", spec := "fnExactLeastDrip", inPlace := ["internal/reflectlite.TypeOf"], unfollowed := true, recurses := true, named := ["loop.example/g01376/impl.errTooMany", "loop.example/g01376/impl.errNotValid", "loop.example/g01376/impl.errNoSuch", "loop.example/g01376/impl.errUnsound", "loop.example/g01376/impl.errUnlike", "loop.example/g01376/impl.errNotKept"], ifaces := true, plainKeys := false, apart := false, laid := [("loop.example/g01376/impl.errNotValid", laid_loop_example_g01376_impl_errNotValid), ("loop.example/g01376/impl.errNoSuch", laid_loop_example_g01376_impl_errNoSuch), ("loop.example/g01376/impl.errTooMany", laid_loop_example_g01376_impl_errTooMany), ("loop.example/g01376/impl.errUnsound", laid_loop_example_g01376_impl_errUnsound), ("loop.example/g01376/impl.errUnlike", laid_loop_example_g01376_impl_errUnlike), ("loop.example/g01376/impl.errNotKept", laid_loop_example_g01376_impl_errNotKept)] }
def FnExactLeastDripSaid : Prop := fnExactLeastDripRow.holds Tryd.pinned (OpenSpec.ofChange fnExactLeastDripSpec)

/-- ITS FALSE NEIGHBOUR: 'it returns false'. Refute it at one input. -/
def fnExactLeastDripWrong : ChangeSpec := { name := "fnExactLeastDrip", vars := ["loop.example/g01376/impl.errTooMany", "loop.example/g01376/impl.errNotValid", "loop.example/g01376/impl.errNoSuch", "loop.example/g01376/impl.errUnsound", "loop.example/g01376/impl.errUnlike", "loop.example/g01376/impl.errNotKept"], fn := fun _ => fun
  | [d1, d2, d3, g1, g2, g3, g4, g5, g6] => { results := [.lit (.bool false)], args := [d1, d2, d3], vars := [g1, g2, g3, g4, g5, g6] }
  | _ => none }
def FnExactLeastDripWrongFalsely : Prop := fnExactLeastDripRow.holds Tryd.pinned (OpenSpec.ofChange fnExactLeastDripWrong)

/-- 'laws.FnExactFewestRepairs': WHATEVER THE INPUT: true; the input reads as it did. -/
def fnExactFewestRepairsSpec : ChangeSpec := { name := "fnExactFewestRepairs", vars := ["loop.example/g01376/impl.errNoSuch", "loop.example/g01376/impl.errNotValid", "loop.example/g01376/impl.errTooMany", "loop.example/g01376/impl.errUnsound", "loop.example/g01376/impl.errUnlike", "loop.example/g01376/impl.errNotKept"], fn := fun _ => fun
  | [d1, d2, d3, g1, g2, g3, g4, g5, g6] => { results := [.lit (.bool true)], args := [d1, d2, d3], vars := [g1, g2, g3, g4, g5, g6] }
  | _ => none }
def fnExactFewestRepairsRow : OpenClaim := { program := "ytdpnmaodagmpkaadoor", sum := "b6b842fd3d2eb76017fa92691f8b14f012ed6029caeb690ad7dfe5d847cdf040", func := "loop.example/g01376/laws.FnExactFewestRepairs", spec := "fnExactFewestRepairs", inPlace := ["internal/reflectlite.TypeOf"], unfollowed := true, recurses := true, named := ["loop.example/g01376/impl.errNoSuch", "loop.example/g01376/impl.errNotValid", "loop.example/g01376/impl.errTooMany", "loop.example/g01376/impl.errUnsound", "loop.example/g01376/impl.errUnlike", "loop.example/g01376/impl.errNotKept"], ifaces := true, plainKeys := false, apart := false, laid := [("loop.example/g01376/impl.errNotValid", laid_loop_example_g01376_impl_errNotValid), ("loop.example/g01376/impl.errNoSuch", laid_loop_example_g01376_impl_errNoSuch), ("loop.example/g01376/impl.errTooMany", laid_loop_example_g01376_impl_errTooMany), ("loop.example/g01376/impl.errUnsound", laid_loop_example_g01376_impl_errUnsound), ("loop.example/g01376/impl.errUnlike", laid_loop_example_g01376_impl_errUnlike), ("loop.example/g01376/impl.errNotKept", laid_loop_example_g01376_impl_errNotKept)] }
def FnExactFewestRepairsSaid : Prop := fnExactFewestRepairsRow.holds Tryd.pinned (OpenSpec.ofChange fnExactFewestRepairsSpec)

/-- ITS FALSE NEIGHBOUR: 'it returns false'. Refute it at one input. -/
def fnExactFewestRepairsWrong : ChangeSpec := { name := "fnExactFewestRepairs", vars := ["loop.example/g01376/impl.errNoSuch", "loop.example/g01376/impl.errNotValid", "loop.example/g01376/impl.errTooMany", "loop.example/g01376/impl.errUnsound", "loop.example/g01376/impl.errUnlike", "loop.example/g01376/impl.errNotKept"], fn := fun _ => fun
  | [d1, d2, d3, g1, g2, g3, g4, g5, g6] => { results := [.lit (.bool false)], args := [d1, d2, d3], vars := [g1, g2, g3, g4, g5, g6] }
  | _ => none }
def FnExactFewestRepairsWrongFalsely : Prop := fnExactFewestRepairsRow.holds Tryd.pinned (OpenSpec.ofChange fnExactFewestRepairsWrong)

/- THE SECOND FORM. 'bulk': how many values and letters a reading holds, each counted each time it is reached (what is shared counts as often as it is met; a slice's spare places count too). A statement '..UptoSaid' is the law's where the arguments, and the package variables that the reading takes, are together of bulk at most 1048576: NARROWER than '..Said'. Prove '..Said' where nothing that the law and all that it calls make is longer than what came in: it says more and counts as full. Else prove '..UptoSaid'. A law counts once. -/
mutual
def uptoBulk {H : Type} : DataW H → Nat
  | .lit (.string bytes) => bytes.length + 1
  | .lit _ => 1
  | .nil => 1
  | .ptr d => uptoBulk d + 1
  | .slice elems spare => uptoBulkAll elems + uptoBulkAll spare + 1
  | .agg parts => uptoBulkAll parts + 1
  | .iface _ d => uptoBulk d + 1
  | .map entries => uptoBulkEntries entries + 1
  | .held _ => 1
def uptoBulkAll {H : Type} : List (DataW H) → Nat
  | [] => 0
  | d :: r => uptoBulk d + uptoBulkAll r
def uptoBulkEntries {H : Type} : List (Lit × DataW H) → Nat
  | [] => 0
  | x :: r => uptoBulkEntry x + uptoBulkEntries r
def uptoBulkEntry {H : Type} : Lit × DataW H → Nat
  | (.string bytes, d) => bytes.length + uptoBulk d + 1
  | (_, d) => uptoBulk d + 1
 end
def uptoSmall : (H : Type) → List (DataW H) → Bool := fun _ ds => decide (uptoBulkAll ds ≤ 1048576)
def OpenSpec.upto (s : _root_.Go.ChangeSpec) : _root_.Go.OpenSpec := { _root_.Go.OpenSpec.ofChange s with cond := some uptoSmall }

/-- 'laws.FnExactKindsFor', WHERE WHAT IT READS IS OF BULK AT MOST 1048576: true; the input reads as it did. -/
def fnExactKindsForUptoRow : OpenClaim := { program := "ytdpnmaodagmpkaadoor", sum := "b6b842fd3d2eb76017fa92691f8b14f012ed6029caeb690ad7dfe5d847cdf040", func := "loop.example/g01376/laws.FnExactKindsFor", spec := "fnExactKindsFor", inPlace := ["internal/reflectlite.TypeOf"], unfollowed := true, recurses := true, named := ["loop.example/g01376/impl.errUnsound", "loop.example/g01376/impl.errNotValid", "loop.example/g01376/impl.errNoSuch", "loop.example/g01376/impl.errTooMany", "loop.example/g01376/impl.errUnlike", "loop.example/g01376/impl.errNotKept"], ifaces := true, plainKeys := false, apart := false, laid := [("loop.example/g01376/impl.errNotValid", laid_loop_example_g01376_impl_errNotValid), ("loop.example/g01376/impl.errNoSuch", laid_loop_example_g01376_impl_errNoSuch), ("loop.example/g01376/impl.errTooMany", laid_loop_example_g01376_impl_errTooMany), ("loop.example/g01376/impl.errUnsound", laid_loop_example_g01376_impl_errUnsound), ("loop.example/g01376/impl.errUnlike", laid_loop_example_g01376_impl_errUnlike), ("loop.example/g01376/impl.errNotKept", laid_loop_example_g01376_impl_errNotKept)], narrowed := true }
def FnExactKindsForUptoSaid : Prop := fnExactKindsForUptoRow.holds Tryd.pinned (OpenSpec.upto fnExactKindsForSpec)

/-- 'laws.FnExactNeedlessRepairs', WHERE WHAT IT READS IS OF BULK AT MOST 1048576: true; the input reads as it did. -/
def fnExactNeedlessRepairsUptoRow : OpenClaim := { program := "ytdpnmaodagmpkaadoor", sum := "b6b842fd3d2eb76017fa92691f8b14f012ed6029caeb690ad7dfe5d847cdf040", func := "loop.example/g01376/laws.FnExactNeedlessRepairs", spec := "fnExactNeedlessRepairs", inPlace := ["internal/reflectlite.TypeOf"], unfollowed := true, recurses := true, named := ["loop.example/g01376/impl.errNotKept", "loop.example/g01376/impl.errNoSuch", "loop.example/g01376/impl.errNotValid", "loop.example/g01376/impl.errTooMany", "loop.example/g01376/impl.errUnsound", "loop.example/g01376/impl.errUnlike"], ifaces := true, plainKeys := false, apart := false, laid := [("loop.example/g01376/impl.errNotValid", laid_loop_example_g01376_impl_errNotValid), ("loop.example/g01376/impl.errNoSuch", laid_loop_example_g01376_impl_errNoSuch), ("loop.example/g01376/impl.errTooMany", laid_loop_example_g01376_impl_errTooMany), ("loop.example/g01376/impl.errUnsound", laid_loop_example_g01376_impl_errUnsound), ("loop.example/g01376/impl.errUnlike", laid_loop_example_g01376_impl_errUnlike), ("loop.example/g01376/impl.errNotKept", laid_loop_example_g01376_impl_errNotKept)], narrowed := true }
def FnExactNeedlessRepairsUptoSaid : Prop := fnExactNeedlessRepairsUptoRow.holds Tryd.pinned (OpenSpec.upto fnExactNeedlessRepairsSpec)

/-- 'laws.FnExactGroupsOf', WHERE WHAT IT READS IS OF BULK AT MOST 1048576: true; the input reads as it did. -/
def fnExactGroupsOfUptoRow : OpenClaim := { program := "ytdpnmaodagmpkaadoor", sum := "b6b842fd3d2eb76017fa92691f8b14f012ed6029caeb690ad7dfe5d847cdf040", func := "loop.example/g01376/laws.FnExactGroupsOf", spec := "fnExactGroupsOf", inPlace := ["internal/reflectlite.TypeOf"], unfollowed := true, recurses := true, named := ["loop.example/g01376/impl.errTooMany", "loop.example/g01376/impl.errUnlike", "loop.example/g01376/impl.errNotValid", "loop.example/g01376/impl.errNoSuch", "loop.example/g01376/impl.errUnsound", "loop.example/g01376/impl.errNotKept"], ifaces := true, plainKeys := false, apart := false, laid := [("loop.example/g01376/impl.errNotValid", laid_loop_example_g01376_impl_errNotValid), ("loop.example/g01376/impl.errNoSuch", laid_loop_example_g01376_impl_errNoSuch), ("loop.example/g01376/impl.errTooMany", laid_loop_example_g01376_impl_errTooMany), ("loop.example/g01376/impl.errUnsound", laid_loop_example_g01376_impl_errUnsound), ("loop.example/g01376/impl.errUnlike", laid_loop_example_g01376_impl_errUnlike), ("loop.example/g01376/impl.errNotKept", laid_loop_example_g01376_impl_errNotKept)], narrowed := true }
def FnExactGroupsOfUptoSaid : Prop := fnExactGroupsOfUptoRow.holds Tryd.pinned (OpenSpec.upto fnExactGroupsOfSpec)

/-- 'laws.FnExactLeastDrip', WHERE WHAT IT READS IS OF BULK AT MOST 1048576: true; the input reads as it did. -/
def fnExactLeastDripUptoRow : OpenClaim := { program := "ytdpnmaodagmpkaadoor", sum := "b6b842fd3d2eb76017fa92691f8b14f012ed6029caeb690ad7dfe5d847cdf040", func := "loop.example/g01376/laws.FnExactLeastDrip", spec := "fnExactLeastDrip", inPlace := ["internal/reflectlite.TypeOf"], unfollowed := true, recurses := true, named := ["loop.example/g01376/impl.errTooMany", "loop.example/g01376/impl.errNotValid", "loop.example/g01376/impl.errNoSuch", "loop.example/g01376/impl.errUnsound", "loop.example/g01376/impl.errUnlike", "loop.example/g01376/impl.errNotKept"], ifaces := true, plainKeys := false, apart := false, laid := [("loop.example/g01376/impl.errNotValid", laid_loop_example_g01376_impl_errNotValid), ("loop.example/g01376/impl.errNoSuch", laid_loop_example_g01376_impl_errNoSuch), ("loop.example/g01376/impl.errTooMany", laid_loop_example_g01376_impl_errTooMany), ("loop.example/g01376/impl.errUnsound", laid_loop_example_g01376_impl_errUnsound), ("loop.example/g01376/impl.errUnlike", laid_loop_example_g01376_impl_errUnlike), ("loop.example/g01376/impl.errNotKept", laid_loop_example_g01376_impl_errNotKept)], narrowed := true }
def FnExactLeastDripUptoSaid : Prop := fnExactLeastDripUptoRow.holds Tryd.pinned (OpenSpec.upto fnExactLeastDripSpec)

/-- 'laws.FnExactFewestRepairs', WHERE WHAT IT READS IS OF BULK AT MOST 1048576: true; the input reads as it did. -/
def fnExactFewestRepairsUptoRow : OpenClaim := { program := "ytdpnmaodagmpkaadoor", sum := "b6b842fd3d2eb76017fa92691f8b14f012ed6029caeb690ad7dfe5d847cdf040", func := "loop.example/g01376/laws.FnExactFewestRepairs", spec := "fnExactFewestRepairs", inPlace := ["internal/reflectlite.TypeOf"], unfollowed := true, recurses := true, named := ["loop.example/g01376/impl.errNoSuch", "loop.example/g01376/impl.errNotValid", "loop.example/g01376/impl.errTooMany", "loop.example/g01376/impl.errUnsound", "loop.example/g01376/impl.errUnlike", "loop.example/g01376/impl.errNotKept"], ifaces := true, plainKeys := false, apart := false, laid := [("loop.example/g01376/impl.errNotValid", laid_loop_example_g01376_impl_errNotValid), ("loop.example/g01376/impl.errNoSuch", laid_loop_example_g01376_impl_errNoSuch), ("loop.example/g01376/impl.errTooMany", laid_loop_example_g01376_impl_errTooMany), ("loop.example/g01376/impl.errUnsound", laid_loop_example_g01376_impl_errUnsound), ("loop.example/g01376/impl.errUnlike", laid_loop_example_g01376_impl_errUnlike), ("loop.example/g01376/impl.errNotKept", laid_loop_example_g01376_impl_errNotKept)], narrowed := true }
def FnExactFewestRepairsUptoSaid : Prop := fnExactFewestRepairsUptoRow.holds Tryd.pinned (OpenSpec.upto fnExactFewestRepairsSpec)

end Rows
end Go.Proofs.YtdpnmaodagmpkaaDoor
