/-
  NARROWER THAN 'FOR EVERY INPUT', by the rows' own cells (each row's printed sentence says how): FnExactReplacedAt: laid · FnExactCheckVisits: laid · FnExactMakePattern: laid · FnExactValidWord: laid · FnExactNearestPattern: laid · FnExactPatternOf: laid · FnExactNeedlessRepairs: ifaces, laid.
  DERIVED. THE GIVEN ROWS OF THIS SEAT. 7 by the template 'for every input the law returns true; each argument reads behind the call as it read before'; 0 by the template 'total and deterministic' (their statements: YtcdddngdjhjdbaaDoorTotals.lean).
  GIVEN WITH THE SEED: the statements are not yours to turn. If you find one false, say at which input.
  Laid BY PROGRAM, IN A SANDBOX (cutbox-rows.mjs): the forced cells as the released guide's own fill.sh prints them over the translation adaae611300405cc… (all of the seat's roots in one cut). By AI agents, Wed Nov 11 2026. No macro, syntax, notation, axiom, sorry.
-/
import Derived.Test.YtcdddngdjhjdbaaDoorChecked
import GoSem.PinnedTables
import GoSem.Claim
import GoSem.ClaimJoined
import GoSem.ClaimMapViews
import Derived.JoinedTies
import Derived.KernelRfl
namespace Go.Proofs.YtcdddngdjhjdbaaDoor
/- THE CELL 'sum', in the pinned program and in every row, IS THE sha256 OF THE DUMP (.gsa) THAT YtcdddngdjhjdbaaDoorProg.lean LOADS. Nothing in Lean hashes anything: it is a label: what it is worth is what the hold of that sum in a sandbox is worth. -/
noncomputable def Tryd.pinned : Pinned := { name := "ytcdddngdjhjdbaadoor", sum := "adaae611300405cc4f5261984f7532b51337d5992695a401f52e731ff3094bfd", checked := Tryd.checked }
namespace Rows
def none {H : Type} : Left H := { results := [], args := [] }

/- WHAT THE LISTED PACKAGE-LEVEL VARIABLES READ AS WHEN THE CALL BEGINS. Each datum BY PROGRAM (the guide's laid-datum.mjs) off the statement by which the dump's own 'gosem.cut.vars' lays the variable. In a bare row this is a premise. The card (YtcdddngdjhjdbaaDoorCards.lean) ties it to the program's text. -/
def laid_errors_errorType {H : Type} : DataW H := .iface "internal/reflectlite.rtype" (.agg [.ptr (.lit (.string [101, 114, 114, 111, 114]))])
def laid_unicode_utf8_acceptRanges {H : Type} : DataW H := .agg [.agg [.lit (.int .u8 128), .lit (.int .u8 191)], .agg [.lit (.int .u8 160), .lit (.int .u8 191)], .agg [.lit (.int .u8 128), .lit (.int .u8 159)], .agg [.lit (.int .u8 144), .lit (.int .u8 191)], .agg [.lit (.int .u8 128), .lit (.int .u8 143)], .agg [.lit (.int .u8 0), .lit (.int .u8 0)], .agg [.lit (.int .u8 0), .lit (.int .u8 0)], .agg [.lit (.int .u8 0), .lit (.int .u8 0)], .agg [.lit (.int .u8 0), .lit (.int .u8 0)], .agg [.lit (.int .u8 0), .lit (.int .u8 0)], .agg [.lit (.int .u8 0), .lit (.int .u8 0)], .agg [.lit (.int .u8 0), .lit (.int .u8 0)], .agg [.lit (.int .u8 0), .lit (.int .u8 0)], .agg [.lit (.int .u8 0), .lit (.int .u8 0)], .agg [.lit (.int .u8 0), .lit (.int .u8 0)], .agg [.lit (.int .u8 0), .lit (.int .u8 0)]]
/-- One of Go's own tables, pinned by name: the form's constant. -/
def laid_unicode_utf8_first : DataW Unit := Go.Pinned.utf8First
def laid_loop_example_g01376_impl_errNotValid {H : Type} : DataW H := .iface "*errors.errorString" (.ptr (.agg [.lit (.string [97, 32, 114, 111, 111, 102, 32, 111, 114, 32, 114, 97, 105, 110, 32, 105, 115, 32, 110, 111, 116, 32, 118, 97, 108, 105, 100])]))
def laid_loop_example_g01376_impl_errNoSuch {H : Type} : DataW H := .iface "*errors.errorString" (.ptr (.agg [.lit (.string [116, 104, 101, 114, 101, 32, 105, 115, 32, 110, 111, 32, 115, 117, 99, 104, 32, 112, 108, 97, 99, 101, 32, 111, 114, 32, 110, 117, 109, 98, 101, 114])]))
def laid_loop_example_g01376_impl_errTooMany {H : Type} : DataW H := .iface "*errors.errorString" (.ptr (.agg [.lit (.string [116, 104, 101, 114, 101, 32, 97, 114, 101, 32, 116, 111, 111, 32, 109, 97, 110, 121])]))
def laid_loop_example_g01376_impl_errUnsound {H : Type} : DataW H := .iface "*errors.errorString" (.ptr (.agg [.lit (.string [100, 114, 105, 112, 115, 32, 97, 114, 101, 32, 110, 111, 116, 32, 115, 111, 117, 110, 100])]))
def laid_loop_example_g01376_impl_errUnlike {H : Type} : DataW H := .iface "*errors.errorString" (.ptr (.agg [.lit (.string [114, 111, 111, 102, 115, 32, 97, 114, 101, 32, 110, 111, 116, 32, 97, 108, 105, 107, 101])]))
def laid_loop_example_g01376_impl_errNotKept {H : Type} : DataW H := .iface "*errors.errorString" (.ptr (.agg [.lit (.string [97, 32, 98, 111, 117, 110, 100, 32, 105, 115, 32, 110, 111, 116, 32, 107, 101, 112, 116])]))

/-- 'laws.FnExactReplacedAt': WHATEVER THE INPUT: true; the input reads as it did. -/
def fnExactReplacedAtSpec : ChangeSpec := { name := "fnExactReplacedAt", fn := fun _ => fun
  | [d1, d2, d3, d4] => { results := [.lit (.bool true)], args := [d1, d2, d3, d4] }
  | _ => none }
def fnExactReplacedAtRow : OpenClaim := { program := "ytcdddngdjhjdbaadoor", sum := "adaae611300405cc4f5261984f7532b51337d5992695a401f52e731ff3094bfd", func := "loop.example/g01376/laws.FnExactReplacedAt", spec := "fnExactReplacedAt", inPlace := ["internal/reflectlite.ValueOf", "(internal/reflectlite.Value).Type", "(internal/reflectlite.Value).IsNil", "internal/reflectlite.TypeOf", "(internal/reflectlite.Value).Elem", "(internal/reflectlite.Value).Set"], unfollowed := true, recurses := true, named := ["errors.errorType"], apart := false, laid := [("errors.errorType", laid_errors_errorType)] }
def FnExactReplacedAtSaid : Prop := fnExactReplacedAtRow.holds Tryd.pinned (OpenSpec.ofChange fnExactReplacedAtSpec)

/-- ITS FALSE NEIGHBOUR: 'it returns false'. Refute it at one input. -/
def fnExactReplacedAtWrong : ChangeSpec := { name := "fnExactReplacedAt", fn := fun _ => fun
  | [d1, d2, d3, d4] => { results := [.lit (.bool false)], args := [d1, d2, d3, d4] }
  | _ => none }
def FnExactReplacedAtWrongFalsely : Prop := fnExactReplacedAtRow.holds Tryd.pinned (OpenSpec.ofChange fnExactReplacedAtWrong)

/-- 'laws.FnExactCheckVisits': WHATEVER THE INPUT: true; the input reads as it did. -/
def fnExactCheckVisitsSpec : ChangeSpec := { name := "fnExactCheckVisits", fn := fun _ => fun
  | [d1, d2, d3, d4, d5] => { results := [.lit (.bool true)], args := [d1, d2, d3, d4, d5] }
  | _ => none }
def fnExactCheckVisitsRow : OpenClaim := { program := "ytcdddngdjhjdbaadoor", sum := "adaae611300405cc4f5261984f7532b51337d5992695a401f52e731ff3094bfd", func := "loop.example/g01376/laws.FnExactCheckVisits", spec := "fnExactCheckVisits", inPlace := ["internal/reflectlite.ValueOf", "(internal/reflectlite.Value).Type", "(internal/reflectlite.Value).IsNil", "internal/reflectlite.TypeOf", "(internal/reflectlite.Value).Elem", "(internal/reflectlite.Value).Set"], unfollowed := true, recurses := true, named := ["errors.errorType"], apart := false, laid := [("errors.errorType", laid_errors_errorType)] }
def FnExactCheckVisitsSaid : Prop := fnExactCheckVisitsRow.holds Tryd.pinned (OpenSpec.ofChange fnExactCheckVisitsSpec)

/-- ITS FALSE NEIGHBOUR: 'it returns false'. Refute it at one input. -/
def fnExactCheckVisitsWrong : ChangeSpec := { name := "fnExactCheckVisits", fn := fun _ => fun
  | [d1, d2, d3, d4, d5] => { results := [.lit (.bool false)], args := [d1, d2, d3, d4, d5] }
  | _ => none }
def FnExactCheckVisitsWrongFalsely : Prop := fnExactCheckVisitsRow.holds Tryd.pinned (OpenSpec.ofChange fnExactCheckVisitsWrong)

/-- 'laws.FnExactMakePattern': WHATEVER THE INPUT: true; the input reads as it did. -/
def fnExactMakePatternSpec : ChangeSpec := { name := "fnExactMakePattern", fn := fun _ => fun
  | [d1, d2, d3] => { results := [.lit (.bool true)], args := [d1, d2, d3] }
  | _ => none }
def fnExactMakePatternRow : OpenClaim := { program := "ytcdddngdjhjdbaadoor", sum := "adaae611300405cc4f5261984f7532b51337d5992695a401f52e731ff3094bfd", func := "loop.example/g01376/laws.FnExactMakePattern", spec := "fnExactMakePattern", inPlace := ["internal/bytealg.IndexByteString", "internal/bytealg.IndexString"], unfollowed := true, recurses := true, named := ["unicode/utf8.first", "unicode/utf8.acceptRanges", "internal/bytealg.MaxLen"], apart := false, laid := [("unicode/utf8.acceptRanges", laid_unicode_utf8_acceptRanges), ("unicode/utf8.first", laid_unicode_utf8_first)] }
def FnExactMakePatternSaid : Prop := fnExactMakePatternRow.holds Tryd.pinned (OpenSpec.ofChange fnExactMakePatternSpec)

/-- ITS FALSE NEIGHBOUR: 'it returns false'. Refute it at one input. -/
def fnExactMakePatternWrong : ChangeSpec := { name := "fnExactMakePattern", fn := fun _ => fun
  | [d1, d2, d3] => { results := [.lit (.bool false)], args := [d1, d2, d3] }
  | _ => none }
def FnExactMakePatternWrongFalsely : Prop := fnExactMakePatternRow.holds Tryd.pinned (OpenSpec.ofChange fnExactMakePatternWrong)

/-- 'laws.FnExactValidWord': WHATEVER THE INPUT: true; the input reads as it did. -/
def fnExactValidWordSpec : ChangeSpec := { name := "fnExactValidWord", fn := fun _ => fun
  | [d] => { results := [.lit (.bool true)], args := [d] }
  | _ => none }
def fnExactValidWordRow : OpenClaim := { program := "ytcdddngdjhjdbaadoor", sum := "adaae611300405cc4f5261984f7532b51337d5992695a401f52e731ff3094bfd", func := "loop.example/g01376/laws.FnExactValidWord", spec := "fnExactValidWord", inPlace := ["internal/bytealg.IndexByteString", "internal/bytealg.IndexString"], named := ["unicode/utf8.first", "unicode/utf8.acceptRanges", "internal/bytealg.MaxLen"], apart := false, laid := [("unicode/utf8.acceptRanges", laid_unicode_utf8_acceptRanges), ("unicode/utf8.first", laid_unicode_utf8_first)] }
def FnExactValidWordSaid : Prop := fnExactValidWordRow.holds Tryd.pinned (OpenSpec.ofChange fnExactValidWordSpec)

/-- ITS FALSE NEIGHBOUR: 'it returns false'. Refute it at one input. -/
def fnExactValidWordWrong : ChangeSpec := { name := "fnExactValidWord", fn := fun _ => fun
  | [d] => { results := [.lit (.bool false)], args := [d] }
  | _ => none }
def FnExactValidWordWrongFalsely : Prop := fnExactValidWordRow.holds Tryd.pinned (OpenSpec.ofChange fnExactValidWordWrong)

/-- 'laws.FnExactNearestPattern': WHATEVER THE INPUT: true; the input reads as it did. -/
def fnExactNearestPatternSpec : ChangeSpec := { name := "fnExactNearestPattern", fn := fun _ => fun
  | [d1, d2, d3] => { results := [.lit (.bool true)], args := [d1, d2, d3] }
  | _ => none }
def fnExactNearestPatternRow : OpenClaim := { program := "ytcdddngdjhjdbaadoor", sum := "adaae611300405cc4f5261984f7532b51337d5992695a401f52e731ff3094bfd", func := "loop.example/g01376/laws.FnExactNearestPattern", spec := "fnExactNearestPattern", inPlace := ["internal/bytealg.IndexByteString", "internal/bytealg.IndexString", "internal/reflectlite.ValueOf", "(internal/reflectlite.Value).Type", "(internal/reflectlite.Value).IsNil", "internal/reflectlite.TypeOf", "(internal/reflectlite.Value).Elem", "(internal/reflectlite.Value).Set"], unfollowed := true, recurses := true, named := ["unicode/utf8.first", "unicode/utf8.acceptRanges", "errors.errorType", "internal/bytealg.MaxLen"], apart := false, laid := [("unicode/utf8.acceptRanges", laid_unicode_utf8_acceptRanges), ("errors.errorType", laid_errors_errorType), ("unicode/utf8.first", laid_unicode_utf8_first)] }
def FnExactNearestPatternSaid : Prop := fnExactNearestPatternRow.holds Tryd.pinned (OpenSpec.ofChange fnExactNearestPatternSpec)

/-- ITS FALSE NEIGHBOUR: 'it returns false'. Refute it at one input. -/
def fnExactNearestPatternWrong : ChangeSpec := { name := "fnExactNearestPattern", fn := fun _ => fun
  | [d1, d2, d3] => { results := [.lit (.bool false)], args := [d1, d2, d3] }
  | _ => none }
def FnExactNearestPatternWrongFalsely : Prop := fnExactNearestPatternRow.holds Tryd.pinned (OpenSpec.ofChange fnExactNearestPatternWrong)

/-- 'laws.FnExactPatternOf': WHATEVER THE INPUT: true; the input reads as it did. -/
def fnExactPatternOfSpec : ChangeSpec := { name := "fnExactPatternOf", fn := fun _ => fun
  | [d1, d2, d3] => { results := [.lit (.bool true)], args := [d1, d2, d3] }
  | _ => none }
def fnExactPatternOfRow : OpenClaim := { program := "ytcdddngdjhjdbaadoor", sum := "adaae611300405cc4f5261984f7532b51337d5992695a401f52e731ff3094bfd", func := "loop.example/g01376/laws.FnExactPatternOf", spec := "fnExactPatternOf", inPlace := ["internal/reflectlite.ValueOf", "(internal/reflectlite.Value).Type", "(internal/reflectlite.Value).IsNil", "internal/reflectlite.TypeOf", "(internal/reflectlite.Value).Elem", "(internal/reflectlite.Value).Set"], unfollowed := true, recurses := true, named := ["errors.errorType"], apart := false, laid := [("errors.errorType", laid_errors_errorType)] }
def FnExactPatternOfSaid : Prop := fnExactPatternOfRow.holds Tryd.pinned (OpenSpec.ofChange fnExactPatternOfSpec)

/-- ITS FALSE NEIGHBOUR: 'it returns false'. Refute it at one input. -/
def fnExactPatternOfWrong : ChangeSpec := { name := "fnExactPatternOf", fn := fun _ => fun
  | [d1, d2, d3] => { results := [.lit (.bool false)], args := [d1, d2, d3] }
  | _ => none }
def FnExactPatternOfWrongFalsely : Prop := fnExactPatternOfRow.holds Tryd.pinned (OpenSpec.ofChange fnExactPatternOfWrong)

/-- 'laws.FnExactNeedlessRepairs': WHATEVER THE INPUT: true; the input reads as it did. -/
def fnExactNeedlessRepairsSpec : ChangeSpec := { name := "fnExactNeedlessRepairs", vars := ["loop.example/g01376/impl.errNotKept", "loop.example/g01376/impl.errNoSuch", "loop.example/g01376/impl.errNotValid", "loop.example/g01376/impl.errTooMany", "loop.example/g01376/impl.errUnsound", "loop.example/g01376/impl.errUnlike"], fn := fun _ => fun
  | [d1, d2, d3, d4, g1, g2, g3, g4, g5, g6] => { results := [.lit (.bool true)], args := [d1, d2, d3, d4], vars := [g1, g2, g3, g4, g5, g6] }
  | _ => none }
def fnExactNeedlessRepairsRow : OpenClaim := { program := "ytcdddngdjhjdbaadoor", sum := "adaae611300405cc4f5261984f7532b51337d5992695a401f52e731ff3094bfd", func := "loop.example/g01376/laws.FnExactNeedlessRepairs", spec := "fnExactNeedlessRepairs", inPlace := ["internal/reflectlite.TypeOf"], unfollowed := true, recurses := true, named := ["loop.example/g01376/impl.errNotKept", "loop.example/g01376/impl.errNoSuch", "loop.example/g01376/impl.errNotValid", "loop.example/g01376/impl.errTooMany", "loop.example/g01376/impl.errUnsound", "loop.example/g01376/impl.errUnlike"], ifaces := true, apart := false, laid := [("loop.example/g01376/impl.errNotValid", laid_loop_example_g01376_impl_errNotValid), ("loop.example/g01376/impl.errNoSuch", laid_loop_example_g01376_impl_errNoSuch), ("loop.example/g01376/impl.errTooMany", laid_loop_example_g01376_impl_errTooMany), ("loop.example/g01376/impl.errUnsound", laid_loop_example_g01376_impl_errUnsound), ("loop.example/g01376/impl.errUnlike", laid_loop_example_g01376_impl_errUnlike), ("loop.example/g01376/impl.errNotKept", laid_loop_example_g01376_impl_errNotKept)] }
def FnExactNeedlessRepairsSaid : Prop := fnExactNeedlessRepairsRow.holds Tryd.pinned (OpenSpec.ofChange fnExactNeedlessRepairsSpec)

/-- ITS FALSE NEIGHBOUR: 'it returns false'. Refute it at one input. -/
def fnExactNeedlessRepairsWrong : ChangeSpec := { name := "fnExactNeedlessRepairs", vars := ["loop.example/g01376/impl.errNotKept", "loop.example/g01376/impl.errNoSuch", "loop.example/g01376/impl.errNotValid", "loop.example/g01376/impl.errTooMany", "loop.example/g01376/impl.errUnsound", "loop.example/g01376/impl.errUnlike"], fn := fun _ => fun
  | [d1, d2, d3, d4, g1, g2, g3, g4, g5, g6] => { results := [.lit (.bool false)], args := [d1, d2, d3, d4], vars := [g1, g2, g3, g4, g5, g6] }
  | _ => none }
def FnExactNeedlessRepairsWrongFalsely : Prop := fnExactNeedlessRepairsRow.holds Tryd.pinned (OpenSpec.ofChange fnExactNeedlessRepairsWrong)

/- THE SECOND FORM. 'bulk': how many values and letters a reading holds, each counted each time it is reached (what is shared counts as often as it is met; a slice's spare places count too). A statement '..UptoSaid' is the law's where the arguments, and the package variables that the reading takes, are together of bulk at most 1048576: NARROWER than '..Said'. Prove '..Said' where nothing that the law and all that it calls make is longer than what came in: it says more and counts as full. Else prove '..UptoSaid'. A law counts once. -/
mutual
def uptoBulk {H : Type} : DataW H → Nat
  | .lit (.string bytes) => bytes.length + 1
  | .lit _ => 1
  | .nil => 1
  | .ptr d => uptoBulk d + 1
  | .slice elems spare => uptoBulkAll elems + uptoBulkAll spare + 1
  | .agg parts => uptoBulkAll parts + 1
  | .iface _ d => uptoBulk d + 1
  | .map entries => uptoBulkEntries entries + 1
  | .held _ => 1
def uptoBulkAll {H : Type} : List (DataW H) → Nat
  | [] => 0
  | d :: r => uptoBulk d + uptoBulkAll r
def uptoBulkEntries {H : Type} : List (Lit × DataW H) → Nat
  | [] => 0
  | x :: r => uptoBulkEntry x + uptoBulkEntries r
def uptoBulkEntry {H : Type} : Lit × DataW H → Nat
  | (.string bytes, d) => bytes.length + uptoBulk d + 1
  | (_, d) => uptoBulk d + 1
 end
def uptoSmall : (H : Type) → List (DataW H) → Bool := fun _ ds => decide (uptoBulkAll ds ≤ 1048576)
def OpenSpec.upto (s : _root_.Go.ChangeSpec) : _root_.Go.OpenSpec := { _root_.Go.OpenSpec.ofChange s with cond := some uptoSmall }

/-- 'laws.FnExactReplacedAt', WHERE WHAT IT READS IS OF BULK AT MOST 1048576: true; the input reads as it did. -/
def fnExactReplacedAtUptoRow : OpenClaim := { program := "ytcdddngdjhjdbaadoor", sum := "adaae611300405cc4f5261984f7532b51337d5992695a401f52e731ff3094bfd", func := "loop.example/g01376/laws.FnExactReplacedAt", spec := "fnExactReplacedAt", inPlace := ["internal/reflectlite.ValueOf", "(internal/reflectlite.Value).Type", "(internal/reflectlite.Value).IsNil", "internal/reflectlite.TypeOf", "(internal/reflectlite.Value).Elem", "(internal/reflectlite.Value).Set"], unfollowed := true, recurses := true, named := ["errors.errorType"], apart := false, laid := [("errors.errorType", laid_errors_errorType)], narrowed := true }
def FnExactReplacedAtUptoSaid : Prop := fnExactReplacedAtUptoRow.holds Tryd.pinned (OpenSpec.upto fnExactReplacedAtSpec)

/-- 'laws.FnExactCheckVisits', WHERE WHAT IT READS IS OF BULK AT MOST 1048576: true; the input reads as it did. -/
def fnExactCheckVisitsUptoRow : OpenClaim := { program := "ytcdddngdjhjdbaadoor", sum := "adaae611300405cc4f5261984f7532b51337d5992695a401f52e731ff3094bfd", func := "loop.example/g01376/laws.FnExactCheckVisits", spec := "fnExactCheckVisits", inPlace := ["internal/reflectlite.ValueOf", "(internal/reflectlite.Value).Type", "(internal/reflectlite.Value).IsNil", "internal/reflectlite.TypeOf", "(internal/reflectlite.Value).Elem", "(internal/reflectlite.Value).Set"], unfollowed := true, recurses := true, named := ["errors.errorType"], apart := false, laid := [("errors.errorType", laid_errors_errorType)], narrowed := true }
def FnExactCheckVisitsUptoSaid : Prop := fnExactCheckVisitsUptoRow.holds Tryd.pinned (OpenSpec.upto fnExactCheckVisitsSpec)

/-- 'laws.FnExactMakePattern', WHERE WHAT IT READS IS OF BULK AT MOST 1048576: true; the input reads as it did. -/
def fnExactMakePatternUptoRow : OpenClaim := { program := "ytcdddngdjhjdbaadoor", sum := "adaae611300405cc4f5261984f7532b51337d5992695a401f52e731ff3094bfd", func := "loop.example/g01376/laws.FnExactMakePattern", spec := "fnExactMakePattern", inPlace := ["internal/bytealg.IndexByteString", "internal/bytealg.IndexString"], unfollowed := true, recurses := true, named := ["unicode/utf8.first", "unicode/utf8.acceptRanges", "internal/bytealg.MaxLen"], apart := false, laid := [("unicode/utf8.acceptRanges", laid_unicode_utf8_acceptRanges), ("unicode/utf8.first", laid_unicode_utf8_first)], narrowed := true }
def FnExactMakePatternUptoSaid : Prop := fnExactMakePatternUptoRow.holds Tryd.pinned (OpenSpec.upto fnExactMakePatternSpec)

/-- 'laws.FnExactValidWord', WHERE WHAT IT READS IS OF BULK AT MOST 1048576: true; the input reads as it did. -/
def fnExactValidWordUptoRow : OpenClaim := { program := "ytcdddngdjhjdbaadoor", sum := "adaae611300405cc4f5261984f7532b51337d5992695a401f52e731ff3094bfd", func := "loop.example/g01376/laws.FnExactValidWord", spec := "fnExactValidWord", inPlace := ["internal/bytealg.IndexByteString", "internal/bytealg.IndexString"], named := ["unicode/utf8.first", "unicode/utf8.acceptRanges", "internal/bytealg.MaxLen"], apart := false, laid := [("unicode/utf8.acceptRanges", laid_unicode_utf8_acceptRanges), ("unicode/utf8.first", laid_unicode_utf8_first)], narrowed := true }
def FnExactValidWordUptoSaid : Prop := fnExactValidWordUptoRow.holds Tryd.pinned (OpenSpec.upto fnExactValidWordSpec)

/-- 'laws.FnExactNearestPattern', WHERE WHAT IT READS IS OF BULK AT MOST 1048576: true; the input reads as it did. -/
def fnExactNearestPatternUptoRow : OpenClaim := { program := "ytcdddngdjhjdbaadoor", sum := "adaae611300405cc4f5261984f7532b51337d5992695a401f52e731ff3094bfd", func := "loop.example/g01376/laws.FnExactNearestPattern", spec := "fnExactNearestPattern", inPlace := ["internal/bytealg.IndexByteString", "internal/bytealg.IndexString", "internal/reflectlite.ValueOf", "(internal/reflectlite.Value).Type", "(internal/reflectlite.Value).IsNil", "internal/reflectlite.TypeOf", "(internal/reflectlite.Value).Elem", "(internal/reflectlite.Value).Set"], unfollowed := true, recurses := true, named := ["unicode/utf8.first", "unicode/utf8.acceptRanges", "errors.errorType", "internal/bytealg.MaxLen"], apart := false, laid := [("unicode/utf8.acceptRanges", laid_unicode_utf8_acceptRanges), ("errors.errorType", laid_errors_errorType), ("unicode/utf8.first", laid_unicode_utf8_first)], narrowed := true }
def FnExactNearestPatternUptoSaid : Prop := fnExactNearestPatternUptoRow.holds Tryd.pinned (OpenSpec.upto fnExactNearestPatternSpec)

/-- 'laws.FnExactPatternOf', WHERE WHAT IT READS IS OF BULK AT MOST 1048576: true; the input reads as it did. -/
def fnExactPatternOfUptoRow : OpenClaim := { program := "ytcdddngdjhjdbaadoor", sum := "adaae611300405cc4f5261984f7532b51337d5992695a401f52e731ff3094bfd", func := "loop.example/g01376/laws.FnExactPatternOf", spec := "fnExactPatternOf", inPlace := ["internal/reflectlite.ValueOf", "(internal/reflectlite.Value).Type", "(internal/reflectlite.Value).IsNil", "internal/reflectlite.TypeOf", "(internal/reflectlite.Value).Elem", "(internal/reflectlite.Value).Set"], unfollowed := true, recurses := true, named := ["errors.errorType"], apart := false, laid := [("errors.errorType", laid_errors_errorType)], narrowed := true }
def FnExactPatternOfUptoSaid : Prop := fnExactPatternOfUptoRow.holds Tryd.pinned (OpenSpec.upto fnExactPatternOfSpec)

/-- 'laws.FnExactNeedlessRepairs', WHERE WHAT IT READS IS OF BULK AT MOST 1048576: true; the input reads as it did. -/
def fnExactNeedlessRepairsUptoRow : OpenClaim := { program := "ytcdddngdjhjdbaadoor", sum := "adaae611300405cc4f5261984f7532b51337d5992695a401f52e731ff3094bfd", func := "loop.example/g01376/laws.FnExactNeedlessRepairs", spec := "fnExactNeedlessRepairs", inPlace := ["internal/reflectlite.TypeOf"], unfollowed := true, recurses := true, named := ["loop.example/g01376/impl.errNotKept", "loop.example/g01376/impl.errNoSuch", "loop.example/g01376/impl.errNotValid", "loop.example/g01376/impl.errTooMany", "loop.example/g01376/impl.errUnsound", "loop.example/g01376/impl.errUnlike"], ifaces := true, apart := false, laid := [("loop.example/g01376/impl.errNotValid", laid_loop_example_g01376_impl_errNotValid), ("loop.example/g01376/impl.errNoSuch", laid_loop_example_g01376_impl_errNoSuch), ("loop.example/g01376/impl.errTooMany", laid_loop_example_g01376_impl_errTooMany), ("loop.example/g01376/impl.errUnsound", laid_loop_example_g01376_impl_errUnsound), ("loop.example/g01376/impl.errUnlike", laid_loop_example_g01376_impl_errUnlike), ("loop.example/g01376/impl.errNotKept", laid_loop_example_g01376_impl_errNotKept)], narrowed := true }
def FnExactNeedlessRepairsUptoSaid : Prop := fnExactNeedlessRepairsUptoRow.holds Tryd.pinned (OpenSpec.upto fnExactNeedlessRepairsSpec)

end Rows
end Go.Proofs.YtcdddngdjhjdbaaDoor
