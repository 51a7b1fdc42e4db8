/-
  NARROWER THAN 'FOR EVERY INPUT', by the rows' own cells (each row's printed sentence says how): FnExactLater: laid · FnExactOldestOf: laid · FnExactTooOld: laid · FnExactBreakRoof: laid · FnExactFirstBreak: laid · FnExactVisitsFor: laid · FnExactReplacedAt: laid · FnExactCheckVisits: laid.
  DERIVED. THE GIVEN ROWS OF THIS SEAT. 8 by the template 'for every input the law returns true; each argument reads behind the call as it read before'; 0 by the template 'total and deterministic' (their statements: YtcdobpnejbfbpaaDoorTotals.lean).
  GIVEN WITH THE SEED: the statements are not yours to turn. If you find one false, say at which input.
  Laid BY PROGRAM, IN A SANDBOX (cutbox-rows.mjs): the forced cells as the released guide's own fill.sh prints them over the translation e43af9c4ed029564… (all of the seat's roots in one cut). By AI agents, Wed Nov 11 2026. No macro, syntax, notation, axiom, sorry.
-/
import Derived.Test.YtcdobpnejbfbpaaDoorChecked
import GoSem.Claim
import GoSem.ClaimJoined
import GoSem.ClaimMapViews
import Derived.JoinedTies
import Derived.KernelRfl
namespace Go.Proofs.YtcdobpnejbfbpaaDoor
/- THE CELL 'sum', in the pinned program and in every row, IS THE sha256 OF THE DUMP (.gsa) THAT YtcdobpnejbfbpaaDoorProg.lean LOADS. Nothing in Lean hashes anything: it is a label: what it is worth is what the hold of that sum in a sandbox is worth. -/
noncomputable def Tryd.pinned : Pinned := { name := "ytcdobpnejbfbpaadoor", sum := "e43af9c4ed029564ef1ec30e0c80f17f3f0975a357b7d637fb2aad4167752cd2", checked := Tryd.checked }
namespace Rows
def none {H : Type} : Left H := { results := [], args := [] }

/- WHAT THE LISTED PACKAGE-LEVEL VARIABLES READ AS WHEN THE CALL BEGINS. Each datum BY PROGRAM (the guide's laid-datum.mjs) off the statement by which the dump's own 'gosem.cut.vars' lays the variable. In a bare row this is a premise. The card (YtcdobpnejbfbpaaDoorCards.lean) ties it to the program's text. -/
def laid_errors_errorType {H : Type} : DataW H := .iface "internal/reflectlite.rtype" (.agg [.ptr (.lit (.string [101, 114, 114, 111, 114]))])

/-- 'laws.FnExactLater': WHATEVER THE INPUT: true; the input reads as it did. -/
def fnExactLaterSpec : ChangeSpec := { name := "fnExactLater", fn := fun _ => fun
  | [d1, d2, d3] => { results := [.lit (.bool true)], args := [d1, d2, d3] }
  | _ => none }
def fnExactLaterRow : OpenClaim := { program := "ytcdobpnejbfbpaadoor", sum := "e43af9c4ed029564ef1ec30e0c80f17f3f0975a357b7d637fb2aad4167752cd2", func := "loop.example/g01376/laws.FnExactLater", spec := "fnExactLater", inPlace := ["internal/reflectlite.ValueOf", "(internal/reflectlite.Value).Type", "(internal/reflectlite.Value).IsNil", "internal/reflectlite.TypeOf", "(internal/reflectlite.Value).Elem", "(internal/reflectlite.Value).Set"], unfollowed := true, recurses := true, named := ["errors.errorType"], apart := false, laid := [("errors.errorType", laid_errors_errorType)] }
def FnExactLaterSaid : Prop := fnExactLaterRow.holds Tryd.pinned (OpenSpec.ofChange fnExactLaterSpec)

/-- ITS FALSE NEIGHBOUR: 'it returns false'. Refute it at one input. -/
def fnExactLaterWrong : ChangeSpec := { name := "fnExactLater", fn := fun _ => fun
  | [d1, d2, d3] => { results := [.lit (.bool false)], args := [d1, d2, d3] }
  | _ => none }
def FnExactLaterWrongFalsely : Prop := fnExactLaterRow.holds Tryd.pinned (OpenSpec.ofChange fnExactLaterWrong)

/-- 'laws.FnExactOldestOf': WHATEVER THE INPUT: true; the input reads as it did. -/
def fnExactOldestOfSpec : ChangeSpec := { name := "fnExactOldestOf", fn := fun _ => fun
  | [d1, d2] => { results := [.lit (.bool true)], args := [d1, d2] }
  | _ => none }
def fnExactOldestOfRow : OpenClaim := { program := "ytcdobpnejbfbpaadoor", sum := "e43af9c4ed029564ef1ec30e0c80f17f3f0975a357b7d637fb2aad4167752cd2", func := "loop.example/g01376/laws.FnExactOldestOf", spec := "fnExactOldestOf", inPlace := ["internal/reflectlite.ValueOf", "(internal/reflectlite.Value).Type", "(internal/reflectlite.Value).IsNil", "internal/reflectlite.TypeOf", "(internal/reflectlite.Value).Elem", "(internal/reflectlite.Value).Set"], unfollowed := true, recurses := true, named := ["errors.errorType"], apart := false, laid := [("errors.errorType", laid_errors_errorType)] }
def FnExactOldestOfSaid : Prop := fnExactOldestOfRow.holds Tryd.pinned (OpenSpec.ofChange fnExactOldestOfSpec)

/-- ITS FALSE NEIGHBOUR: 'it returns false'. Refute it at one input. -/
def fnExactOldestOfWrong : ChangeSpec := { name := "fnExactOldestOf", fn := fun _ => fun
  | [d1, d2] => { results := [.lit (.bool false)], args := [d1, d2] }
  | _ => none }
def FnExactOldestOfWrongFalsely : Prop := fnExactOldestOfRow.holds Tryd.pinned (OpenSpec.ofChange fnExactOldestOfWrong)

/-- 'laws.FnExactTooOld': WHATEVER THE INPUT: true; the input reads as it did. -/
def fnExactTooOldSpec : ChangeSpec := { name := "fnExactTooOld", fn := fun _ => fun
  | [d1, d2, d3] => { results := [.lit (.bool true)], args := [d1, d2, d3] }
  | _ => none }
def fnExactTooOldRow : OpenClaim := { program := "ytcdobpnejbfbpaadoor", sum := "e43af9c4ed029564ef1ec30e0c80f17f3f0975a357b7d637fb2aad4167752cd2", func := "loop.example/g01376/laws.FnExactTooOld", spec := "fnExactTooOld", inPlace := ["internal/reflectlite.ValueOf", "(internal/reflectlite.Value).Type", "(internal/reflectlite.Value).IsNil", "internal/reflectlite.TypeOf", "(internal/reflectlite.Value).Elem", "(internal/reflectlite.Value).Set"], unfollowed := true, recurses := true, named := ["errors.errorType"], apart := false, laid := [("errors.errorType", laid_errors_errorType)] }
def FnExactTooOldSaid : Prop := fnExactTooOldRow.holds Tryd.pinned (OpenSpec.ofChange fnExactTooOldSpec)

/-- ITS FALSE NEIGHBOUR: 'it returns false'. Refute it at one input. -/
def fnExactTooOldWrong : ChangeSpec := { name := "fnExactTooOld", fn := fun _ => fun
  | [d1, d2, d3] => { results := [.lit (.bool false)], args := [d1, d2, d3] }
  | _ => none }
def FnExactTooOldWrongFalsely : Prop := fnExactTooOldRow.holds Tryd.pinned (OpenSpec.ofChange fnExactTooOldWrong)

/-- 'laws.FnExactBreakRoof': WHATEVER THE INPUT: true; the input reads as it did. -/
def fnExactBreakRoofSpec : ChangeSpec := { name := "fnExactBreakRoof", fn := fun _ => fun
  | [d1, d2, d3, d4] => { results := [.lit (.bool true)], args := [d1, d2, d3, d4] }
  | _ => none }
def fnExactBreakRoofRow : OpenClaim := { program := "ytcdobpnejbfbpaadoor", sum := "e43af9c4ed029564ef1ec30e0c80f17f3f0975a357b7d637fb2aad4167752cd2", func := "loop.example/g01376/laws.FnExactBreakRoof", spec := "fnExactBreakRoof", inPlace := ["internal/reflectlite.ValueOf", "(internal/reflectlite.Value).Type", "(internal/reflectlite.Value).IsNil", "internal/reflectlite.TypeOf", "(internal/reflectlite.Value).Elem", "(internal/reflectlite.Value).Set"], unfollowed := true, recurses := true, named := ["errors.errorType"], apart := false, laid := [("errors.errorType", laid_errors_errorType)] }
def FnExactBreakRoofSaid : Prop := fnExactBreakRoofRow.holds Tryd.pinned (OpenSpec.ofChange fnExactBreakRoofSpec)

/-- ITS FALSE NEIGHBOUR: 'it returns false'. Refute it at one input. -/
def fnExactBreakRoofWrong : ChangeSpec := { name := "fnExactBreakRoof", fn := fun _ => fun
  | [d1, d2, d3, d4] => { results := [.lit (.bool false)], args := [d1, d2, d3, d4] }
  | _ => none }
def FnExactBreakRoofWrongFalsely : Prop := fnExactBreakRoofRow.holds Tryd.pinned (OpenSpec.ofChange fnExactBreakRoofWrong)

/-- 'laws.FnExactFirstBreak': WHATEVER THE INPUT: true; the input reads as it did. -/
def fnExactFirstBreakSpec : ChangeSpec := { name := "fnExactFirstBreak", fn := fun _ => fun
  | [d1, d2, d3] => { results := [.lit (.bool true)], args := [d1, d2, d3] }
  | _ => none }
def fnExactFirstBreakRow : OpenClaim := { program := "ytcdobpnejbfbpaadoor", sum := "e43af9c4ed029564ef1ec30e0c80f17f3f0975a357b7d637fb2aad4167752cd2", func := "loop.example/g01376/laws.FnExactFirstBreak", spec := "fnExactFirstBreak", inPlace := ["internal/reflectlite.ValueOf", "(internal/reflectlite.Value).Type", "(internal/reflectlite.Value).IsNil", "internal/reflectlite.TypeOf", "(internal/reflectlite.Value).Elem", "(internal/reflectlite.Value).Set"], unfollowed := true, recurses := true, named := ["errors.errorType"], apart := false, laid := [("errors.errorType", laid_errors_errorType)] }
def FnExactFirstBreakSaid : Prop := fnExactFirstBreakRow.holds Tryd.pinned (OpenSpec.ofChange fnExactFirstBreakSpec)

/-- ITS FALSE NEIGHBOUR: 'it returns false'. Refute it at one input. -/
def fnExactFirstBreakWrong : ChangeSpec := { name := "fnExactFirstBreak", fn := fun _ => fun
  | [d1, d2, d3] => { results := [.lit (.bool false)], args := [d1, d2, d3] }
  | _ => none }
def FnExactFirstBreakWrongFalsely : Prop := fnExactFirstBreakRow.holds Tryd.pinned (OpenSpec.ofChange fnExactFirstBreakWrong)

/-- 'laws.FnExactVisitsFor': WHATEVER THE INPUT: true; the input reads as it did. -/
def fnExactVisitsForSpec : ChangeSpec := { name := "fnExactVisitsFor", fn := fun _ => fun
  | [d1, d2, d3, d4] => { results := [.lit (.bool true)], args := [d1, d2, d3, d4] }
  | _ => none }
def fnExactVisitsForRow : OpenClaim := { program := "ytcdobpnejbfbpaadoor", sum := "e43af9c4ed029564ef1ec30e0c80f17f3f0975a357b7d637fb2aad4167752cd2", func := "loop.example/g01376/laws.FnExactVisitsFor", spec := "fnExactVisitsFor", inPlace := ["internal/reflectlite.ValueOf", "(internal/reflectlite.Value).Type", "(internal/reflectlite.Value).IsNil", "internal/reflectlite.TypeOf", "(internal/reflectlite.Value).Elem", "(internal/reflectlite.Value).Set"], unfollowed := true, recurses := true, named := ["errors.errorType"], apart := false, laid := [("errors.errorType", laid_errors_errorType)] }
def FnExactVisitsForSaid : Prop := fnExactVisitsForRow.holds Tryd.pinned (OpenSpec.ofChange fnExactVisitsForSpec)

/-- ITS FALSE NEIGHBOUR: 'it returns false'. Refute it at one input. -/
def fnExactVisitsForWrong : ChangeSpec := { name := "fnExactVisitsFor", fn := fun _ => fun
  | [d1, d2, d3, d4] => { results := [.lit (.bool false)], args := [d1, d2, d3, d4] }
  | _ => none }
def FnExactVisitsForWrongFalsely : Prop := fnExactVisitsForRow.holds Tryd.pinned (OpenSpec.ofChange fnExactVisitsForWrong)

/-- 'laws.FnExactReplacedAt': WHATEVER THE INPUT: true; the input reads as it did. -/
def fnExactReplacedAtSpec : ChangeSpec := { name := "fnExactReplacedAt", fn := fun _ => fun
  | [d1, d2, d3, d4] => { results := [.lit (.bool true)], args := [d1, d2, d3, d4] }
  | _ => none }
def fnExactReplacedAtRow : OpenClaim := { program := "ytcdobpnejbfbpaadoor", sum := "e43af9c4ed029564ef1ec30e0c80f17f3f0975a357b7d637fb2aad4167752cd2", func := "loop.example/g01376/laws.FnExactReplacedAt", spec := "fnExactReplacedAt", inPlace := ["internal/reflectlite.ValueOf", "(internal/reflectlite.Value).Type", "(internal/reflectlite.Value).IsNil", "internal/reflectlite.TypeOf", "(internal/reflectlite.Value).Elem", "(internal/reflectlite.Value).Set"], unfollowed := true, recurses := true, named := ["errors.errorType"], apart := false, laid := [("errors.errorType", laid_errors_errorType)] }
def FnExactReplacedAtSaid : Prop := fnExactReplacedAtRow.holds Tryd.pinned (OpenSpec.ofChange fnExactReplacedAtSpec)

/-- ITS FALSE NEIGHBOUR: 'it returns false'. Refute it at one input. -/
def fnExactReplacedAtWrong : ChangeSpec := { name := "fnExactReplacedAt", fn := fun _ => fun
  | [d1, d2, d3, d4] => { results := [.lit (.bool false)], args := [d1, d2, d3, d4] }
  | _ => none }
def FnExactReplacedAtWrongFalsely : Prop := fnExactReplacedAtRow.holds Tryd.pinned (OpenSpec.ofChange fnExactReplacedAtWrong)

/-- 'laws.FnExactCheckVisits': WHATEVER THE INPUT: true; the input reads as it did. -/
def fnExactCheckVisitsSpec : ChangeSpec := { name := "fnExactCheckVisits", fn := fun _ => fun
  | [d1, d2, d3, d4, d5] => { results := [.lit (.bool true)], args := [d1, d2, d3, d4, d5] }
  | _ => none }
def fnExactCheckVisitsRow : OpenClaim := { program := "ytcdobpnejbfbpaadoor", sum := "e43af9c4ed029564ef1ec30e0c80f17f3f0975a357b7d637fb2aad4167752cd2", func := "loop.example/g01376/laws.FnExactCheckVisits", spec := "fnExactCheckVisits", inPlace := ["internal/reflectlite.ValueOf", "(internal/reflectlite.Value).Type", "(internal/reflectlite.Value).IsNil", "internal/reflectlite.TypeOf", "(internal/reflectlite.Value).Elem", "(internal/reflectlite.Value).Set"], unfollowed := true, recurses := true, named := ["errors.errorType"], apart := false, laid := [("errors.errorType", laid_errors_errorType)] }
def FnExactCheckVisitsSaid : Prop := fnExactCheckVisitsRow.holds Tryd.pinned (OpenSpec.ofChange fnExactCheckVisitsSpec)

/-- ITS FALSE NEIGHBOUR: 'it returns false'. Refute it at one input. -/
def fnExactCheckVisitsWrong : ChangeSpec := { name := "fnExactCheckVisits", fn := fun _ => fun
  | [d1, d2, d3, d4, d5] => { results := [.lit (.bool false)], args := [d1, d2, d3, d4, d5] }
  | _ => none }
def FnExactCheckVisitsWrongFalsely : Prop := fnExactCheckVisitsRow.holds Tryd.pinned (OpenSpec.ofChange fnExactCheckVisitsWrong)

/- THE SECOND FORM. 'bulk': how many values and letters a reading holds, each counted each time it is reached (what is shared counts as often as it is met; a slice's spare places count too). A statement '..UptoSaid' is the law's where the arguments, and the package variables that the reading takes, are together of bulk at most 1048576: NARROWER than '..Said'. Prove '..Said' where nothing that the law and all that it calls make is longer than what came in: it says more and counts as full. Else prove '..UptoSaid'. A law counts once. -/
mutual
def uptoBulk {H : Type} : DataW H → Nat
  | .lit (.string bytes) => bytes.length + 1
  | .lit _ => 1
  | .nil => 1
  | .ptr d => uptoBulk d + 1
  | .slice elems spare => uptoBulkAll elems + uptoBulkAll spare + 1
  | .agg parts => uptoBulkAll parts + 1
  | .iface _ d => uptoBulk d + 1
  | .map entries => uptoBulkEntries entries + 1
  | .held _ => 1
def uptoBulkAll {H : Type} : List (DataW H) → Nat
  | [] => 0
  | d :: r => uptoBulk d + uptoBulkAll r
def uptoBulkEntries {H : Type} : List (Lit × DataW H) → Nat
  | [] => 0
  | x :: r => uptoBulkEntry x + uptoBulkEntries r
def uptoBulkEntry {H : Type} : Lit × DataW H → Nat
  | (.string bytes, d) => bytes.length + uptoBulk d + 1
  | (_, d) => uptoBulk d + 1
 end
def uptoSmall : (H : Type) → List (DataW H) → Bool := fun _ ds => decide (uptoBulkAll ds ≤ 1048576)
def OpenSpec.upto (s : _root_.Go.ChangeSpec) : _root_.Go.OpenSpec := { _root_.Go.OpenSpec.ofChange s with cond := some uptoSmall }

/-- 'laws.FnExactLater', WHERE WHAT IT READS IS OF BULK AT MOST 1048576: true; the input reads as it did. -/
def fnExactLaterUptoRow : OpenClaim := { program := "ytcdobpnejbfbpaadoor", sum := "e43af9c4ed029564ef1ec30e0c80f17f3f0975a357b7d637fb2aad4167752cd2", func := "loop.example/g01376/laws.FnExactLater", spec := "fnExactLater", inPlace := ["internal/reflectlite.ValueOf", "(internal/reflectlite.Value).Type", "(internal/reflectlite.Value).IsNil", "internal/reflectlite.TypeOf", "(internal/reflectlite.Value).Elem", "(internal/reflectlite.Value).Set"], unfollowed := true, recurses := true, named := ["errors.errorType"], apart := false, laid := [("errors.errorType", laid_errors_errorType)], narrowed := true }
def FnExactLaterUptoSaid : Prop := fnExactLaterUptoRow.holds Tryd.pinned (OpenSpec.upto fnExactLaterSpec)

/-- 'laws.FnExactOldestOf', WHERE WHAT IT READS IS OF BULK AT MOST 1048576: true; the input reads as it did. -/
def fnExactOldestOfUptoRow : OpenClaim := { program := "ytcdobpnejbfbpaadoor", sum := "e43af9c4ed029564ef1ec30e0c80f17f3f0975a357b7d637fb2aad4167752cd2", func := "loop.example/g01376/laws.FnExactOldestOf", spec := "fnExactOldestOf", inPlace := ["internal/reflectlite.ValueOf", "(internal/reflectlite.Value).Type", "(internal/reflectlite.Value).IsNil", "internal/reflectlite.TypeOf", "(internal/reflectlite.Value).Elem", "(internal/reflectlite.Value).Set"], unfollowed := true, recurses := true, named := ["errors.errorType"], apart := false, laid := [("errors.errorType", laid_errors_errorType)], narrowed := true }
def FnExactOldestOfUptoSaid : Prop := fnExactOldestOfUptoRow.holds Tryd.pinned (OpenSpec.upto fnExactOldestOfSpec)

/-- 'laws.FnExactTooOld', WHERE WHAT IT READS IS OF BULK AT MOST 1048576: true; the input reads as it did. -/
def fnExactTooOldUptoRow : OpenClaim := { program := "ytcdobpnejbfbpaadoor", sum := "e43af9c4ed029564ef1ec30e0c80f17f3f0975a357b7d637fb2aad4167752cd2", func := "loop.example/g01376/laws.FnExactTooOld", spec := "fnExactTooOld", inPlace := ["internal/reflectlite.ValueOf", "(internal/reflectlite.Value).Type", "(internal/reflectlite.Value).IsNil", "internal/reflectlite.TypeOf", "(internal/reflectlite.Value).Elem", "(internal/reflectlite.Value).Set"], unfollowed := true, recurses := true, named := ["errors.errorType"], apart := false, laid := [("errors.errorType", laid_errors_errorType)], narrowed := true }
def FnExactTooOldUptoSaid : Prop := fnExactTooOldUptoRow.holds Tryd.pinned (OpenSpec.upto fnExactTooOldSpec)

/-- 'laws.FnExactBreakRoof', WHERE WHAT IT READS IS OF BULK AT MOST 1048576: true; the input reads as it did. -/
def fnExactBreakRoofUptoRow : OpenClaim := { program := "ytcdobpnejbfbpaadoor", sum := "e43af9c4ed029564ef1ec30e0c80f17f3f0975a357b7d637fb2aad4167752cd2", func := "loop.example/g01376/laws.FnExactBreakRoof", spec := "fnExactBreakRoof", inPlace := ["internal/reflectlite.ValueOf", "(internal/reflectlite.Value).Type", "(internal/reflectlite.Value).IsNil", "internal/reflectlite.TypeOf", "(internal/reflectlite.Value).Elem", "(internal/reflectlite.Value).Set"], unfollowed := true, recurses := true, named := ["errors.errorType"], apart := false, laid := [("errors.errorType", laid_errors_errorType)], narrowed := true }
def FnExactBreakRoofUptoSaid : Prop := fnExactBreakRoofUptoRow.holds Tryd.pinned (OpenSpec.upto fnExactBreakRoofSpec)

/-- 'laws.FnExactFirstBreak', WHERE WHAT IT READS IS OF BULK AT MOST 1048576: true; the input reads as it did. -/
def fnExactFirstBreakUptoRow : OpenClaim := { program := "ytcdobpnejbfbpaadoor", sum := "e43af9c4ed029564ef1ec30e0c80f17f3f0975a357b7d637fb2aad4167752cd2", func := "loop.example/g01376/laws.FnExactFirstBreak", spec := "fnExactFirstBreak", inPlace := ["internal/reflectlite.ValueOf", "(internal/reflectlite.Value).Type", "(internal/reflectlite.Value).IsNil", "internal/reflectlite.TypeOf", "(internal/reflectlite.Value).Elem", "(internal/reflectlite.Value).Set"], unfollowed := true, recurses := true, named := ["errors.errorType"], apart := false, laid := [("errors.errorType", laid_errors_errorType)], narrowed := true }
def FnExactFirstBreakUptoSaid : Prop := fnExactFirstBreakUptoRow.holds Tryd.pinned (OpenSpec.upto fnExactFirstBreakSpec)

/-- 'laws.FnExactVisitsFor', WHERE WHAT IT READS IS OF BULK AT MOST 1048576: true; the input reads as it did. -/
def fnExactVisitsForUptoRow : OpenClaim := { program := "ytcdobpnejbfbpaadoor", sum := "e43af9c4ed029564ef1ec30e0c80f17f3f0975a357b7d637fb2aad4167752cd2", func := "loop.example/g01376/laws.FnExactVisitsFor", spec := "fnExactVisitsFor", inPlace := ["internal/reflectlite.ValueOf", "(internal/reflectlite.Value).Type", "(internal/reflectlite.Value).IsNil", "internal/reflectlite.TypeOf", "(internal/reflectlite.Value).Elem", "(internal/reflectlite.Value).Set"], unfollowed := true, recurses := true, named := ["errors.errorType"], apart := false, laid := [("errors.errorType", laid_errors_errorType)], narrowed := true }
def FnExactVisitsForUptoSaid : Prop := fnExactVisitsForUptoRow.holds Tryd.pinned (OpenSpec.upto fnExactVisitsForSpec)

/-- 'laws.FnExactReplacedAt', WHERE WHAT IT READS IS OF BULK AT MOST 1048576: true; the input reads as it did. -/
def fnExactReplacedAtUptoRow : OpenClaim := { program := "ytcdobpnejbfbpaadoor", sum := "e43af9c4ed029564ef1ec30e0c80f17f3f0975a357b7d637fb2aad4167752cd2", func := "loop.example/g01376/laws.FnExactReplacedAt", spec := "fnExactReplacedAt", inPlace := ["internal/reflectlite.ValueOf", "(internal/reflectlite.Value).Type", "(internal/reflectlite.Value).IsNil", "internal/reflectlite.TypeOf", "(internal/reflectlite.Value).Elem", "(internal/reflectlite.Value).Set"], unfollowed := true, recurses := true, named := ["errors.errorType"], apart := false, laid := [("errors.errorType", laid_errors_errorType)], narrowed := true }
def FnExactReplacedAtUptoSaid : Prop := fnExactReplacedAtUptoRow.holds Tryd.pinned (OpenSpec.upto fnExactReplacedAtSpec)

/-- 'laws.FnExactCheckVisits', WHERE WHAT IT READS IS OF BULK AT MOST 1048576: true; the input reads as it did. -/
def fnExactCheckVisitsUptoRow : OpenClaim := { program := "ytcdobpnejbfbpaadoor", sum := "e43af9c4ed029564ef1ec30e0c80f17f3f0975a357b7d637fb2aad4167752cd2", func := "loop.example/g01376/laws.FnExactCheckVisits", spec := "fnExactCheckVisits", inPlace := ["internal/reflectlite.ValueOf", "(internal/reflectlite.Value).Type", "(internal/reflectlite.Value).IsNil", "internal/reflectlite.TypeOf", "(internal/reflectlite.Value).Elem", "(internal/reflectlite.Value).Set"], unfollowed := true, recurses := true, named := ["errors.errorType"], apart := false, laid := [("errors.errorType", laid_errors_errorType)], narrowed := true }
def FnExactCheckVisitsUptoSaid : Prop := fnExactCheckVisitsUptoRow.holds Tryd.pinned (OpenSpec.upto fnExactCheckVisitsSpec)

end Rows
end Go.Proofs.YtcdobpnejbfbpaaDoor
