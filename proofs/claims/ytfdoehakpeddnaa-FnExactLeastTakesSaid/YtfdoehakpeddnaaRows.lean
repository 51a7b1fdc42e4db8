/-
  No cell of these rows narrows 'for every input' (looked for: loops, veiled, ifaces, maps, wideKeys, modest, calm, conditions, laid).
  DERIVED. THE GIVEN ROWS OF THIS SEAT. 9 by the template 'for every input the law returns true; each argument reads behind the call as it read before'; 0 by the template 'total and deterministic' (their statements: YtfdoehakpeddnaaTotals.lean).
  GIVEN WITH THE SEED: the statements are not yours to turn. If you find one false, say at which input.
  Laid BY PROGRAM, IN A SANDBOX (cutbox-rows.mjs): the forced cells as the released guide's own fill.sh prints them over the translation f7216564e8d28451… (all of the seat's roots in one cut). By AI agents, Wed Nov 11 2026. No macro, syntax, notation, axiom, sorry.
-/
import Derived.Test.YtfdoehakpeddnaaChecked
import GoSem.Claim
import GoSem.ClaimJoined
import GoSem.ClaimMapViews
import Derived.JoinedTies
import Derived.KernelRfl
namespace Go.Proofs.Ytfdoehakpeddnaa
/- THE CELL 'sum', in the pinned program and in every row, IS THE sha256 OF THE DUMP (.gsa) THAT YtfdoehakpeddnaaProg.lean LOADS. Nothing in Lean hashes anything: it is a label: what it is worth is what the hold of that sum in a sandbox is worth. -/
noncomputable def Try.pinned : Pinned := { name := "ytfdoehakpeddnaa", sum := "f7216564e8d28451838ba112cdd44fb8b7f393d429fa18552fb205619a631555", checked := Try.checked }
namespace Rows
def none {H : Type} : Left H := { results := [], args := [] }

/-- 'laws.FnExactMinuteOnce': WHATEVER THE INPUT: true; the input reads as it did. -/
def fnExactMinuteOnceSpec : ChangeSpec := { name := "fnExactMinuteOnce", fn := fun _ => fun
  | [d1, d2, d3] => { results := [.lit (.bool true)], args := [d1, d2, d3] }
  | _ => none }
def fnExactMinuteOnceRow : OpenClaim := { program := "ytfdoehakpeddnaa", sum := "f7216564e8d28451838ba112cdd44fb8b7f393d429fa18552fb205619a631555", func := "loop.example/g01376/laws.FnExactMinuteOnce", spec := "fnExactMinuteOnce", unfollowed := true, recurses := true, leaving := true, apart := false }
def FnExactMinuteOnceSaid : Prop := fnExactMinuteOnceRow.holds Try.pinned (OpenSpec.ofChange fnExactMinuteOnceSpec)

/-- ITS FALSE NEIGHBOUR: 'it returns false'. Refute it at one input. -/
def fnExactMinuteOnceWrong : ChangeSpec := { name := "fnExactMinuteOnce", fn := fun _ => fun
  | [d1, d2, d3] => { results := [.lit (.bool false)], args := [d1, d2, d3] }
  | _ => none }
def FnExactMinuteOnceWrongFalsely : Prop := fnExactMinuteOnceRow.holds Try.pinned (OpenSpec.ofChange fnExactMinuteOnceWrong)

/-- 'laws.FnExactMinutesAll': WHATEVER THE INPUT: true; the input reads as it did. -/
def fnExactMinutesAllSpec : ChangeSpec := { name := "fnExactMinutesAll", fn := fun _ => fun
  | [d1, d2, d3, d4] => { results := [.lit (.bool true)], args := [d1, d2, d3, d4] }
  | _ => none }
def fnExactMinutesAllRow : OpenClaim := { program := "ytfdoehakpeddnaa", sum := "f7216564e8d28451838ba112cdd44fb8b7f393d429fa18552fb205619a631555", func := "loop.example/g01376/laws.FnExactMinutesAll", spec := "fnExactMinutesAll", unfollowed := true, recurses := true, leaving := true, apart := false }
def FnExactMinutesAllSaid : Prop := fnExactMinutesAllRow.holds Try.pinned (OpenSpec.ofChange fnExactMinutesAllSpec)

/-- ITS FALSE NEIGHBOUR: 'it returns false'. Refute it at one input. -/
def fnExactMinutesAllWrong : ChangeSpec := { name := "fnExactMinutesAll", fn := fun _ => fun
  | [d1, d2, d3, d4] => { results := [.lit (.bool false)], args := [d1, d2, d3, d4] }
  | _ => none }
def FnExactMinutesAllWrongFalsely : Prop := fnExactMinutesAllRow.holds Try.pinned (OpenSpec.ofChange fnExactMinutesAllWrong)

/-- 'laws.FnExactFirstOver': WHATEVER THE INPUT: true; the input reads as it did. -/
def fnExactFirstOverSpec : ChangeSpec := { name := "fnExactFirstOver", fn := fun _ => fun
  | [d1, d2] => { results := [.lit (.bool true)], args := [d1, d2] }
  | _ => none }
def fnExactFirstOverRow : OpenClaim := { program := "ytfdoehakpeddnaa", sum := "f7216564e8d28451838ba112cdd44fb8b7f393d429fa18552fb205619a631555", func := "loop.example/g01376/laws.FnExactFirstOver", spec := "fnExactFirstOver", unfollowed := true, recurses := true, leaving := true, apart := false }
def FnExactFirstOverSaid : Prop := fnExactFirstOverRow.holds Try.pinned (OpenSpec.ofChange fnExactFirstOverSpec)

/-- ITS FALSE NEIGHBOUR: 'it returns false'. Refute it at one input. -/
def fnExactFirstOverWrong : ChangeSpec := { name := "fnExactFirstOver", fn := fun _ => fun
  | [d1, d2] => { results := [.lit (.bool false)], args := [d1, d2] }
  | _ => none }
def FnExactFirstOverWrongFalsely : Prop := fnExactFirstOverRow.holds Try.pinned (OpenSpec.ofChange fnExactFirstOverWrong)

/-- 'laws.FnExactDrainTime': WHATEVER THE INPUT: true; the input reads as it did. -/
def fnExactDrainTimeSpec : ChangeSpec := { name := "fnExactDrainTime", fn := fun _ => fun
  | [d1, d2] => { results := [.lit (.bool true)], args := [d1, d2] }
  | _ => none }
def fnExactDrainTimeRow : OpenClaim := { program := "ytfdoehakpeddnaa", sum := "f7216564e8d28451838ba112cdd44fb8b7f393d429fa18552fb205619a631555", func := "loop.example/g01376/laws.FnExactDrainTime", spec := "fnExactDrainTime", unfollowed := true, recurses := true, leaving := true, apart := false }
def FnExactDrainTimeSaid : Prop := fnExactDrainTimeRow.holds Try.pinned (OpenSpec.ofChange fnExactDrainTimeSpec)

/-- ITS FALSE NEIGHBOUR: 'it returns false'. Refute it at one input. -/
def fnExactDrainTimeWrong : ChangeSpec := { name := "fnExactDrainTime", fn := fun _ => fun
  | [d1, d2] => { results := [.lit (.bool false)], args := [d1, d2] }
  | _ => none }
def FnExactDrainTimeWrongFalsely : Prop := fnExactDrainTimeRow.holds Try.pinned (OpenSpec.ofChange fnExactDrainTimeWrong)

/-- 'laws.FnExactBestClean': WHATEVER THE INPUT: true; the input reads as it did. -/
def fnExactBestCleanSpec : ChangeSpec := { name := "fnExactBestClean", fn := fun _ => fun
  | [d1, d2, d3] => { results := [.lit (.bool true)], args := [d1, d2, d3] }
  | _ => none }
def fnExactBestCleanRow : OpenClaim := { program := "ytfdoehakpeddnaa", sum := "f7216564e8d28451838ba112cdd44fb8b7f393d429fa18552fb205619a631555", func := "loop.example/g01376/laws.FnExactBestClean", spec := "fnExactBestClean", unfollowed := true, recurses := true, leaving := true, apart := false }
def FnExactBestCleanSaid : Prop := fnExactBestCleanRow.holds Try.pinned (OpenSpec.ofChange fnExactBestCleanSpec)

/-- ITS FALSE NEIGHBOUR: 'it returns false'. Refute it at one input. -/
def fnExactBestCleanWrong : ChangeSpec := { name := "fnExactBestClean", fn := fun _ => fun
  | [d1, d2, d3] => { results := [.lit (.bool false)], args := [d1, d2, d3] }
  | _ => none }
def FnExactBestCleanWrongFalsely : Prop := fnExactBestCleanRow.holds Try.pinned (OpenSpec.ofChange fnExactBestCleanWrong)

/-- 'laws.FnExactLeastTakes': WHATEVER THE INPUT: true; the input reads as it did. -/
def fnExactLeastTakesSpec : ChangeSpec := { name := "fnExactLeastTakes", fn := fun _ => fun
  | [d1, d2, d3] => { results := [.lit (.bool true)], args := [d1, d2, d3] }
  | _ => none }
def fnExactLeastTakesRow : OpenClaim := { program := "ytfdoehakpeddnaa", sum := "f7216564e8d28451838ba112cdd44fb8b7f393d429fa18552fb205619a631555", func := "loop.example/g01376/laws.FnExactLeastTakes", spec := "fnExactLeastTakes", unfollowed := true, recurses := true, leaving := true, apart := false }
def FnExactLeastTakesSaid : Prop := fnExactLeastTakesRow.holds Try.pinned (OpenSpec.ofChange fnExactLeastTakesSpec)

/-- ITS FALSE NEIGHBOUR: 'it returns false'. Refute it at one input. -/
def fnExactLeastTakesWrong : ChangeSpec := { name := "fnExactLeastTakes", fn := fun _ => fun
  | [d1, d2, d3] => { results := [.lit (.bool false)], args := [d1, d2, d3] }
  | _ => none }
def FnExactLeastTakesWrongFalsely : Prop := fnExactLeastTakesRow.holds Try.pinned (OpenSpec.ofChange fnExactLeastTakesWrong)

/-- 'laws.FnExactMirrorGutter': WHATEVER THE INPUT: true; the input reads as it did. -/
def fnExactMirrorGutterSpec : ChangeSpec := { name := "fnExactMirrorGutter", fn := fun _ => fun
  | [d] => { results := [.lit (.bool true)], args := [d] }
  | _ => none }
def fnExactMirrorGutterRow : OpenClaim := { program := "ytfdoehakpeddnaa", sum := "f7216564e8d28451838ba112cdd44fb8b7f393d429fa18552fb205619a631555", func := "loop.example/g01376/laws.FnExactMirrorGutter", spec := "fnExactMirrorGutter", unfollowed := true, recurses := true, leaving := true, apart := false }
def FnExactMirrorGutterSaid : Prop := fnExactMirrorGutterRow.holds Try.pinned (OpenSpec.ofChange fnExactMirrorGutterSpec)

/-- ITS FALSE NEIGHBOUR: 'it returns false'. Refute it at one input. -/
def fnExactMirrorGutterWrong : ChangeSpec := { name := "fnExactMirrorGutter", fn := fun _ => fun
  | [d] => { results := [.lit (.bool false)], args := [d] }
  | _ => none }
def FnExactMirrorGutterWrongFalsely : Prop := fnExactMirrorGutterRow.holds Try.pinned (OpenSpec.ofChange fnExactMirrorGutterWrong)

/-- 'laws.FnExactBasinOf': WHATEVER THE INPUT: true; the input reads as it did. -/
def fnExactBasinOfSpec : ChangeSpec := { name := "fnExactBasinOf", fn := fun _ => fun
  | [d1, d2] => { results := [.lit (.bool true)], args := [d1, d2] }
  | _ => none }
def fnExactBasinOfRow : OpenClaim := { program := "ytfdoehakpeddnaa", sum := "f7216564e8d28451838ba112cdd44fb8b7f393d429fa18552fb205619a631555", func := "loop.example/g01376/laws.FnExactBasinOf", spec := "fnExactBasinOf", unfollowed := true, recurses := true, leaving := true, apart := false }
def FnExactBasinOfSaid : Prop := fnExactBasinOfRow.holds Try.pinned (OpenSpec.ofChange fnExactBasinOfSpec)

/-- ITS FALSE NEIGHBOUR: 'it returns false'. Refute it at one input. -/
def fnExactBasinOfWrong : ChangeSpec := { name := "fnExactBasinOf", fn := fun _ => fun
  | [d1, d2] => { results := [.lit (.bool false)], args := [d1, d2] }
  | _ => none }
def FnExactBasinOfWrongFalsely : Prop := fnExactBasinOfRow.holds Try.pinned (OpenSpec.ofChange fnExactBasinOfWrong)

/-- 'laws.FnExactUndrained': WHATEVER THE INPUT: true; the input reads as it did. -/
def fnExactUndrainedSpec : ChangeSpec := { name := "fnExactUndrained", fn := fun _ => fun
  | [d] => { results := [.lit (.bool true)], args := [d] }
  | _ => none }
def fnExactUndrainedRow : OpenClaim := { program := "ytfdoehakpeddnaa", sum := "f7216564e8d28451838ba112cdd44fb8b7f393d429fa18552fb205619a631555", func := "loop.example/g01376/laws.FnExactUndrained", spec := "fnExactUndrained", unfollowed := true, recurses := true, leaving := true, apart := false }
def FnExactUndrainedSaid : Prop := fnExactUndrainedRow.holds Try.pinned (OpenSpec.ofChange fnExactUndrainedSpec)

/-- ITS FALSE NEIGHBOUR: 'it returns false'. Refute it at one input. -/
def fnExactUndrainedWrong : ChangeSpec := { name := "fnExactUndrained", fn := fun _ => fun
  | [d] => { results := [.lit (.bool false)], args := [d] }
  | _ => none }
def FnExactUndrainedWrongFalsely : Prop := fnExactUndrainedRow.holds Try.pinned (OpenSpec.ofChange fnExactUndrainedWrong)

/- THE SECOND FORM. 'bulk': how many values and letters a reading holds, each counted each time it is reached (what is shared counts as often as it is met; a slice's spare places count too). A statement '..UptoSaid' is the law's where the arguments, and the package variables that the reading takes, are together of bulk at most 1048576: NARROWER than '..Said'. Prove '..Said' where nothing that the law and all that it calls make is longer than what came in: it says more and counts as full. Else prove '..UptoSaid'. A law counts once. -/
mutual
def uptoBulk {H : Type} : DataW H → Nat
  | .lit (.string bytes) => bytes.length + 1
  | .lit _ => 1
  | .nil => 1
  | .ptr d => uptoBulk d + 1
  | .slice elems spare => uptoBulkAll elems + uptoBulkAll spare + 1
  | .agg parts => uptoBulkAll parts + 1
  | .iface _ d => uptoBulk d + 1
  | .map entries => uptoBulkEntries entries + 1
  | .held _ => 1
def uptoBulkAll {H : Type} : List (DataW H) → Nat
  | [] => 0
  | d :: r => uptoBulk d + uptoBulkAll r
def uptoBulkEntries {H : Type} : List (Lit × DataW H) → Nat
  | [] => 0
  | x :: r => uptoBulkEntry x + uptoBulkEntries r
def uptoBulkEntry {H : Type} : Lit × DataW H → Nat
  | (.string bytes, d) => bytes.length + uptoBulk d + 1
  | (_, d) => uptoBulk d + 1
 end
def uptoSmall : (H : Type) → List (DataW H) → Bool := fun _ ds => decide (uptoBulkAll ds ≤ 1048576)
def OpenSpec.upto (s : _root_.Go.ChangeSpec) : _root_.Go.OpenSpec := { _root_.Go.OpenSpec.ofChange s with cond := some uptoSmall }

/-- 'laws.FnExactMinuteOnce', WHERE WHAT IT READS IS OF BULK AT MOST 1048576: true; the input reads as it did. -/
def fnExactMinuteOnceUptoRow : OpenClaim := { program := "ytfdoehakpeddnaa", sum := "f7216564e8d28451838ba112cdd44fb8b7f393d429fa18552fb205619a631555", func := "loop.example/g01376/laws.FnExactMinuteOnce", spec := "fnExactMinuteOnce", unfollowed := true, recurses := true, leaving := true, apart := false, narrowed := true }
def FnExactMinuteOnceUptoSaid : Prop := fnExactMinuteOnceUptoRow.holds Try.pinned (OpenSpec.upto fnExactMinuteOnceSpec)

/-- 'laws.FnExactMinutesAll', WHERE WHAT IT READS IS OF BULK AT MOST 1048576: true; the input reads as it did. -/
def fnExactMinutesAllUptoRow : OpenClaim := { program := "ytfdoehakpeddnaa", sum := "f7216564e8d28451838ba112cdd44fb8b7f393d429fa18552fb205619a631555", func := "loop.example/g01376/laws.FnExactMinutesAll", spec := "fnExactMinutesAll", unfollowed := true, recurses := true, leaving := true, apart := false, narrowed := true }
def FnExactMinutesAllUptoSaid : Prop := fnExactMinutesAllUptoRow.holds Try.pinned (OpenSpec.upto fnExactMinutesAllSpec)

/-- 'laws.FnExactFirstOver', WHERE WHAT IT READS IS OF BULK AT MOST 1048576: true; the input reads as it did. -/
def fnExactFirstOverUptoRow : OpenClaim := { program := "ytfdoehakpeddnaa", sum := "f7216564e8d28451838ba112cdd44fb8b7f393d429fa18552fb205619a631555", func := "loop.example/g01376/laws.FnExactFirstOver", spec := "fnExactFirstOver", unfollowed := true, recurses := true, leaving := true, apart := false, narrowed := true }
def FnExactFirstOverUptoSaid : Prop := fnExactFirstOverUptoRow.holds Try.pinned (OpenSpec.upto fnExactFirstOverSpec)

/-- 'laws.FnExactDrainTime', WHERE WHAT IT READS IS OF BULK AT MOST 1048576: true; the input reads as it did. -/
def fnExactDrainTimeUptoRow : OpenClaim := { program := "ytfdoehakpeddnaa", sum := "f7216564e8d28451838ba112cdd44fb8b7f393d429fa18552fb205619a631555", func := "loop.example/g01376/laws.FnExactDrainTime", spec := "fnExactDrainTime", unfollowed := true, recurses := true, leaving := true, apart := false, narrowed := true }
def FnExactDrainTimeUptoSaid : Prop := fnExactDrainTimeUptoRow.holds Try.pinned (OpenSpec.upto fnExactDrainTimeSpec)

/-- 'laws.FnExactBestClean', WHERE WHAT IT READS IS OF BULK AT MOST 1048576: true; the input reads as it did. -/
def fnExactBestCleanUptoRow : OpenClaim := { program := "ytfdoehakpeddnaa", sum := "f7216564e8d28451838ba112cdd44fb8b7f393d429fa18552fb205619a631555", func := "loop.example/g01376/laws.FnExactBestClean", spec := "fnExactBestClean", unfollowed := true, recurses := true, leaving := true, apart := false, narrowed := true }
def FnExactBestCleanUptoSaid : Prop := fnExactBestCleanUptoRow.holds Try.pinned (OpenSpec.upto fnExactBestCleanSpec)

/-- 'laws.FnExactLeastTakes', WHERE WHAT IT READS IS OF BULK AT MOST 1048576: true; the input reads as it did. -/
def fnExactLeastTakesUptoRow : OpenClaim := { program := "ytfdoehakpeddnaa", sum := "f7216564e8d28451838ba112cdd44fb8b7f393d429fa18552fb205619a631555", func := "loop.example/g01376/laws.FnExactLeastTakes", spec := "fnExactLeastTakes", unfollowed := true, recurses := true, leaving := true, apart := false, narrowed := true }
def FnExactLeastTakesUptoSaid : Prop := fnExactLeastTakesUptoRow.holds Try.pinned (OpenSpec.upto fnExactLeastTakesSpec)

/-- 'laws.FnExactMirrorGutter', WHERE WHAT IT READS IS OF BULK AT MOST 1048576: true; the input reads as it did. -/
def fnExactMirrorGutterUptoRow : OpenClaim := { program := "ytfdoehakpeddnaa", sum := "f7216564e8d28451838ba112cdd44fb8b7f393d429fa18552fb205619a631555", func := "loop.example/g01376/laws.FnExactMirrorGutter", spec := "fnExactMirrorGutter", unfollowed := true, recurses := true, leaving := true, apart := false, narrowed := true }
def FnExactMirrorGutterUptoSaid : Prop := fnExactMirrorGutterUptoRow.holds Try.pinned (OpenSpec.upto fnExactMirrorGutterSpec)

/-- 'laws.FnExactBasinOf', WHERE WHAT IT READS IS OF BULK AT MOST 1048576: true; the input reads as it did. -/
def fnExactBasinOfUptoRow : OpenClaim := { program := "ytfdoehakpeddnaa", sum := "f7216564e8d28451838ba112cdd44fb8b7f393d429fa18552fb205619a631555", func := "loop.example/g01376/laws.FnExactBasinOf", spec := "fnExactBasinOf", unfollowed := true, recurses := true, leaving := true, apart := false, narrowed := true }
def FnExactBasinOfUptoSaid : Prop := fnExactBasinOfUptoRow.holds Try.pinned (OpenSpec.upto fnExactBasinOfSpec)

/-- 'laws.FnExactUndrained', WHERE WHAT IT READS IS OF BULK AT MOST 1048576: true; the input reads as it did. -/
def fnExactUndrainedUptoRow : OpenClaim := { program := "ytfdoehakpeddnaa", sum := "f7216564e8d28451838ba112cdd44fb8b7f393d429fa18552fb205619a631555", func := "loop.example/g01376/laws.FnExactUndrained", spec := "fnExactUndrained", unfollowed := true, recurses := true, leaving := true, apart := false, narrowed := true }
def FnExactUndrainedUptoSaid : Prop := fnExactUndrainedUptoRow.holds Try.pinned (OpenSpec.upto fnExactUndrainedSpec)

end Rows
end Go.Proofs.Ytfdoehakpeddnaa
