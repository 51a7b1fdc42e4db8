/-
  No cell of these rows narrows 'for every input' (looked for: loops, veiled, ifaces, maps, wideKeys, modest, calm, conditions, laid).
  DERIVED. THE GIVEN ROWS OF THIS SEAT. 4 by the template 'for every input the law returns true; each argument reads behind the call as it read before'; 0 by the template 'total and deterministic' (their statements: YtcdobpnejbfbpabTotals.lean).
  GIVEN WITH THE SEED: the statements are not yours to turn. If you find one false, say at which input.
  Laid BY PROGRAM, IN A SANDBOX (cutbox-rows.mjs): the forced cells as the released guide's own fill.sh prints them over the translation b098afa5019e5825… (all of the seat's roots in one cut). By AI agents, Wed Nov 11 2026. No macro, syntax, notation, axiom, sorry.
-/
import Derived.Test.YtcdobpnejbfbpabChecked
import GoSem.Claim
import GoSem.ClaimJoined
import GoSem.ClaimMapViews
import Derived.JoinedTies
import Derived.KernelRfl
namespace Go.Proofs.Ytcdobpnejbfbpab
/- THE CELL 'sum', in the pinned program and in every row, IS THE sha256 OF THE DUMP (.gsa) THAT YtcdobpnejbfbpabProg.lean LOADS. Nothing in Lean hashes anything: it is a label: what it is worth is what the hold of that sum in a sandbox is worth. -/
noncomputable def Try.pinned : Pinned := { name := "ytcdobpnejbfbpab", sum := "b098afa5019e5825e4fa4866345f57e70b62466237a179587e6d05928c0f9754", checked := Try.checked }
namespace Rows
def none {H : Type} : Left H := { results := [], args := [] }

/-- 'laws.FnExactValidColours': WHATEVER THE INPUT: true; the input reads as it did. -/
def fnExactValidColoursSpec : ChangeSpec := { name := "fnExactValidColours", fn := fun _ => fun
  | [d1, d2] => { results := [.lit (.bool true)], args := [d1, d2] }
  | _ => none }
def fnExactValidColoursRow : OpenClaim := { program := "ytcdobpnejbfbpab", sum := "b098afa5019e5825e4fa4866345f57e70b62466237a179587e6d05928c0f9754", func := "loop.example/g01376/laws.FnExactValidColours", spec := "fnExactValidColours", unfollowed := true, recurses := true, apart := false }
def FnExactValidColoursSaid : Prop := fnExactValidColoursRow.holds Try.pinned (OpenSpec.ofChange fnExactValidColoursSpec)

/-- ITS FALSE NEIGHBOUR: 'it returns false'. Refute it at one input. -/
def fnExactValidColoursWrong : ChangeSpec := { name := "fnExactValidColours", fn := fun _ => fun
  | [d1, d2] => { results := [.lit (.bool false)], args := [d1, d2] }
  | _ => none }
def FnExactValidColoursWrongFalsely : Prop := fnExactValidColoursRow.holds Try.pinned (OpenSpec.ofChange fnExactValidColoursWrong)

/-- 'laws.FnExactCountColour': WHATEVER THE INPUT: true; the input reads as it did. -/
def fnExactCountColourSpec : ChangeSpec := { name := "fnExactCountColour", fn := fun _ => fun
  | [d1, d2] => { results := [.lit (.bool true)], args := [d1, d2] }
  | _ => none }
def fnExactCountColourRow : OpenClaim := { program := "ytcdobpnejbfbpab", sum := "b098afa5019e5825e4fa4866345f57e70b62466237a179587e6d05928c0f9754", func := "loop.example/g01376/laws.FnExactCountColour", spec := "fnExactCountColour", unfollowed := true, recurses := true, apart := false }
def FnExactCountColourSaid : Prop := fnExactCountColourRow.holds Try.pinned (OpenSpec.ofChange fnExactCountColourSpec)

/-- ITS FALSE NEIGHBOUR: 'it returns false'. Refute it at one input. -/
def fnExactCountColourWrong : ChangeSpec := { name := "fnExactCountColour", fn := fun _ => fun
  | [d1, d2] => { results := [.lit (.bool false)], args := [d1, d2] }
  | _ => none }
def FnExactCountColourWrongFalsely : Prop := fnExactCountColourRow.holds Try.pinned (OpenSpec.ofChange fnExactCountColourWrong)

/-- 'laws.FnExactOffBy': WHATEVER THE INPUT: true; the input reads as it did. -/
def fnExactOffBySpec : ChangeSpec := { name := "fnExactOffBy", fn := fun _ => fun
  | [d1, d2, d3] => { results := [.lit (.bool true)], args := [d1, d2, d3] }
  | _ => none }
def fnExactOffByRow : OpenClaim := { program := "ytcdobpnejbfbpab", sum := "b098afa5019e5825e4fa4866345f57e70b62466237a179587e6d05928c0f9754", func := "loop.example/g01376/laws.FnExactOffBy", spec := "fnExactOffBy", unfollowed := true, recurses := true, apart := false }
def FnExactOffBySaid : Prop := fnExactOffByRow.holds Try.pinned (OpenSpec.ofChange fnExactOffBySpec)

/-- ITS FALSE NEIGHBOUR: 'it returns false'. Refute it at one input. -/
def fnExactOffByWrong : ChangeSpec := { name := "fnExactOffBy", fn := fun _ => fun
  | [d1, d2, d3] => { results := [.lit (.bool false)], args := [d1, d2, d3] }
  | _ => none }
def FnExactOffByWrongFalsely : Prop := fnExactOffByRow.holds Try.pinned (OpenSpec.ofChange fnExactOffByWrong)

/-- 'laws.FnExactMirrorColours': WHATEVER THE INPUT: true; the input reads as it did. -/
def fnExactMirrorColoursSpec : ChangeSpec := { name := "fnExactMirrorColours", fn := fun _ => fun
  | [d1, d2] => { results := [.lit (.bool true)], args := [d1, d2] }
  | _ => none }
def fnExactMirrorColoursRow : OpenClaim := { program := "ytcdobpnejbfbpab", sum := "b098afa5019e5825e4fa4866345f57e70b62466237a179587e6d05928c0f9754", func := "loop.example/g01376/laws.FnExactMirrorColours", spec := "fnExactMirrorColours", unfollowed := true, recurses := true, apart := false }
def FnExactMirrorColoursSaid : Prop := fnExactMirrorColoursRow.holds Try.pinned (OpenSpec.ofChange fnExactMirrorColoursSpec)

/-- ITS FALSE NEIGHBOUR: 'it returns false'. Refute it at one input. -/
def fnExactMirrorColoursWrong : ChangeSpec := { name := "fnExactMirrorColours", fn := fun _ => fun
  | [d1, d2] => { results := [.lit (.bool false)], args := [d1, d2] }
  | _ => none }
def FnExactMirrorColoursWrongFalsely : Prop := fnExactMirrorColoursRow.holds Try.pinned (OpenSpec.ofChange fnExactMirrorColoursWrong)

/- THE SECOND FORM. 'bulk': how many values and letters a reading holds, each counted each time it is reached (what is shared counts as often as it is met; a slice's spare places count too). A statement '..UptoSaid' is the law's where the arguments, and the package variables that the reading takes, are together of bulk at most 1048576: NARROWER than '..Said'. Prove '..Said' where nothing that the law and all that it calls make is longer than what came in: it says more and counts as full. Else prove '..UptoSaid'. A law counts once. -/
mutual
def uptoBulk {H : Type} : DataW H → Nat
  | .lit (.string bytes) => bytes.length + 1
  | .lit _ => 1
  | .nil => 1
  | .ptr d => uptoBulk d + 1
  | .slice elems spare => uptoBulkAll elems + uptoBulkAll spare + 1
  | .agg parts => uptoBulkAll parts + 1
  | .iface _ d => uptoBulk d + 1
  | .map entries => uptoBulkEntries entries + 1
  | .held _ => 1
def uptoBulkAll {H : Type} : List (DataW H) → Nat
  | [] => 0
  | d :: r => uptoBulk d + uptoBulkAll r
def uptoBulkEntries {H : Type} : List (Lit × DataW H) → Nat
  | [] => 0
  | x :: r => uptoBulkEntry x + uptoBulkEntries r
def uptoBulkEntry {H : Type} : Lit × DataW H → Nat
  | (.string bytes, d) => bytes.length + uptoBulk d + 1
  | (_, d) => uptoBulk d + 1
 end
def uptoSmall : (H : Type) → List (DataW H) → Bool := fun _ ds => decide (uptoBulkAll ds ≤ 1048576)
def OpenSpec.upto (s : _root_.Go.ChangeSpec) : _root_.Go.OpenSpec := { _root_.Go.OpenSpec.ofChange s with cond := some uptoSmall }

/-- 'laws.FnExactValidColours', WHERE WHAT IT READS IS OF BULK AT MOST 1048576: true; the input reads as it did. -/
def fnExactValidColoursUptoRow : OpenClaim := { program := "ytcdobpnejbfbpab", sum := "b098afa5019e5825e4fa4866345f57e70b62466237a179587e6d05928c0f9754", func := "loop.example/g01376/laws.FnExactValidColours", spec := "fnExactValidColours", unfollowed := true, recurses := true, apart := false, narrowed := true }
def FnExactValidColoursUptoSaid : Prop := fnExactValidColoursUptoRow.holds Try.pinned (OpenSpec.upto fnExactValidColoursSpec)

/-- 'laws.FnExactCountColour', WHERE WHAT IT READS IS OF BULK AT MOST 1048576: true; the input reads as it did. -/
def fnExactCountColourUptoRow : OpenClaim := { program := "ytcdobpnejbfbpab", sum := "b098afa5019e5825e4fa4866345f57e70b62466237a179587e6d05928c0f9754", func := "loop.example/g01376/laws.FnExactCountColour", spec := "fnExactCountColour", unfollowed := true, recurses := true, apart := false, narrowed := true }
def FnExactCountColourUptoSaid : Prop := fnExactCountColourUptoRow.holds Try.pinned (OpenSpec.upto fnExactCountColourSpec)

/-- 'laws.FnExactOffBy', WHERE WHAT IT READS IS OF BULK AT MOST 1048576: true; the input reads as it did. -/
def fnExactOffByUptoRow : OpenClaim := { program := "ytcdobpnejbfbpab", sum := "b098afa5019e5825e4fa4866345f57e70b62466237a179587e6d05928c0f9754", func := "loop.example/g01376/laws.FnExactOffBy", spec := "fnExactOffBy", unfollowed := true, recurses := true, apart := false, narrowed := true }
def FnExactOffByUptoSaid : Prop := fnExactOffByUptoRow.holds Try.pinned (OpenSpec.upto fnExactOffBySpec)

/-- 'laws.FnExactMirrorColours', WHERE WHAT IT READS IS OF BULK AT MOST 1048576: true; the input reads as it did. -/
def fnExactMirrorColoursUptoRow : OpenClaim := { program := "ytcdobpnejbfbpab", sum := "b098afa5019e5825e4fa4866345f57e70b62466237a179587e6d05928c0f9754", func := "loop.example/g01376/laws.FnExactMirrorColours", spec := "fnExactMirrorColours", unfollowed := true, recurses := true, apart := false, narrowed := true }
def FnExactMirrorColoursUptoSaid : Prop := fnExactMirrorColoursUptoRow.holds Try.pinned (OpenSpec.upto fnExactMirrorColoursSpec)

end Rows
end Go.Proofs.Ytcdobpnejbfbpab
