/-
  No cell of these rows narrows 'for every input' (looked for: loops, veiled, ifaces, maps, wideKeys, modest, calm, conditions, laid).
  DERIVED. THE GIVEN ROWS OF THIS SEAT. 3 by the template 'for every input the law returns true; each argument reads behind the call as it read before'; 0 by the template 'total and deterministic' (their statements: YtgdhfcpmeaeioaaTotals.lean).
  GIVEN WITH THE SEED: the statements are not yours to turn. If you find one false, say at which input.
  Laid BY PROGRAM, IN A SANDBOX (cutbox-rows.mjs): the forced cells as the released guide's own fill.sh prints them over the translation 0f4617b16f956949… (all of the seat's roots in one cut). By AI agents, Wed Nov 11 2026. No macro, syntax, notation, axiom, sorry.
-/
import Derived.Test.YtgdhfcpmeaeioaaChecked
import GoSem.Claim
import GoSem.ClaimJoined
import GoSem.ClaimMapViews
import Derived.JoinedTies
import Derived.KernelRfl
namespace Go.Proofs.Ytgdhfcpmeaeioaa
/- THE CELL 'sum', in the pinned program and in every row, IS THE sha256 OF THE DUMP (.gsa) THAT YtgdhfcpmeaeioaaProg.lean LOADS. Nothing in Lean hashes anything: it is a label: what it is worth is what the hold of that sum in a sandbox is worth. -/
noncomputable def Try.pinned : Pinned := { name := "ytgdhfcpmeaeioaa", sum := "0f4617b16f956949008ba7e29407b92da6224159bc9594b38943792a4d816a1b", checked := Try.checked }
namespace Rows
def none {H : Type} : Left H := { results := [], args := [] }

/-- 'laws.FnExactRoofText': WHATEVER THE INPUT: true; the input reads as it did. -/
def fnExactRoofTextSpec : ChangeSpec := { name := "fnExactRoofText", fn := fun _ => fun
  | [d] => { results := [.lit (.bool true)], args := [d] }
  | _ => none }
def fnExactRoofTextRow : OpenClaim := { program := "ytgdhfcpmeaeioaa", sum := "0f4617b16f956949008ba7e29407b92da6224159bc9594b38943792a4d816a1b", func := "loop.example/g01376/laws.FnExactRoofText", spec := "fnExactRoofText", inPlace := ["internal/abi.NoEscape"], apart := false }
def FnExactRoofTextSaid : Prop := fnExactRoofTextRow.holds Try.pinned (OpenSpec.ofChange fnExactRoofTextSpec)

/-- ITS FALSE NEIGHBOUR: 'it returns false'. Refute it at one input. -/
def fnExactRoofTextWrong : ChangeSpec := { name := "fnExactRoofText", fn := fun _ => fun
  | [d] => { results := [.lit (.bool false)], args := [d] }
  | _ => none }
def FnExactRoofTextWrongFalsely : Prop := fnExactRoofTextRow.holds Try.pinned (OpenSpec.ofChange fnExactRoofTextWrong)

/-- 'laws.FnExactColoursText': WHATEVER THE INPUT: true; the input reads as it did. -/
def fnExactColoursTextSpec : ChangeSpec := { name := "fnExactColoursText", fn := fun _ => fun
  | [d1, d2] => { results := [.lit (.bool true)], args := [d1, d2] }
  | _ => none }
def fnExactColoursTextRow : OpenClaim := { program := "ytgdhfcpmeaeioaa", sum := "0f4617b16f956949008ba7e29407b92da6224159bc9594b38943792a4d816a1b", func := "loop.example/g01376/laws.FnExactColoursText", spec := "fnExactColoursText", inPlace := ["internal/abi.NoEscape"], unfollowed := true, recurses := true, apart := false }
def FnExactColoursTextSaid : Prop := fnExactColoursTextRow.holds Try.pinned (OpenSpec.ofChange fnExactColoursTextSpec)

/-- ITS FALSE NEIGHBOUR: 'it returns false'. Refute it at one input. -/
def fnExactColoursTextWrong : ChangeSpec := { name := "fnExactColoursText", fn := fun _ => fun
  | [d1, d2] => { results := [.lit (.bool false)], args := [d1, d2] }
  | _ => none }
def FnExactColoursTextWrongFalsely : Prop := fnExactColoursTextRow.holds Try.pinned (OpenSpec.ofChange fnExactColoursTextWrong)

/-- 'laws.FnExactReadColours': WHATEVER THE INPUT: true; the input reads as it did. -/
def fnExactReadColoursSpec : ChangeSpec := { name := "fnExactReadColours", fn := fun _ => fun
  | [d1, d2] => { results := [.lit (.bool true)], args := [d1, d2] }
  | _ => none }
def fnExactReadColoursRow : OpenClaim := { program := "ytgdhfcpmeaeioaa", sum := "0f4617b16f956949008ba7e29407b92da6224159bc9594b38943792a4d816a1b", func := "loop.example/g01376/laws.FnExactReadColours", spec := "fnExactReadColours", inPlace := ["internal/abi.NoEscape"], unfollowed := true, recurses := true, apart := false }
def FnExactReadColoursSaid : Prop := fnExactReadColoursRow.holds Try.pinned (OpenSpec.ofChange fnExactReadColoursSpec)

/-- ITS FALSE NEIGHBOUR: 'it returns false'. Refute it at one input. -/
def fnExactReadColoursWrong : ChangeSpec := { name := "fnExactReadColours", fn := fun _ => fun
  | [d1, d2] => { results := [.lit (.bool false)], args := [d1, d2] }
  | _ => none }
def FnExactReadColoursWrongFalsely : Prop := fnExactReadColoursRow.holds Try.pinned (OpenSpec.ofChange fnExactReadColoursWrong)

/- THE SECOND FORM. 'bulk': how many values and letters a reading holds, each counted each time it is reached (what is shared counts as often as it is met; a slice's spare places count too). A statement '..UptoSaid' is the law's where the arguments, and the package variables that the reading takes, are together of bulk at most 1048576: NARROWER than '..Said'. Prove '..Said' where nothing that the law and all that it calls make is longer than what came in: it says more and counts as full. Else prove '..UptoSaid'. A law counts once. -/
mutual
def uptoBulk {H : Type} : DataW H → Nat
  | .lit (.string bytes) => bytes.length + 1
  | .lit _ => 1
  | .nil => 1
  | .ptr d => uptoBulk d + 1
  | .slice elems spare => uptoBulkAll elems + uptoBulkAll spare + 1
  | .agg parts => uptoBulkAll parts + 1
  | .iface _ d => uptoBulk d + 1
  | .map entries => uptoBulkEntries entries + 1
  | .held _ => 1
def uptoBulkAll {H : Type} : List (DataW H) → Nat
  | [] => 0
  | d :: r => uptoBulk d + uptoBulkAll r
def uptoBulkEntries {H : Type} : List (Lit × DataW H) → Nat
  | [] => 0
  | x :: r => uptoBulkEntry x + uptoBulkEntries r
def uptoBulkEntry {H : Type} : Lit × DataW H → Nat
  | (.string bytes, d) => bytes.length + uptoBulk d + 1
  | (_, d) => uptoBulk d + 1
 end
def uptoSmall : (H : Type) → List (DataW H) → Bool := fun _ ds => decide (uptoBulkAll ds ≤ 1048576)
def OpenSpec.upto (s : _root_.Go.ChangeSpec) : _root_.Go.OpenSpec := { _root_.Go.OpenSpec.ofChange s with cond := some uptoSmall }

/-- 'laws.FnExactRoofText', WHERE WHAT IT READS IS OF BULK AT MOST 1048576: true; the input reads as it did. -/
def fnExactRoofTextUptoRow : OpenClaim := { program := "ytgdhfcpmeaeioaa", sum := "0f4617b16f956949008ba7e29407b92da6224159bc9594b38943792a4d816a1b", func := "loop.example/g01376/laws.FnExactRoofText", spec := "fnExactRoofText", inPlace := ["internal/abi.NoEscape"], apart := false, narrowed := true }
def FnExactRoofTextUptoSaid : Prop := fnExactRoofTextUptoRow.holds Try.pinned (OpenSpec.upto fnExactRoofTextSpec)

/-- 'laws.FnExactColoursText', WHERE WHAT IT READS IS OF BULK AT MOST 1048576: true; the input reads as it did. -/
def fnExactColoursTextUptoRow : OpenClaim := { program := "ytgdhfcpmeaeioaa", sum := "0f4617b16f956949008ba7e29407b92da6224159bc9594b38943792a4d816a1b", func := "loop.example/g01376/laws.FnExactColoursText", spec := "fnExactColoursText", inPlace := ["internal/abi.NoEscape"], unfollowed := true, recurses := true, apart := false, narrowed := true }
def FnExactColoursTextUptoSaid : Prop := fnExactColoursTextUptoRow.holds Try.pinned (OpenSpec.upto fnExactColoursTextSpec)

/-- 'laws.FnExactReadColours', WHERE WHAT IT READS IS OF BULK AT MOST 1048576: true; the input reads as it did. -/
def fnExactReadColoursUptoRow : OpenClaim := { program := "ytgdhfcpmeaeioaa", sum := "0f4617b16f956949008ba7e29407b92da6224159bc9594b38943792a4d816a1b", func := "loop.example/g01376/laws.FnExactReadColours", spec := "fnExactReadColours", inPlace := ["internal/abi.NoEscape"], unfollowed := true, recurses := true, apart := false, narrowed := true }
def FnExactReadColoursUptoSaid : Prop := fnExactReadColoursUptoRow.holds Try.pinned (OpenSpec.upto fnExactReadColoursSpec)

end Rows
end Go.Proofs.Ytgdhfcpmeaeioaa
