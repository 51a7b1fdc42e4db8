/-
  No cell of these rows narrows 'for every input' (looked for: loops, veiled, ifaces, maps, wideKeys, modest, calm, conditions, laid).
  DERIVED. THE GIVEN ROWS OF THIS SEAT. 7 by the template 'for every input the law returns true; each argument reads behind the call as it read before'; 0 by the template 'total and deterministic' (their statements: YtnhoclplledlfaaTotals.lean).
  GIVEN WITH THE SEED: the statements are not yours to turn. If you find one false, say at which input.
  Laid BY PROGRAM, IN A SANDBOX (cutbox-rows.mjs): the forced cells as the released guide's own fill.sh prints them over the translation 528d4495478b366b… (all of the seat's roots in one cut). By AI agents, Wed Nov 11 2026. No macro, syntax, notation, axiom, sorry.
-/
import Derived.Test.YtnhoclplledlfaaChecked
import GoSem.Claim
import GoSem.ClaimJoined
import GoSem.ClaimMapViews
import Derived.JoinedTies
import Derived.KernelRfl
namespace Go.Proofs.Ytnhoclplledlfaa
/- THE CELL 'sum', in the pinned program and in every row, IS THE sha256 OF THE DUMP (.gsa) THAT YtnhoclplledlfaaProg.lean LOADS. Nothing in Lean hashes anything: it is a label: what it is worth is what the hold of that sum in a sandbox is worth. -/
noncomputable def Try.pinned : Pinned := { name := "ytnhoclplledlfaa", sum := "528d4495478b366b205568d67476f100974124824d9005122867900db8ef888c", checked := Try.checked }
namespace Rows
def none {H : Type} : Left H := { results := [], args := [] }

/-- 'laws.FnExactStackRoofs': WHATEVER THE INPUT: true; the input reads as it did. -/
def fnExactStackRoofsSpec : ChangeSpec := { name := "fnExactStackRoofs", fn := fun _ => fun
  | [d1, d2] => { results := [.lit (.bool true)], args := [d1, d2] }
  | _ => none }
def fnExactStackRoofsRow : OpenClaim := { program := "ytnhoclplledlfaa", sum := "528d4495478b366b205568d67476f100974124824d9005122867900db8ef888c", func := "loop.example/g01376/laws.FnExactStackRoofs", spec := "fnExactStackRoofs", plainKeys := false, apart := false }
def FnExactStackRoofsSaid : Prop := fnExactStackRoofsRow.holds Try.pinned (OpenSpec.ofChange fnExactStackRoofsSpec)

/-- ITS FALSE NEIGHBOUR: 'it returns false'. Refute it at one input. -/
def fnExactStackRoofsWrong : ChangeSpec := { name := "fnExactStackRoofs", fn := fun _ => fun
  | [d1, d2] => { results := [.lit (.bool false)], args := [d1, d2] }
  | _ => none }
def FnExactStackRoofsWrongFalsely : Prop := fnExactStackRoofsRow.holds Try.pinned (OpenSpec.ofChange fnExactStackRoofsWrong)

/-- 'laws.FnExactPatchOf': WHATEVER THE INPUT: true; the input reads as it did. -/
def fnExactPatchOfSpec : ChangeSpec := { name := "fnExactPatchOf", fn := fun _ => fun
  | [d1, d2] => { results := [.lit (.bool true)], args := [d1, d2] }
  | _ => none }
def fnExactPatchOfRow : OpenClaim := { program := "ytnhoclplledlfaa", sum := "528d4495478b366b205568d67476f100974124824d9005122867900db8ef888c", func := "loop.example/g01376/laws.FnExactPatchOf", spec := "fnExactPatchOf", unfollowed := true, recurses := true, plainKeys := false, leaving := true, apart := false }
def FnExactPatchOfSaid : Prop := fnExactPatchOfRow.holds Try.pinned (OpenSpec.ofChange fnExactPatchOfSpec)

/-- ITS FALSE NEIGHBOUR: 'it returns false'. Refute it at one input. -/
def fnExactPatchOfWrong : ChangeSpec := { name := "fnExactPatchOf", fn := fun _ => fun
  | [d1, d2] => { results := [.lit (.bool false)], args := [d1, d2] }
  | _ => none }
def FnExactPatchOfWrongFalsely : Prop := fnExactPatchOfRow.holds Try.pinned (OpenSpec.ofChange fnExactPatchOfWrong)

/-- 'laws.FnExactPatchesOf': WHATEVER THE INPUT: true; the input reads as it did. -/
def fnExactPatchesOfSpec : ChangeSpec := { name := "fnExactPatchesOf", fn := fun _ => fun
  | [d1, d2] => { results := [.lit (.bool true)], args := [d1, d2] }
  | _ => none }
def fnExactPatchesOfRow : OpenClaim := { program := "ytnhoclplledlfaa", sum := "528d4495478b366b205568d67476f100974124824d9005122867900db8ef888c", func := "loop.example/g01376/laws.FnExactPatchesOf", spec := "fnExactPatchesOf", unfollowed := true, recurses := true, plainKeys := false, leaving := true, apart := false }
def FnExactPatchesOfSaid : Prop := fnExactPatchesOfRow.holds Try.pinned (OpenSpec.ofChange fnExactPatchesOfSpec)

/-- ITS FALSE NEIGHBOUR: 'it returns false'. Refute it at one input. -/
def fnExactPatchesOfWrong : ChangeSpec := { name := "fnExactPatchesOf", fn := fun _ => fun
  | [d1, d2] => { results := [.lit (.bool false)], args := [d1, d2] }
  | _ => none }
def FnExactPatchesOfWrongFalsely : Prop := fnExactPatchesOfRow.holds Try.pinned (OpenSpec.ofChange fnExactPatchesOfWrong)

/-- 'laws.FnExactLeastRain': WHATEVER THE INPUT: true; the input reads as it did. -/
def fnExactLeastRainSpec : ChangeSpec := { name := "fnExactLeastRain", fn := fun _ => fun
  | [d1, d2] => { results := [.lit (.bool true)], args := [d1, d2] }
  | _ => none }
def fnExactLeastRainRow : OpenClaim := { program := "ytnhoclplledlfaa", sum := "528d4495478b366b205568d67476f100974124824d9005122867900db8ef888c", func := "loop.example/g01376/laws.FnExactLeastRain", spec := "fnExactLeastRain", unfollowed := true, recurses := true, plainKeys := false, leaving := true, apart := false }
def FnExactLeastRainSaid : Prop := fnExactLeastRainRow.holds Try.pinned (OpenSpec.ofChange fnExactLeastRainSpec)

/-- ITS FALSE NEIGHBOUR: 'it returns false'. Refute it at one input. -/
def fnExactLeastRainWrong : ChangeSpec := { name := "fnExactLeastRain", fn := fun _ => fun
  | [d1, d2] => { results := [.lit (.bool false)], args := [d1, d2] }
  | _ => none }
def FnExactLeastRainWrongFalsely : Prop := fnExactLeastRainRow.holds Try.pinned (OpenSpec.ofChange fnExactLeastRainWrong)

/-- 'laws.FnExactBestSave': WHATEVER THE INPUT: true; the input reads as it did. -/
def fnExactBestSaveSpec : ChangeSpec := { name := "fnExactBestSave", fn := fun _ => fun
  | [d1, d2] => { results := [.lit (.bool true)], args := [d1, d2] }
  | _ => none }
def fnExactBestSaveRow : OpenClaim := { program := "ytnhoclplledlfaa", sum := "528d4495478b366b205568d67476f100974124824d9005122867900db8ef888c", func := "loop.example/g01376/laws.FnExactBestSave", spec := "fnExactBestSave", unfollowed := true, recurses := true, plainKeys := false, leaving := true, apart := false }
def FnExactBestSaveSaid : Prop := fnExactBestSaveRow.holds Try.pinned (OpenSpec.ofChange fnExactBestSaveSpec)

/-- ITS FALSE NEIGHBOUR: 'it returns false'. Refute it at one input. -/
def fnExactBestSaveWrong : ChangeSpec := { name := "fnExactBestSave", fn := fun _ => fun
  | [d1, d2] => { results := [.lit (.bool false)], args := [d1, d2] }
  | _ => none }
def FnExactBestSaveWrongFalsely : Prop := fnExactBestSaveRow.holds Try.pinned (OpenSpec.ofChange fnExactBestSaveWrong)

/-- 'laws.FnExactMendUntil': WHATEVER THE INPUT: true; the input reads as it did. -/
def fnExactMendUntilSpec : ChangeSpec := { name := "fnExactMendUntil", fn := fun _ => fun
  | [d1, d2, d3] => { results := [.lit (.bool true)], args := [d1, d2, d3] }
  | _ => none }
def fnExactMendUntilRow : OpenClaim := { program := "ytnhoclplledlfaa", sum := "528d4495478b366b205568d67476f100974124824d9005122867900db8ef888c", func := "loop.example/g01376/laws.FnExactMendUntil", spec := "fnExactMendUntil", unfollowed := true, recurses := true, plainKeys := false, leaving := true, apart := false }
def FnExactMendUntilSaid : Prop := fnExactMendUntilRow.holds Try.pinned (OpenSpec.ofChange fnExactMendUntilSpec)

/-- ITS FALSE NEIGHBOUR: 'it returns false'. Refute it at one input. -/
def fnExactMendUntilWrong : ChangeSpec := { name := "fnExactMendUntil", fn := fun _ => fun
  | [d1, d2, d3] => { results := [.lit (.bool false)], args := [d1, d2, d3] }
  | _ => none }
def FnExactMendUntilWrongFalsely : Prop := fnExactMendUntilRow.holds Try.pinned (OpenSpec.ofChange fnExactMendUntilWrong)

/-- 'laws.FnExactRoofText': WHATEVER THE INPUT: true; the input reads as it did. -/
def fnExactRoofTextSpec : ChangeSpec := { name := "fnExactRoofText", fn := fun _ => fun
  | [d] => { results := [.lit (.bool true)], args := [d] }
  | _ => none }
def fnExactRoofTextRow : OpenClaim := { program := "ytnhoclplledlfaa", sum := "528d4495478b366b205568d67476f100974124824d9005122867900db8ef888c", func := "loop.example/g01376/laws.FnExactRoofText", spec := "fnExactRoofText", inPlace := ["internal/abi.NoEscape"], plainKeys := false, apart := false }
def FnExactRoofTextSaid : Prop := fnExactRoofTextRow.holds Try.pinned (OpenSpec.ofChange fnExactRoofTextSpec)

/-- ITS FALSE NEIGHBOUR: 'it returns false'. Refute it at one input. -/
def fnExactRoofTextWrong : ChangeSpec := { name := "fnExactRoofText", fn := fun _ => fun
  | [d] => { results := [.lit (.bool false)], args := [d] }
  | _ => none }
def FnExactRoofTextWrongFalsely : Prop := fnExactRoofTextRow.holds Try.pinned (OpenSpec.ofChange fnExactRoofTextWrong)

/- THE SECOND FORM. 'bulk': how many values and letters a reading holds, each counted each time it is reached (what is shared counts as often as it is met; a slice's spare places count too). A statement '..UptoSaid' is the law's where the arguments, and the package variables that the reading takes, are together of bulk at most 1048576: NARROWER than '..Said'. Prove '..Said' where nothing that the law and all that it calls make is longer than what came in: it says more and counts as full. Else prove '..UptoSaid'. A law counts once. -/
mutual
def uptoBulk {H : Type} : DataW H → Nat
  | .lit (.string bytes) => bytes.length + 1
  | .lit _ => 1
  | .nil => 1
  | .ptr d => uptoBulk d + 1
  | .slice elems spare => uptoBulkAll elems + uptoBulkAll spare + 1
  | .agg parts => uptoBulkAll parts + 1
  | .iface _ d => uptoBulk d + 1
  | .map entries => uptoBulkEntries entries + 1
  | .held _ => 1
def uptoBulkAll {H : Type} : List (DataW H) → Nat
  | [] => 0
  | d :: r => uptoBulk d + uptoBulkAll r
def uptoBulkEntries {H : Type} : List (Lit × DataW H) → Nat
  | [] => 0
  | x :: r => uptoBulkEntry x + uptoBulkEntries r
def uptoBulkEntry {H : Type} : Lit × DataW H → Nat
  | (.string bytes, d) => bytes.length + uptoBulk d + 1
  | (_, d) => uptoBulk d + 1
 end
def uptoSmall : (H : Type) → List (DataW H) → Bool := fun _ ds => decide (uptoBulkAll ds ≤ 1048576)
def OpenSpec.upto (s : _root_.Go.ChangeSpec) : _root_.Go.OpenSpec := { _root_.Go.OpenSpec.ofChange s with cond := some uptoSmall }

/-- 'laws.FnExactStackRoofs', WHERE WHAT IT READS IS OF BULK AT MOST 1048576: true; the input reads as it did. -/
def fnExactStackRoofsUptoRow : OpenClaim := { program := "ytnhoclplledlfaa", sum := "528d4495478b366b205568d67476f100974124824d9005122867900db8ef888c", func := "loop.example/g01376/laws.FnExactStackRoofs", spec := "fnExactStackRoofs", plainKeys := false, apart := false, narrowed := true }
def FnExactStackRoofsUptoSaid : Prop := fnExactStackRoofsUptoRow.holds Try.pinned (OpenSpec.upto fnExactStackRoofsSpec)

/-- 'laws.FnExactPatchOf', WHERE WHAT IT READS IS OF BULK AT MOST 1048576: true; the input reads as it did. -/
def fnExactPatchOfUptoRow : OpenClaim := { program := "ytnhoclplledlfaa", sum := "528d4495478b366b205568d67476f100974124824d9005122867900db8ef888c", func := "loop.example/g01376/laws.FnExactPatchOf", spec := "fnExactPatchOf", unfollowed := true, recurses := true, plainKeys := false, leaving := true, apart := false, narrowed := true }
def FnExactPatchOfUptoSaid : Prop := fnExactPatchOfUptoRow.holds Try.pinned (OpenSpec.upto fnExactPatchOfSpec)

/-- 'laws.FnExactPatchesOf', WHERE WHAT IT READS IS OF BULK AT MOST 1048576: true; the input reads as it did. -/
def fnExactPatchesOfUptoRow : OpenClaim := { program := "ytnhoclplledlfaa", sum := "528d4495478b366b205568d67476f100974124824d9005122867900db8ef888c", func := "loop.example/g01376/laws.FnExactPatchesOf", spec := "fnExactPatchesOf", unfollowed := true, recurses := true, plainKeys := false, leaving := true, apart := false, narrowed := true }
def FnExactPatchesOfUptoSaid : Prop := fnExactPatchesOfUptoRow.holds Try.pinned (OpenSpec.upto fnExactPatchesOfSpec)

/-- 'laws.FnExactLeastRain', WHERE WHAT IT READS IS OF BULK AT MOST 1048576: true; the input reads as it did. -/
def fnExactLeastRainUptoRow : OpenClaim := { program := "ytnhoclplledlfaa", sum := "528d4495478b366b205568d67476f100974124824d9005122867900db8ef888c", func := "loop.example/g01376/laws.FnExactLeastRain", spec := "fnExactLeastRain", unfollowed := true, recurses := true, plainKeys := false, leaving := true, apart := false, narrowed := true }
def FnExactLeastRainUptoSaid : Prop := fnExactLeastRainUptoRow.holds Try.pinned (OpenSpec.upto fnExactLeastRainSpec)

/-- 'laws.FnExactBestSave', WHERE WHAT IT READS IS OF BULK AT MOST 1048576: true; the input reads as it did. -/
def fnExactBestSaveUptoRow : OpenClaim := { program := "ytnhoclplledlfaa", sum := "528d4495478b366b205568d67476f100974124824d9005122867900db8ef888c", func := "loop.example/g01376/laws.FnExactBestSave", spec := "fnExactBestSave", unfollowed := true, recurses := true, plainKeys := false, leaving := true, apart := false, narrowed := true }
def FnExactBestSaveUptoSaid : Prop := fnExactBestSaveUptoRow.holds Try.pinned (OpenSpec.upto fnExactBestSaveSpec)

/-- 'laws.FnExactMendUntil', WHERE WHAT IT READS IS OF BULK AT MOST 1048576: true; the input reads as it did. -/
def fnExactMendUntilUptoRow : OpenClaim := { program := "ytnhoclplledlfaa", sum := "528d4495478b366b205568d67476f100974124824d9005122867900db8ef888c", func := "loop.example/g01376/laws.FnExactMendUntil", spec := "fnExactMendUntil", unfollowed := true, recurses := true, plainKeys := false, leaving := true, apart := false, narrowed := true }
def FnExactMendUntilUptoSaid : Prop := fnExactMendUntilUptoRow.holds Try.pinned (OpenSpec.upto fnExactMendUntilSpec)

/-- 'laws.FnExactRoofText', WHERE WHAT IT READS IS OF BULK AT MOST 1048576: true; the input reads as it did. -/
def fnExactRoofTextUptoRow : OpenClaim := { program := "ytnhoclplledlfaa", sum := "528d4495478b366b205568d67476f100974124824d9005122867900db8ef888c", func := "loop.example/g01376/laws.FnExactRoofText", spec := "fnExactRoofText", inPlace := ["internal/abi.NoEscape"], plainKeys := false, apart := false, narrowed := true }
def FnExactRoofTextUptoSaid : Prop := fnExactRoofTextUptoRow.holds Try.pinned (OpenSpec.upto fnExactRoofTextSpec)

end Rows
end Go.Proofs.Ytnhoclplledlfaa
