/-
  No cell of these rows narrows 'for every input' (looked for: loops, veiled, ifaces, maps, wideKeys, modest, calm, conditions, laid).
  DERIVED. THE GIVEN ROWS OF THIS SEAT. 5 by the template 'for every input the law returns true; each argument reads behind the call as it read before'; 0 by the template 'total and deterministic' (their statements: YtcdddngdjhjdbaaTotals.lean).
  GIVEN WITH THE SEED: the statements are not yours to turn. If you find one false, say at which input.
  Laid BY PROGRAM, IN A SANDBOX (cutbox-rows.mjs): the forced cells as the released guide's own fill.sh prints them over the translation eda8788b0a18070e… (all of the seat's roots in one cut). By AI agents, Wed Nov 11 2026. No macro, syntax, notation, axiom, sorry.
-/
import Derived.Test.YtcdddngdjhjdbaaChecked
import GoSem.Claim
import GoSem.ClaimJoined
import GoSem.ClaimMapViews
import Derived.JoinedTies
import Derived.KernelRfl
namespace Go.Proofs.Ytcdddngdjhjdbaa
/- THE CELL 'sum', in the pinned program and in every row, IS THE sha256 OF THE DUMP (.gsa) THAT YtcdddngdjhjdbaaProg.lean LOADS. Nothing in Lean hashes anything: it is a label: what it is worth is what the hold of that sum in a sandbox is worth. -/
noncomputable def Try.pinned : Pinned := { name := "ytcdddngdjhjdbaa", sum := "eda8788b0a18070ef81dac8a27cb9f80f6f490fa085a887ef20599f20ddb8bf4", checked := Try.checked }
namespace Rows
def none {H : Type} : Left H := { results := [], args := [] }

/-- 'laws.FnExactDaysFor': WHATEVER THE INPUT: true; the input reads as it did. -/
def fnExactDaysForSpec : ChangeSpec := { name := "fnExactDaysFor", fn := fun _ => fun
  | [d1, d2] => { results := [.lit (.bool true)], args := [d1, d2] }
  | _ => none }
def fnExactDaysForRow : OpenClaim := { program := "ytcdddngdjhjdbaa", sum := "eda8788b0a18070ef81dac8a27cb9f80f6f490fa085a887ef20599f20ddb8bf4", func := "loop.example/g01376/laws.FnExactDaysFor", spec := "fnExactDaysFor", unfollowed := true, recurses := true, plainKeys := false, apart := false }
def FnExactDaysForSaid : Prop := fnExactDaysForRow.holds Try.pinned (OpenSpec.ofChange fnExactDaysForSpec)

/-- ITS FALSE NEIGHBOUR: 'it returns false'. Refute it at one input. -/
def fnExactDaysForWrong : ChangeSpec := { name := "fnExactDaysFor", fn := fun _ => fun
  | [d1, d2] => { results := [.lit (.bool false)], args := [d1, d2] }
  | _ => none }
def FnExactDaysForWrongFalsely : Prop := fnExactDaysForRow.holds Try.pinned (OpenSpec.ofChange fnExactDaysForWrong)

/-- 'laws.FnExactFewestLadders': WHATEVER THE INPUT: true; the input reads as it did. -/
def fnExactFewestLaddersSpec : ChangeSpec := { name := "fnExactFewestLadders", fn := fun _ => fun
  | [d1, d2, d3] => { results := [.lit (.bool true)], args := [d1, d2, d3] }
  | _ => none }
def fnExactFewestLaddersRow : OpenClaim := { program := "ytcdddngdjhjdbaa", sum := "eda8788b0a18070ef81dac8a27cb9f80f6f490fa085a887ef20599f20ddb8bf4", func := "loop.example/g01376/laws.FnExactFewestLadders", spec := "fnExactFewestLadders", unfollowed := true, recurses := true, plainKeys := false, apart := false }
def FnExactFewestLaddersSaid : Prop := fnExactFewestLaddersRow.holds Try.pinned (OpenSpec.ofChange fnExactFewestLaddersSpec)

/-- ITS FALSE NEIGHBOUR: 'it returns false'. Refute it at one input. -/
def fnExactFewestLaddersWrong : ChangeSpec := { name := "fnExactFewestLadders", fn := fun _ => fun
  | [d1, d2, d3] => { results := [.lit (.bool false)], args := [d1, d2, d3] }
  | _ => none }
def FnExactFewestLaddersWrongFalsely : Prop := fnExactFewestLaddersRow.holds Try.pinned (OpenSpec.ofChange fnExactFewestLaddersWrong)

/-- 'laws.FnExactMirrorGutter': WHATEVER THE INPUT: true; the input reads as it did. -/
def fnExactMirrorGutterSpec : ChangeSpec := { name := "fnExactMirrorGutter", fn := fun _ => fun
  | [d] => { results := [.lit (.bool true)], args := [d] }
  | _ => none }
def fnExactMirrorGutterRow : OpenClaim := { program := "ytcdddngdjhjdbaa", sum := "eda8788b0a18070ef81dac8a27cb9f80f6f490fa085a887ef20599f20ddb8bf4", func := "loop.example/g01376/laws.FnExactMirrorGutter", spec := "fnExactMirrorGutter", unfollowed := true, recurses := true, plainKeys := false, apart := false }
def FnExactMirrorGutterSaid : Prop := fnExactMirrorGutterRow.holds Try.pinned (OpenSpec.ofChange fnExactMirrorGutterSpec)

/-- ITS FALSE NEIGHBOUR: 'it returns false'. Refute it at one input. -/
def fnExactMirrorGutterWrong : ChangeSpec := { name := "fnExactMirrorGutter", fn := fun _ => fun
  | [d] => { results := [.lit (.bool false)], args := [d] }
  | _ => none }
def FnExactMirrorGutterWrongFalsely : Prop := fnExactMirrorGutterRow.holds Try.pinned (OpenSpec.ofChange fnExactMirrorGutterWrong)

/-- 'laws.FnExactPatchOf': WHATEVER THE INPUT: true; the input reads as it did. -/
def fnExactPatchOfSpec : ChangeSpec := { name := "fnExactPatchOf", fn := fun _ => fun
  | [d1, d2] => { results := [.lit (.bool true)], args := [d1, d2] }
  | _ => none }
def fnExactPatchOfRow : OpenClaim := { program := "ytcdddngdjhjdbaa", sum := "eda8788b0a18070ef81dac8a27cb9f80f6f490fa085a887ef20599f20ddb8bf4", func := "loop.example/g01376/laws.FnExactPatchOf", spec := "fnExactPatchOf", unfollowed := true, recurses := true, plainKeys := false, apart := false }
def FnExactPatchOfSaid : Prop := fnExactPatchOfRow.holds Try.pinned (OpenSpec.ofChange fnExactPatchOfSpec)

/-- ITS FALSE NEIGHBOUR: 'it returns false'. Refute it at one input. -/
def fnExactPatchOfWrong : ChangeSpec := { name := "fnExactPatchOf", fn := fun _ => fun
  | [d1, d2] => { results := [.lit (.bool false)], args := [d1, d2] }
  | _ => none }
def FnExactPatchOfWrongFalsely : Prop := fnExactPatchOfRow.holds Try.pinned (OpenSpec.ofChange fnExactPatchOfWrong)

/-- 'laws.FnExactLeastLifted': WHATEVER THE INPUT: true; the input reads as it did. -/
def fnExactLeastLiftedSpec : ChangeSpec := { name := "fnExactLeastLifted", fn := fun _ => fun
  | [d1, d2] => { results := [.lit (.bool true)], args := [d1, d2] }
  | _ => none }
def fnExactLeastLiftedRow : OpenClaim := { program := "ytcdddngdjhjdbaa", sum := "eda8788b0a18070ef81dac8a27cb9f80f6f490fa085a887ef20599f20ddb8bf4", func := "loop.example/g01376/laws.FnExactLeastLifted", spec := "fnExactLeastLifted", unfollowed := true, recurses := true, plainKeys := false, apart := false }
def FnExactLeastLiftedSaid : Prop := fnExactLeastLiftedRow.holds Try.pinned (OpenSpec.ofChange fnExactLeastLiftedSpec)

/-- ITS FALSE NEIGHBOUR: 'it returns false'. Refute it at one input. -/
def fnExactLeastLiftedWrong : ChangeSpec := { name := "fnExactLeastLifted", fn := fun _ => fun
  | [d1, d2] => { results := [.lit (.bool false)], args := [d1, d2] }
  | _ => none }
def FnExactLeastLiftedWrongFalsely : Prop := fnExactLeastLiftedRow.holds Try.pinned (OpenSpec.ofChange fnExactLeastLiftedWrong)

/- THE SECOND FORM. 'bulk': how many values and letters a reading holds, each counted each time it is reached (what is shared counts as often as it is met; a slice's spare places count too). A statement '..UptoSaid' is the law's where the arguments, and the package variables that the reading takes, are together of bulk at most 1048576: NARROWER than '..Said'. Prove '..Said' where nothing that the law and all that it calls make is longer than what came in: it says more and counts as full. Else prove '..UptoSaid'. A law counts once. -/
mutual
def uptoBulk {H : Type} : DataW H → Nat
  | .lit (.string bytes) => bytes.length + 1
  | .lit _ => 1
  | .nil => 1
  | .ptr d => uptoBulk d + 1
  | .slice elems spare => uptoBulkAll elems + uptoBulkAll spare + 1
  | .agg parts => uptoBulkAll parts + 1
  | .iface _ d => uptoBulk d + 1
  | .map entries => uptoBulkEntries entries + 1
  | .held _ => 1
def uptoBulkAll {H : Type} : List (DataW H) → Nat
  | [] => 0
  | d :: r => uptoBulk d + uptoBulkAll r
def uptoBulkEntries {H : Type} : List (Lit × DataW H) → Nat
  | [] => 0
  | x :: r => uptoBulkEntry x + uptoBulkEntries r
def uptoBulkEntry {H : Type} : Lit × DataW H → Nat
  | (.string bytes, d) => bytes.length + uptoBulk d + 1
  | (_, d) => uptoBulk d + 1
 end
def uptoSmall : (H : Type) → List (DataW H) → Bool := fun _ ds => decide (uptoBulkAll ds ≤ 1048576)
def OpenSpec.upto (s : _root_.Go.ChangeSpec) : _root_.Go.OpenSpec := { _root_.Go.OpenSpec.ofChange s with cond := some uptoSmall }

/-- 'laws.FnExactDaysFor', WHERE WHAT IT READS IS OF BULK AT MOST 1048576: true; the input reads as it did. -/
def fnExactDaysForUptoRow : OpenClaim := { program := "ytcdddngdjhjdbaa", sum := "eda8788b0a18070ef81dac8a27cb9f80f6f490fa085a887ef20599f20ddb8bf4", func := "loop.example/g01376/laws.FnExactDaysFor", spec := "fnExactDaysFor", unfollowed := true, recurses := true, plainKeys := false, apart := false, narrowed := true }
def FnExactDaysForUptoSaid : Prop := fnExactDaysForUptoRow.holds Try.pinned (OpenSpec.upto fnExactDaysForSpec)

/-- 'laws.FnExactFewestLadders', WHERE WHAT IT READS IS OF BULK AT MOST 1048576: true; the input reads as it did. -/
def fnExactFewestLaddersUptoRow : OpenClaim := { program := "ytcdddngdjhjdbaa", sum := "eda8788b0a18070ef81dac8a27cb9f80f6f490fa085a887ef20599f20ddb8bf4", func := "loop.example/g01376/laws.FnExactFewestLadders", spec := "fnExactFewestLadders", unfollowed := true, recurses := true, plainKeys := false, apart := false, narrowed := true }
def FnExactFewestLaddersUptoSaid : Prop := fnExactFewestLaddersUptoRow.holds Try.pinned (OpenSpec.upto fnExactFewestLaddersSpec)

/-- 'laws.FnExactMirrorGutter', WHERE WHAT IT READS IS OF BULK AT MOST 1048576: true; the input reads as it did. -/
def fnExactMirrorGutterUptoRow : OpenClaim := { program := "ytcdddngdjhjdbaa", sum := "eda8788b0a18070ef81dac8a27cb9f80f6f490fa085a887ef20599f20ddb8bf4", func := "loop.example/g01376/laws.FnExactMirrorGutter", spec := "fnExactMirrorGutter", unfollowed := true, recurses := true, plainKeys := false, apart := false, narrowed := true }
def FnExactMirrorGutterUptoSaid : Prop := fnExactMirrorGutterUptoRow.holds Try.pinned (OpenSpec.upto fnExactMirrorGutterSpec)

/-- 'laws.FnExactPatchOf', WHERE WHAT IT READS IS OF BULK AT MOST 1048576: true; the input reads as it did. -/
def fnExactPatchOfUptoRow : OpenClaim := { program := "ytcdddngdjhjdbaa", sum := "eda8788b0a18070ef81dac8a27cb9f80f6f490fa085a887ef20599f20ddb8bf4", func := "loop.example/g01376/laws.FnExactPatchOf", spec := "fnExactPatchOf", unfollowed := true, recurses := true, plainKeys := false, apart := false, narrowed := true }
def FnExactPatchOfUptoSaid : Prop := fnExactPatchOfUptoRow.holds Try.pinned (OpenSpec.upto fnExactPatchOfSpec)

/-- 'laws.FnExactLeastLifted', WHERE WHAT IT READS IS OF BULK AT MOST 1048576: true; the input reads as it did. -/
def fnExactLeastLiftedUptoRow : OpenClaim := { program := "ytcdddngdjhjdbaa", sum := "eda8788b0a18070ef81dac8a27cb9f80f6f490fa085a887ef20599f20ddb8bf4", func := "loop.example/g01376/laws.FnExactLeastLifted", spec := "fnExactLeastLifted", unfollowed := true, recurses := true, plainKeys := false, apart := false, narrowed := true }
def FnExactLeastLiftedUptoSaid : Prop := fnExactLeastLiftedUptoRow.holds Try.pinned (OpenSpec.upto fnExactLeastLiftedSpec)

end Rows
end Go.Proofs.Ytcdddngdjhjdbaa
