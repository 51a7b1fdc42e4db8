/-
  No cell of these rows narrows 'for every input' (looked for: loops, veiled, ifaces, maps, wideKeys, modest, calm, conditions, laid).
  DERIVED. THE GIVEN ROWS OF THIS SEAT. 8 by the template 'for every input the law returns true; each argument reads behind the call as it read before'; 0 by the template 'total and deterministic' (their statements: YtkbacpkpgfppiaaTotals.lean).
  GIVEN WITH THE SEED: the statements are not yours to turn. If you find one false, say at which input.
  Laid BY PROGRAM, IN A SANDBOX (cutbox-rows.mjs): the forced cells as the released guide's own fill.sh prints them over the translation 678fb51161413c7f… (all of the seat's roots in one cut). By AI agents, Wed Nov 11 2026. No macro, syntax, notation, axiom, sorry.
-/
import Derived.Test.YtkbacpkpgfppiaaChecked
import GoSem.Claim
import GoSem.ClaimJoined
import GoSem.ClaimMapViews
import Derived.JoinedTies
import Derived.KernelRfl
namespace Go.Proofs.Ytkbacpkpgfppiaa
/- THE CELL 'sum', in the pinned program and in every row, IS THE sha256 OF THE DUMP (.gsa) THAT YtkbacpkpgfppiaaProg.lean LOADS. Nothing in Lean hashes anything: it is a label: what it is worth is what the hold of that sum in a sandbox is worth. -/
noncomputable def Try.pinned : Pinned := { name := "ytkbacpkpgfppiaa", sum := "678fb51161413c7f61c85da3138027237769ad01395c5c7c94376a1d92171943", checked := Try.checked }
namespace Rows
def none {H : Type} : Left H := { results := [], args := [] }

/-- 'laws.FnExactLeastClimb': WHATEVER THE INPUT: true; the input reads as it did. -/
def fnExactLeastClimbSpec : ChangeSpec := { name := "fnExactLeastClimb", fn := fun _ => fun
  | [d1, d2, d3] => { results := [.lit (.bool true)], args := [d1, d2, d3] }
  | _ => none }
def fnExactLeastClimbRow : OpenClaim := { program := "ytkbacpkpgfppiaa", sum := "678fb51161413c7f61c85da3138027237769ad01395c5c7c94376a1d92171943", func := "loop.example/g01376/laws.FnExactLeastClimb", spec := "fnExactLeastClimb", unfollowed := true, recurses := true, plainKeys := false, apart := false }
def FnExactLeastClimbSaid : Prop := fnExactLeastClimbRow.holds Try.pinned (OpenSpec.ofChange fnExactLeastClimbSpec)

/-- ITS FALSE NEIGHBOUR: 'it returns false'. Refute it at one input. -/
def fnExactLeastClimbWrong : ChangeSpec := { name := "fnExactLeastClimb", fn := fun _ => fun
  | [d1, d2, d3] => { results := [.lit (.bool false)], args := [d1, d2, d3] }
  | _ => none }
def FnExactLeastClimbWrongFalsely : Prop := fnExactLeastClimbRow.holds Try.pinned (OpenSpec.ofChange fnExactLeastClimbWrong)

/-- 'laws.FnExactFirstUpward': WHATEVER THE INPUT: true; the input reads as it did. -/
def fnExactFirstUpwardSpec : ChangeSpec := { name := "fnExactFirstUpward", fn := fun _ => fun
  | [d1, d2] => { results := [.lit (.bool true)], args := [d1, d2] }
  | _ => none }
def fnExactFirstUpwardRow : OpenClaim := { program := "ytkbacpkpgfppiaa", sum := "678fb51161413c7f61c85da3138027237769ad01395c5c7c94376a1d92171943", func := "loop.example/g01376/laws.FnExactFirstUpward", spec := "fnExactFirstUpward", unfollowed := true, recurses := true, plainKeys := false, apart := false }
def FnExactFirstUpwardSaid : Prop := fnExactFirstUpwardRow.holds Try.pinned (OpenSpec.ofChange fnExactFirstUpwardSpec)

/-- ITS FALSE NEIGHBOUR: 'it returns false'. Refute it at one input. -/
def fnExactFirstUpwardWrong : ChangeSpec := { name := "fnExactFirstUpward", fn := fun _ => fun
  | [d1, d2] => { results := [.lit (.bool false)], args := [d1, d2] }
  | _ => none }
def FnExactFirstUpwardWrongFalsely : Prop := fnExactFirstUpwardRow.holds Try.pinned (OpenSpec.ofChange fnExactFirstUpwardWrong)

/-- 'laws.FnExactFewestLadders': WHATEVER THE INPUT: true; the input reads as it did. -/
def fnExactFewestLaddersSpec : ChangeSpec := { name := "fnExactFewestLadders", fn := fun _ => fun
  | [d1, d2, d3] => { results := [.lit (.bool true)], args := [d1, d2, d3] }
  | _ => none }
def fnExactFewestLaddersRow : OpenClaim := { program := "ytkbacpkpgfppiaa", sum := "678fb51161413c7f61c85da3138027237769ad01395c5c7c94376a1d92171943", func := "loop.example/g01376/laws.FnExactFewestLadders", spec := "fnExactFewestLadders", unfollowed := true, recurses := true, plainKeys := false, apart := false }
def FnExactFewestLaddersSaid : Prop := fnExactFewestLaddersRow.holds Try.pinned (OpenSpec.ofChange fnExactFewestLaddersSpec)

/-- ITS FALSE NEIGHBOUR: 'it returns false'. Refute it at one input. -/
def fnExactFewestLaddersWrong : ChangeSpec := { name := "fnExactFewestLadders", fn := fun _ => fun
  | [d1, d2, d3] => { results := [.lit (.bool false)], args := [d1, d2, d3] }
  | _ => none }
def FnExactFewestLaddersWrongFalsely : Prop := fnExactFewestLaddersRow.holds Try.pinned (OpenSpec.ofChange fnExactFewestLaddersWrong)

/-- 'laws.FnExactDaysFor': WHATEVER THE INPUT: true; the input reads as it did. -/
def fnExactDaysForSpec : ChangeSpec := { name := "fnExactDaysFor", fn := fun _ => fun
  | [d1, d2] => { results := [.lit (.bool true)], args := [d1, d2] }
  | _ => none }
def fnExactDaysForRow : OpenClaim := { program := "ytkbacpkpgfppiaa", sum := "678fb51161413c7f61c85da3138027237769ad01395c5c7c94376a1d92171943", func := "loop.example/g01376/laws.FnExactDaysFor", spec := "fnExactDaysFor", unfollowed := true, recurses := true, plainKeys := false, apart := false }
def FnExactDaysForSaid : Prop := fnExactDaysForRow.holds Try.pinned (OpenSpec.ofChange fnExactDaysForSpec)

/-- ITS FALSE NEIGHBOUR: 'it returns false'. Refute it at one input. -/
def fnExactDaysForWrong : ChangeSpec := { name := "fnExactDaysFor", fn := fun _ => fun
  | [d1, d2] => { results := [.lit (.bool false)], args := [d1, d2] }
  | _ => none }
def FnExactDaysForWrongFalsely : Prop := fnExactDaysForRow.holds Try.pinned (OpenSpec.ofChange fnExactDaysForWrong)

/-- 'laws.FnExactLeastLifted': WHATEVER THE INPUT: true; the input reads as it did. -/
def fnExactLeastLiftedSpec : ChangeSpec := { name := "fnExactLeastLifted", fn := fun _ => fun
  | [d1, d2] => { results := [.lit (.bool true)], args := [d1, d2] }
  | _ => none }
def fnExactLeastLiftedRow : OpenClaim := { program := "ytkbacpkpgfppiaa", sum := "678fb51161413c7f61c85da3138027237769ad01395c5c7c94376a1d92171943", func := "loop.example/g01376/laws.FnExactLeastLifted", spec := "fnExactLeastLifted", unfollowed := true, recurses := true, plainKeys := false, apart := false }
def FnExactLeastLiftedSaid : Prop := fnExactLeastLiftedRow.holds Try.pinned (OpenSpec.ofChange fnExactLeastLiftedSpec)

/-- ITS FALSE NEIGHBOUR: 'it returns false'. Refute it at one input. -/
def fnExactLeastLiftedWrong : ChangeSpec := { name := "fnExactLeastLifted", fn := fun _ => fun
  | [d1, d2] => { results := [.lit (.bool false)], args := [d1, d2] }
  | _ => none }
def FnExactLeastLiftedWrongFalsely : Prop := fnExactLeastLiftedRow.holds Try.pinned (OpenSpec.ofChange fnExactLeastLiftedWrong)

/-- 'laws.FnExactLeastWalk': WHATEVER THE INPUT: true; the input reads as it did. -/
def fnExactLeastWalkSpec : ChangeSpec := { name := "fnExactLeastWalk", fn := fun _ => fun
  | [d1, d2, d3] => { results := [.lit (.bool true)], args := [d1, d2, d3] }
  | _ => none }
def fnExactLeastWalkRow : OpenClaim := { program := "ytkbacpkpgfppiaa", sum := "678fb51161413c7f61c85da3138027237769ad01395c5c7c94376a1d92171943", func := "loop.example/g01376/laws.FnExactLeastWalk", spec := "fnExactLeastWalk", unfollowed := true, recurses := true, plainKeys := false, apart := false }
def FnExactLeastWalkSaid : Prop := fnExactLeastWalkRow.holds Try.pinned (OpenSpec.ofChange fnExactLeastWalkSpec)

/-- ITS FALSE NEIGHBOUR: 'it returns false'. Refute it at one input. -/
def fnExactLeastWalkWrong : ChangeSpec := { name := "fnExactLeastWalk", fn := fun _ => fun
  | [d1, d2, d3] => { results := [.lit (.bool false)], args := [d1, d2, d3] }
  | _ => none }
def FnExactLeastWalkWrongFalsely : Prop := fnExactLeastWalkRow.holds Try.pinned (OpenSpec.ofChange fnExactLeastWalkWrong)

/-- 'laws.FnExactPatchOf': WHATEVER THE INPUT: true; the input reads as it did. -/
def fnExactPatchOfSpec : ChangeSpec := { name := "fnExactPatchOf", fn := fun _ => fun
  | [d1, d2] => { results := [.lit (.bool true)], args := [d1, d2] }
  | _ => none }
def fnExactPatchOfRow : OpenClaim := { program := "ytkbacpkpgfppiaa", sum := "678fb51161413c7f61c85da3138027237769ad01395c5c7c94376a1d92171943", func := "loop.example/g01376/laws.FnExactPatchOf", spec := "fnExactPatchOf", unfollowed := true, recurses := true, plainKeys := false, apart := false }
def FnExactPatchOfSaid : Prop := fnExactPatchOfRow.holds Try.pinned (OpenSpec.ofChange fnExactPatchOfSpec)

/-- ITS FALSE NEIGHBOUR: 'it returns false'. Refute it at one input. -/
def fnExactPatchOfWrong : ChangeSpec := { name := "fnExactPatchOf", fn := fun _ => fun
  | [d1, d2] => { results := [.lit (.bool false)], args := [d1, d2] }
  | _ => none }
def FnExactPatchOfWrongFalsely : Prop := fnExactPatchOfRow.holds Try.pinned (OpenSpec.ofChange fnExactPatchOfWrong)

/-- 'laws.FnExactPatchesOf': WHATEVER THE INPUT: true; the input reads as it did. -/
def fnExactPatchesOfSpec : ChangeSpec := { name := "fnExactPatchesOf", fn := fun _ => fun
  | [d1, d2] => { results := [.lit (.bool true)], args := [d1, d2] }
  | _ => none }
def fnExactPatchesOfRow : OpenClaim := { program := "ytkbacpkpgfppiaa", sum := "678fb51161413c7f61c85da3138027237769ad01395c5c7c94376a1d92171943", func := "loop.example/g01376/laws.FnExactPatchesOf", spec := "fnExactPatchesOf", unfollowed := true, recurses := true, plainKeys := false, apart := false }
def FnExactPatchesOfSaid : Prop := fnExactPatchesOfRow.holds Try.pinned (OpenSpec.ofChange fnExactPatchesOfSpec)

/-- ITS FALSE NEIGHBOUR: 'it returns false'. Refute it at one input. -/
def fnExactPatchesOfWrong : ChangeSpec := { name := "fnExactPatchesOf", fn := fun _ => fun
  | [d1, d2] => { results := [.lit (.bool false)], args := [d1, d2] }
  | _ => none }
def FnExactPatchesOfWrongFalsely : Prop := fnExactPatchesOfRow.holds Try.pinned (OpenSpec.ofChange fnExactPatchesOfWrong)

/- THE SECOND FORM. 'bulk': how many values and letters a reading holds, each counted each time it is reached (what is shared counts as often as it is met; a slice's spare places count too). A statement '..UptoSaid' is the law's where the arguments, and the package variables that the reading takes, are together of bulk at most 1048576: NARROWER than '..Said'. Prove '..Said' where nothing that the law and all that it calls make is longer than what came in: it says more and counts as full. Else prove '..UptoSaid'. A law counts once. -/
mutual
def uptoBulk {H : Type} : DataW H → Nat
  | .lit (.string bytes) => bytes.length + 1
  | .lit _ => 1
  | .nil => 1
  | .ptr d => uptoBulk d + 1
  | .slice elems spare => uptoBulkAll elems + uptoBulkAll spare + 1
  | .agg parts => uptoBulkAll parts + 1
  | .iface _ d => uptoBulk d + 1
  | .map entries => uptoBulkEntries entries + 1
  | .held _ => 1
def uptoBulkAll {H : Type} : List (DataW H) → Nat
  | [] => 0
  | d :: r => uptoBulk d + uptoBulkAll r
def uptoBulkEntries {H : Type} : List (Lit × DataW H) → Nat
  | [] => 0
  | x :: r => uptoBulkEntry x + uptoBulkEntries r
def uptoBulkEntry {H : Type} : Lit × DataW H → Nat
  | (.string bytes, d) => bytes.length + uptoBulk d + 1
  | (_, d) => uptoBulk d + 1
 end
def uptoSmall : (H : Type) → List (DataW H) → Bool := fun _ ds => decide (uptoBulkAll ds ≤ 1048576)
def OpenSpec.upto (s : _root_.Go.ChangeSpec) : _root_.Go.OpenSpec := { _root_.Go.OpenSpec.ofChange s with cond := some uptoSmall }

/-- 'laws.FnExactLeastClimb', WHERE WHAT IT READS IS OF BULK AT MOST 1048576: true; the input reads as it did. -/
def fnExactLeastClimbUptoRow : OpenClaim := { program := "ytkbacpkpgfppiaa", sum := "678fb51161413c7f61c85da3138027237769ad01395c5c7c94376a1d92171943", func := "loop.example/g01376/laws.FnExactLeastClimb", spec := "fnExactLeastClimb", unfollowed := true, recurses := true, plainKeys := false, apart := false, narrowed := true }
def FnExactLeastClimbUptoSaid : Prop := fnExactLeastClimbUptoRow.holds Try.pinned (OpenSpec.upto fnExactLeastClimbSpec)

/-- 'laws.FnExactFirstUpward', WHERE WHAT IT READS IS OF BULK AT MOST 1048576: true; the input reads as it did. -/
def fnExactFirstUpwardUptoRow : OpenClaim := { program := "ytkbacpkpgfppiaa", sum := "678fb51161413c7f61c85da3138027237769ad01395c5c7c94376a1d92171943", func := "loop.example/g01376/laws.FnExactFirstUpward", spec := "fnExactFirstUpward", unfollowed := true, recurses := true, plainKeys := false, apart := false, narrowed := true }
def FnExactFirstUpwardUptoSaid : Prop := fnExactFirstUpwardUptoRow.holds Try.pinned (OpenSpec.upto fnExactFirstUpwardSpec)

/-- 'laws.FnExactFewestLadders', WHERE WHAT IT READS IS OF BULK AT MOST 1048576: true; the input reads as it did. -/
def fnExactFewestLaddersUptoRow : OpenClaim := { program := "ytkbacpkpgfppiaa", sum := "678fb51161413c7f61c85da3138027237769ad01395c5c7c94376a1d92171943", func := "loop.example/g01376/laws.FnExactFewestLadders", spec := "fnExactFewestLadders", unfollowed := true, recurses := true, plainKeys := false, apart := false, narrowed := true }
def FnExactFewestLaddersUptoSaid : Prop := fnExactFewestLaddersUptoRow.holds Try.pinned (OpenSpec.upto fnExactFewestLaddersSpec)

/-- 'laws.FnExactDaysFor', WHERE WHAT IT READS IS OF BULK AT MOST 1048576: true; the input reads as it did. -/
def fnExactDaysForUptoRow : OpenClaim := { program := "ytkbacpkpgfppiaa", sum := "678fb51161413c7f61c85da3138027237769ad01395c5c7c94376a1d92171943", func := "loop.example/g01376/laws.FnExactDaysFor", spec := "fnExactDaysFor", unfollowed := true, recurses := true, plainKeys := false, apart := false, narrowed := true }
def FnExactDaysForUptoSaid : Prop := fnExactDaysForUptoRow.holds Try.pinned (OpenSpec.upto fnExactDaysForSpec)

/-- 'laws.FnExactLeastLifted', WHERE WHAT IT READS IS OF BULK AT MOST 1048576: true; the input reads as it did. -/
def fnExactLeastLiftedUptoRow : OpenClaim := { program := "ytkbacpkpgfppiaa", sum := "678fb51161413c7f61c85da3138027237769ad01395c5c7c94376a1d92171943", func := "loop.example/g01376/laws.FnExactLeastLifted", spec := "fnExactLeastLifted", unfollowed := true, recurses := true, plainKeys := false, apart := false, narrowed := true }
def FnExactLeastLiftedUptoSaid : Prop := fnExactLeastLiftedUptoRow.holds Try.pinned (OpenSpec.upto fnExactLeastLiftedSpec)

/-- 'laws.FnExactLeastWalk', WHERE WHAT IT READS IS OF BULK AT MOST 1048576: true; the input reads as it did. -/
def fnExactLeastWalkUptoRow : OpenClaim := { program := "ytkbacpkpgfppiaa", sum := "678fb51161413c7f61c85da3138027237769ad01395c5c7c94376a1d92171943", func := "loop.example/g01376/laws.FnExactLeastWalk", spec := "fnExactLeastWalk", unfollowed := true, recurses := true, plainKeys := false, apart := false, narrowed := true }
def FnExactLeastWalkUptoSaid : Prop := fnExactLeastWalkUptoRow.holds Try.pinned (OpenSpec.upto fnExactLeastWalkSpec)

/-- 'laws.FnExactPatchOf', WHERE WHAT IT READS IS OF BULK AT MOST 1048576: true; the input reads as it did. -/
def fnExactPatchOfUptoRow : OpenClaim := { program := "ytkbacpkpgfppiaa", sum := "678fb51161413c7f61c85da3138027237769ad01395c5c7c94376a1d92171943", func := "loop.example/g01376/laws.FnExactPatchOf", spec := "fnExactPatchOf", unfollowed := true, recurses := true, plainKeys := false, apart := false, narrowed := true }
def FnExactPatchOfUptoSaid : Prop := fnExactPatchOfUptoRow.holds Try.pinned (OpenSpec.upto fnExactPatchOfSpec)

/-- 'laws.FnExactPatchesOf', WHERE WHAT IT READS IS OF BULK AT MOST 1048576: true; the input reads as it did. -/
def fnExactPatchesOfUptoRow : OpenClaim := { program := "ytkbacpkpgfppiaa", sum := "678fb51161413c7f61c85da3138027237769ad01395c5c7c94376a1d92171943", func := "loop.example/g01376/laws.FnExactPatchesOf", spec := "fnExactPatchesOf", unfollowed := true, recurses := true, plainKeys := false, apart := false, narrowed := true }
def FnExactPatchesOfUptoSaid : Prop := fnExactPatchesOfUptoRow.holds Try.pinned (OpenSpec.upto fnExactPatchesOfSpec)

end Rows
end Go.Proofs.Ytkbacpkpgfppiaa
