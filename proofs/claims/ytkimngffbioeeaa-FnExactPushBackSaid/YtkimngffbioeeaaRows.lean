/-
  No cell of these rows narrows 'for every input' (looked for: loops, veiled, ifaces, maps, wideKeys, modest, calm, conditions, laid).
  DERIVED. THE GIVEN ROWS OF THIS SEAT. 12 by the template 'for every input the law returns true; each argument reads behind the call as it read before'; 0 by the template 'total and deterministic' (their statements: YtkimngffbioeeaaTotals.lean).
  GIVEN WITH THE SEED: the statements are not yours to turn. If you find one false, say at which input.
  Laid BY PROGRAM, IN A SANDBOX (cutbox-rows.mjs): the forced cells as the released guide's own fill.sh prints them over the translation cc195c5375c369e7… (all of the seat's roots in one cut). By AI agents, Wed Nov 11 2026. No macro, syntax, notation, axiom, sorry.
-/
import Derived.Test.YtkimngffbioeeaaChecked
import GoSem.Claim
import GoSem.ClaimJoined
import GoSem.ClaimMapViews
import Derived.JoinedTies
import Derived.KernelRfl
namespace Go.Proofs.Ytkimngffbioeeaa
/- THE CELL 'sum', in the pinned program and in every row, IS THE sha256 OF THE DUMP (.gsa) THAT YtkimngffbioeeaaProg.lean LOADS. Nothing in Lean hashes anything: it is a label: what it is worth is what the hold of that sum in a sandbox is worth. -/
noncomputable def Try.pinned : Pinned := { name := "ytkimngffbioeeaa", sum := "cc195c5375c369e7acfccba0bdc842cfec718851b8ed343e18615f670f854778", checked := Try.checked }
namespace Rows
def none {H : Type} : Left H := { results := [], args := [] }

/-- 'laws.FnExactReachFrom': WHATEVER THE INPUT: true; the input reads as it did. -/
def fnExactReachFromSpec : ChangeSpec := { name := "fnExactReachFrom", fn := fun _ => fun
  | [d1, d2, d3] => { results := [.lit (.bool true)], args := [d1, d2, d3] }
  | _ => none }
def fnExactReachFromRow : OpenClaim := { program := "ytkimngffbioeeaa", sum := "cc195c5375c369e7acfccba0bdc842cfec718851b8ed343e18615f670f854778", func := "loop.example/g01376/laws.FnExactReachFrom", spec := "fnExactReachFrom", unfollowed := true, recurses := true, plainKeys := false, apart := false }
def FnExactReachFromSaid : Prop := fnExactReachFromRow.holds Try.pinned (OpenSpec.ofChange fnExactReachFromSpec)

/-- ITS FALSE NEIGHBOUR: 'it returns false'. Refute it at one input. -/
def fnExactReachFromWrong : ChangeSpec := { name := "fnExactReachFrom", fn := fun _ => fun
  | [d1, d2, d3] => { results := [.lit (.bool false)], args := [d1, d2, d3] }
  | _ => none }
def FnExactReachFromWrongFalsely : Prop := fnExactReachFromRow.holds Try.pinned (OpenSpec.ofChange fnExactReachFromWrong)

/-- 'laws.FnExactCanReach': WHATEVER THE INPUT: true; the input reads as it did. -/
def fnExactCanReachSpec : ChangeSpec := { name := "fnExactCanReach", fn := fun _ => fun
  | [d1, d2, d3, d4] => { results := [.lit (.bool true)], args := [d1, d2, d3, d4] }
  | _ => none }
def fnExactCanReachRow : OpenClaim := { program := "ytkimngffbioeeaa", sum := "cc195c5375c369e7acfccba0bdc842cfec718851b8ed343e18615f670f854778", func := "loop.example/g01376/laws.FnExactCanReach", spec := "fnExactCanReach", unfollowed := true, recurses := true, plainKeys := false, apart := false }
def FnExactCanReachSaid : Prop := fnExactCanReachRow.holds Try.pinned (OpenSpec.ofChange fnExactCanReachSpec)

/-- ITS FALSE NEIGHBOUR: 'it returns false'. Refute it at one input. -/
def fnExactCanReachWrong : ChangeSpec := { name := "fnExactCanReach", fn := fun _ => fun
  | [d1, d2, d3, d4] => { results := [.lit (.bool false)], args := [d1, d2, d3, d4] }
  | _ => none }
def FnExactCanReachWrongFalsely : Prop := fnExactCanReachRow.holds Try.pinned (OpenSpec.ofChange fnExactCanReachWrong)

/-- 'laws.FnExactLadderFor': WHATEVER THE INPUT: true; the input reads as it did. -/
def fnExactLadderForSpec : ChangeSpec := { name := "fnExactLadderFor", fn := fun _ => fun
  | [d1, d2, d3, d4] => { results := [.lit (.bool true)], args := [d1, d2, d3, d4] }
  | _ => none }
def fnExactLadderForRow : OpenClaim := { program := "ytkimngffbioeeaa", sum := "cc195c5375c369e7acfccba0bdc842cfec718851b8ed343e18615f670f854778", func := "loop.example/g01376/laws.FnExactLadderFor", spec := "fnExactLadderFor", unfollowed := true, recurses := true, plainKeys := false, apart := false }
def FnExactLadderForSaid : Prop := fnExactLadderForRow.holds Try.pinned (OpenSpec.ofChange fnExactLadderForSpec)

/-- ITS FALSE NEIGHBOUR: 'it returns false'. Refute it at one input. -/
def fnExactLadderForWrong : ChangeSpec := { name := "fnExactLadderFor", fn := fun _ => fun
  | [d1, d2, d3, d4] => { results := [.lit (.bool false)], args := [d1, d2, d3, d4] }
  | _ => none }
def FnExactLadderForWrongFalsely : Prop := fnExactLadderForRow.holds Try.pinned (OpenSpec.ofChange fnExactLadderForWrong)

/-- 'laws.FnExactWalkFor': WHATEVER THE INPUT: true; the input reads as it did. -/
def fnExactWalkForSpec : ChangeSpec := { name := "fnExactWalkFor", fn := fun _ => fun
  | [d1, d2, d3] => { results := [.lit (.bool true)], args := [d1, d2, d3] }
  | _ => none }
def fnExactWalkForRow : OpenClaim := { program := "ytkimngffbioeeaa", sum := "cc195c5375c369e7acfccba0bdc842cfec718851b8ed343e18615f670f854778", func := "loop.example/g01376/laws.FnExactWalkFor", spec := "fnExactWalkFor", unfollowed := true, recurses := true, plainKeys := false, apart := false }
def FnExactWalkForSaid : Prop := fnExactWalkForRow.holds Try.pinned (OpenSpec.ofChange fnExactWalkForSpec)

/-- ITS FALSE NEIGHBOUR: 'it returns false'. Refute it at one input. -/
def fnExactWalkForWrong : ChangeSpec := { name := "fnExactWalkFor", fn := fun _ => fun
  | [d1, d2, d3] => { results := [.lit (.bool false)], args := [d1, d2, d3] }
  | _ => none }
def FnExactWalkForWrongFalsely : Prop := fnExactWalkForRow.holds Try.pinned (OpenSpec.ofChange fnExactWalkForWrong)

/-- 'laws.FnExactClimbTo': WHATEVER THE INPUT: true; the input reads as it did. -/
def fnExactClimbToSpec : ChangeSpec := { name := "fnExactClimbTo", fn := fun _ => fun
  | [d1, d2] => { results := [.lit (.bool true)], args := [d1, d2] }
  | _ => none }
def fnExactClimbToRow : OpenClaim := { program := "ytkimngffbioeeaa", sum := "cc195c5375c369e7acfccba0bdc842cfec718851b8ed343e18615f670f854778", func := "loop.example/g01376/laws.FnExactClimbTo", spec := "fnExactClimbTo", plainKeys := false, apart := false }
def FnExactClimbToSaid : Prop := fnExactClimbToRow.holds Try.pinned (OpenSpec.ofChange fnExactClimbToSpec)

/-- ITS FALSE NEIGHBOUR: 'it returns false'. Refute it at one input. -/
def fnExactClimbToWrong : ChangeSpec := { name := "fnExactClimbTo", fn := fun _ => fun
  | [d1, d2] => { results := [.lit (.bool false)], args := [d1, d2] }
  | _ => none }
def FnExactClimbToWrongFalsely : Prop := fnExactClimbToRow.holds Try.pinned (OpenSpec.ofChange fnExactClimbToWrong)

/-- 'laws.FnExactClimbsFor': WHATEVER THE INPUT: true; the input reads as it did. -/
def fnExactClimbsForSpec : ChangeSpec := { name := "fnExactClimbsFor", fn := fun _ => fun
  | [d1, d2, d3] => { results := [.lit (.bool true)], args := [d1, d2, d3] }
  | _ => none }
def fnExactClimbsForRow : OpenClaim := { program := "ytkimngffbioeeaa", sum := "cc195c5375c369e7acfccba0bdc842cfec718851b8ed343e18615f670f854778", func := "loop.example/g01376/laws.FnExactClimbsFor", spec := "fnExactClimbsFor", unfollowed := true, recurses := true, plainKeys := false, apart := false }
def FnExactClimbsForSaid : Prop := fnExactClimbsForRow.holds Try.pinned (OpenSpec.ofChange fnExactClimbsForSpec)

/-- ITS FALSE NEIGHBOUR: 'it returns false'. Refute it at one input. -/
def fnExactClimbsForWrong : ChangeSpec := { name := "fnExactClimbsFor", fn := fun _ => fun
  | [d1, d2, d3] => { results := [.lit (.bool false)], args := [d1, d2, d3] }
  | _ => none }
def FnExactClimbsForWrongFalsely : Prop := fnExactClimbsForRow.holds Try.pinned (OpenSpec.ofChange fnExactClimbsForWrong)

/-- 'laws.FnExactIsUpward': WHATEVER THE INPUT: true; the input reads as it did. -/
def fnExactIsUpwardSpec : ChangeSpec := { name := "fnExactIsUpward", fn := fun _ => fun
  | [d1, d2] => { results := [.lit (.bool true)], args := [d1, d2] }
  | _ => none }
def fnExactIsUpwardRow : OpenClaim := { program := "ytkimngffbioeeaa", sum := "cc195c5375c369e7acfccba0bdc842cfec718851b8ed343e18615f670f854778", func := "loop.example/g01376/laws.FnExactIsUpward", spec := "fnExactIsUpward", unfollowed := true, recurses := true, plainKeys := false, apart := false }
def FnExactIsUpwardSaid : Prop := fnExactIsUpwardRow.holds Try.pinned (OpenSpec.ofChange fnExactIsUpwardSpec)

/-- ITS FALSE NEIGHBOUR: 'it returns false'. Refute it at one input. -/
def fnExactIsUpwardWrong : ChangeSpec := { name := "fnExactIsUpward", fn := fun _ => fun
  | [d1, d2] => { results := [.lit (.bool false)], args := [d1, d2] }
  | _ => none }
def FnExactIsUpwardWrongFalsely : Prop := fnExactIsUpwardRow.holds Try.pinned (OpenSpec.ofChange fnExactIsUpwardWrong)

/-- 'laws.FnExactLiftedFor': WHATEVER THE INPUT: true; the input reads as it did. -/
def fnExactLiftedForSpec : ChangeSpec := { name := "fnExactLiftedFor", fn := fun _ => fun
  | [d1, d2] => { results := [.lit (.bool true)], args := [d1, d2] }
  | _ => none }
def fnExactLiftedForRow : OpenClaim := { program := "ytkimngffbioeeaa", sum := "cc195c5375c369e7acfccba0bdc842cfec718851b8ed343e18615f670f854778", func := "loop.example/g01376/laws.FnExactLiftedFor", spec := "fnExactLiftedFor", unfollowed := true, recurses := true, plainKeys := false, apart := false }
def FnExactLiftedForSaid : Prop := fnExactLiftedForRow.holds Try.pinned (OpenSpec.ofChange fnExactLiftedForSpec)

/-- ITS FALSE NEIGHBOUR: 'it returns false'. Refute it at one input. -/
def fnExactLiftedForWrong : ChangeSpec := { name := "fnExactLiftedFor", fn := fun _ => fun
  | [d1, d2] => { results := [.lit (.bool false)], args := [d1, d2] }
  | _ => none }
def FnExactLiftedForWrongFalsely : Prop := fnExactLiftedForRow.holds Try.pinned (OpenSpec.ofChange fnExactLiftedForWrong)

/-- 'laws.FnExactPushBack': WHATEVER THE INPUT: true; the input reads as it did. -/
def fnExactPushBackSpec : ChangeSpec := { name := "fnExactPushBack", fn := fun _ => fun
  | [d1, d2, d3] => { results := [.lit (.bool true)], args := [d1, d2, d3] }
  | _ => none }
def fnExactPushBackRow : OpenClaim := { program := "ytkimngffbioeeaa", sum := "cc195c5375c369e7acfccba0bdc842cfec718851b8ed343e18615f670f854778", func := "loop.example/g01376/laws.FnExactPushBack", spec := "fnExactPushBack", unfollowed := true, recurses := true, plainKeys := false, apart := false }
def FnExactPushBackSaid : Prop := fnExactPushBackRow.holds Try.pinned (OpenSpec.ofChange fnExactPushBackSpec)

/-- ITS FALSE NEIGHBOUR: 'it returns false'. Refute it at one input. -/
def fnExactPushBackWrong : ChangeSpec := { name := "fnExactPushBack", fn := fun _ => fun
  | [d1, d2, d3] => { results := [.lit (.bool false)], args := [d1, d2, d3] }
  | _ => none }
def FnExactPushBackWrongFalsely : Prop := fnExactPushBackRow.holds Try.pinned (OpenSpec.ofChange fnExactPushBackWrong)

/-- 'laws.FnExactTilesNeeded': WHATEVER THE INPUT: true; the input reads as it did. -/
def fnExactTilesNeededSpec : ChangeSpec := { name := "fnExactTilesNeeded", fn := fun _ => fun
  | [d1, d2, d3] => { results := [.lit (.bool true)], args := [d1, d2, d3] }
  | _ => none }
def fnExactTilesNeededRow : OpenClaim := { program := "ytkimngffbioeeaa", sum := "cc195c5375c369e7acfccba0bdc842cfec718851b8ed343e18615f670f854778", func := "loop.example/g01376/laws.FnExactTilesNeeded", spec := "fnExactTilesNeeded", unfollowed := true, recurses := true, plainKeys := false, apart := false }
def FnExactTilesNeededSaid : Prop := fnExactTilesNeededRow.holds Try.pinned (OpenSpec.ofChange fnExactTilesNeededSpec)

/-- ITS FALSE NEIGHBOUR: 'it returns false'. Refute it at one input. -/
def fnExactTilesNeededWrong : ChangeSpec := { name := "fnExactTilesNeeded", fn := fun _ => fun
  | [d1, d2, d3] => { results := [.lit (.bool false)], args := [d1, d2, d3] }
  | _ => none }
def FnExactTilesNeededWrongFalsely : Prop := fnExactTilesNeededRow.holds Try.pinned (OpenSpec.ofChange fnExactTilesNeededWrong)

/-- 'laws.FnExactJobTime': WHATEVER THE INPUT: true; the input reads as it did. -/
def fnExactJobTimeSpec : ChangeSpec := { name := "fnExactJobTime", fn := fun _ => fun
  | [d1, d2, d3, d4] => { results := [.lit (.bool true)], args := [d1, d2, d3, d4] }
  | _ => none }
def fnExactJobTimeRow : OpenClaim := { program := "ytkimngffbioeeaa", sum := "cc195c5375c369e7acfccba0bdc842cfec718851b8ed343e18615f670f854778", func := "loop.example/g01376/laws.FnExactJobTime", spec := "fnExactJobTime", unfollowed := true, recurses := true, plainKeys := false, apart := false }
def FnExactJobTimeSaid : Prop := fnExactJobTimeRow.holds Try.pinned (OpenSpec.ofChange fnExactJobTimeSpec)

/-- ITS FALSE NEIGHBOUR: 'it returns false'. Refute it at one input. -/
def fnExactJobTimeWrong : ChangeSpec := { name := "fnExactJobTime", fn := fun _ => fun
  | [d1, d2, d3, d4] => { results := [.lit (.bool false)], args := [d1, d2, d3, d4] }
  | _ => none }
def FnExactJobTimeWrongFalsely : Prop := fnExactJobTimeRow.holds Try.pinned (OpenSpec.ofChange fnExactJobTimeWrong)

/-- 'laws.FnExactDaysFor': WHATEVER THE INPUT: true; the input reads as it did. -/
def fnExactDaysForSpec : ChangeSpec := { name := "fnExactDaysFor", fn := fun _ => fun
  | [d1, d2] => { results := [.lit (.bool true)], args := [d1, d2] }
  | _ => none }
def fnExactDaysForRow : OpenClaim := { program := "ytkimngffbioeeaa", sum := "cc195c5375c369e7acfccba0bdc842cfec718851b8ed343e18615f670f854778", func := "loop.example/g01376/laws.FnExactDaysFor", spec := "fnExactDaysFor", unfollowed := true, recurses := true, plainKeys := false, apart := false }
def FnExactDaysForSaid : Prop := fnExactDaysForRow.holds Try.pinned (OpenSpec.ofChange fnExactDaysForSpec)

/-- ITS FALSE NEIGHBOUR: 'it returns false'. Refute it at one input. -/
def fnExactDaysForWrong : ChangeSpec := { name := "fnExactDaysFor", fn := fun _ => fun
  | [d1, d2] => { results := [.lit (.bool false)], args := [d1, d2] }
  | _ => none }
def FnExactDaysForWrongFalsely : Prop := fnExactDaysForRow.holds Try.pinned (OpenSpec.ofChange fnExactDaysForWrong)

/- THE SECOND FORM. 'bulk': how many values and letters a reading holds, each counted each time it is reached (what is shared counts as often as it is met; a slice's spare places count too). A statement '..UptoSaid' is the law's where the arguments, and the package variables that the reading takes, are together of bulk at most 1048576: NARROWER than '..Said'. Prove '..Said' where nothing that the law and all that it calls make is longer than what came in: it says more and counts as full. Else prove '..UptoSaid'. A law counts once. -/
mutual
def uptoBulk {H : Type} : DataW H → Nat
  | .lit (.string bytes) => bytes.length + 1
  | .lit _ => 1
  | .nil => 1
  | .ptr d => uptoBulk d + 1
  | .slice elems spare => uptoBulkAll elems + uptoBulkAll spare + 1
  | .agg parts => uptoBulkAll parts + 1
  | .iface _ d => uptoBulk d + 1
  | .map entries => uptoBulkEntries entries + 1
  | .held _ => 1
def uptoBulkAll {H : Type} : List (DataW H) → Nat
  | [] => 0
  | d :: r => uptoBulk d + uptoBulkAll r
def uptoBulkEntries {H : Type} : List (Lit × DataW H) → Nat
  | [] => 0
  | x :: r => uptoBulkEntry x + uptoBulkEntries r
def uptoBulkEntry {H : Type} : Lit × DataW H → Nat
  | (.string bytes, d) => bytes.length + uptoBulk d + 1
  | (_, d) => uptoBulk d + 1
 end
def uptoSmall : (H : Type) → List (DataW H) → Bool := fun _ ds => decide (uptoBulkAll ds ≤ 1048576)
def OpenSpec.upto (s : _root_.Go.ChangeSpec) : _root_.Go.OpenSpec := { _root_.Go.OpenSpec.ofChange s with cond := some uptoSmall }

/-- 'laws.FnExactReachFrom', WHERE WHAT IT READS IS OF BULK AT MOST 1048576: true; the input reads as it did. -/
def fnExactReachFromUptoRow : OpenClaim := { program := "ytkimngffbioeeaa", sum := "cc195c5375c369e7acfccba0bdc842cfec718851b8ed343e18615f670f854778", func := "loop.example/g01376/laws.FnExactReachFrom", spec := "fnExactReachFrom", unfollowed := true, recurses := true, plainKeys := false, apart := false, narrowed := true }
def FnExactReachFromUptoSaid : Prop := fnExactReachFromUptoRow.holds Try.pinned (OpenSpec.upto fnExactReachFromSpec)

/-- 'laws.FnExactCanReach', WHERE WHAT IT READS IS OF BULK AT MOST 1048576: true; the input reads as it did. -/
def fnExactCanReachUptoRow : OpenClaim := { program := "ytkimngffbioeeaa", sum := "cc195c5375c369e7acfccba0bdc842cfec718851b8ed343e18615f670f854778", func := "loop.example/g01376/laws.FnExactCanReach", spec := "fnExactCanReach", unfollowed := true, recurses := true, plainKeys := false, apart := false, narrowed := true }
def FnExactCanReachUptoSaid : Prop := fnExactCanReachUptoRow.holds Try.pinned (OpenSpec.upto fnExactCanReachSpec)

/-- 'laws.FnExactLadderFor', WHERE WHAT IT READS IS OF BULK AT MOST 1048576: true; the input reads as it did. -/
def fnExactLadderForUptoRow : OpenClaim := { program := "ytkimngffbioeeaa", sum := "cc195c5375c369e7acfccba0bdc842cfec718851b8ed343e18615f670f854778", func := "loop.example/g01376/laws.FnExactLadderFor", spec := "fnExactLadderFor", unfollowed := true, recurses := true, plainKeys := false, apart := false, narrowed := true }
def FnExactLadderForUptoSaid : Prop := fnExactLadderForUptoRow.holds Try.pinned (OpenSpec.upto fnExactLadderForSpec)

/-- 'laws.FnExactWalkFor', WHERE WHAT IT READS IS OF BULK AT MOST 1048576: true; the input reads as it did. -/
def fnExactWalkForUptoRow : OpenClaim := { program := "ytkimngffbioeeaa", sum := "cc195c5375c369e7acfccba0bdc842cfec718851b8ed343e18615f670f854778", func := "loop.example/g01376/laws.FnExactWalkFor", spec := "fnExactWalkFor", unfollowed := true, recurses := true, plainKeys := false, apart := false, narrowed := true }
def FnExactWalkForUptoSaid : Prop := fnExactWalkForUptoRow.holds Try.pinned (OpenSpec.upto fnExactWalkForSpec)

/-- 'laws.FnExactClimbTo', WHERE WHAT IT READS IS OF BULK AT MOST 1048576: true; the input reads as it did. -/
def fnExactClimbToUptoRow : OpenClaim := { program := "ytkimngffbioeeaa", sum := "cc195c5375c369e7acfccba0bdc842cfec718851b8ed343e18615f670f854778", func := "loop.example/g01376/laws.FnExactClimbTo", spec := "fnExactClimbTo", plainKeys := false, apart := false, narrowed := true }
def FnExactClimbToUptoSaid : Prop := fnExactClimbToUptoRow.holds Try.pinned (OpenSpec.upto fnExactClimbToSpec)

/-- 'laws.FnExactClimbsFor', WHERE WHAT IT READS IS OF BULK AT MOST 1048576: true; the input reads as it did. -/
def fnExactClimbsForUptoRow : OpenClaim := { program := "ytkimngffbioeeaa", sum := "cc195c5375c369e7acfccba0bdc842cfec718851b8ed343e18615f670f854778", func := "loop.example/g01376/laws.FnExactClimbsFor", spec := "fnExactClimbsFor", unfollowed := true, recurses := true, plainKeys := false, apart := false, narrowed := true }
def FnExactClimbsForUptoSaid : Prop := fnExactClimbsForUptoRow.holds Try.pinned (OpenSpec.upto fnExactClimbsForSpec)

/-- 'laws.FnExactIsUpward', WHERE WHAT IT READS IS OF BULK AT MOST 1048576: true; the input reads as it did. -/
def fnExactIsUpwardUptoRow : OpenClaim := { program := "ytkimngffbioeeaa", sum := "cc195c5375c369e7acfccba0bdc842cfec718851b8ed343e18615f670f854778", func := "loop.example/g01376/laws.FnExactIsUpward", spec := "fnExactIsUpward", unfollowed := true, recurses := true, plainKeys := false, apart := false, narrowed := true }
def FnExactIsUpwardUptoSaid : Prop := fnExactIsUpwardUptoRow.holds Try.pinned (OpenSpec.upto fnExactIsUpwardSpec)

/-- 'laws.FnExactLiftedFor', WHERE WHAT IT READS IS OF BULK AT MOST 1048576: true; the input reads as it did. -/
def fnExactLiftedForUptoRow : OpenClaim := { program := "ytkimngffbioeeaa", sum := "cc195c5375c369e7acfccba0bdc842cfec718851b8ed343e18615f670f854778", func := "loop.example/g01376/laws.FnExactLiftedFor", spec := "fnExactLiftedFor", unfollowed := true, recurses := true, plainKeys := false, apart := false, narrowed := true }
def FnExactLiftedForUptoSaid : Prop := fnExactLiftedForUptoRow.holds Try.pinned (OpenSpec.upto fnExactLiftedForSpec)

/-- 'laws.FnExactPushBack', WHERE WHAT IT READS IS OF BULK AT MOST 1048576: true; the input reads as it did. -/
def fnExactPushBackUptoRow : OpenClaim := { program := "ytkimngffbioeeaa", sum := "cc195c5375c369e7acfccba0bdc842cfec718851b8ed343e18615f670f854778", func := "loop.example/g01376/laws.FnExactPushBack", spec := "fnExactPushBack", unfollowed := true, recurses := true, plainKeys := false, apart := false, narrowed := true }
def FnExactPushBackUptoSaid : Prop := fnExactPushBackUptoRow.holds Try.pinned (OpenSpec.upto fnExactPushBackSpec)

/-- 'laws.FnExactTilesNeeded', WHERE WHAT IT READS IS OF BULK AT MOST 1048576: true; the input reads as it did. -/
def fnExactTilesNeededUptoRow : OpenClaim := { program := "ytkimngffbioeeaa", sum := "cc195c5375c369e7acfccba0bdc842cfec718851b8ed343e18615f670f854778", func := "loop.example/g01376/laws.FnExactTilesNeeded", spec := "fnExactTilesNeeded", unfollowed := true, recurses := true, plainKeys := false, apart := false, narrowed := true }
def FnExactTilesNeededUptoSaid : Prop := fnExactTilesNeededUptoRow.holds Try.pinned (OpenSpec.upto fnExactTilesNeededSpec)

/-- 'laws.FnExactJobTime', WHERE WHAT IT READS IS OF BULK AT MOST 1048576: true; the input reads as it did. -/
def fnExactJobTimeUptoRow : OpenClaim := { program := "ytkimngffbioeeaa", sum := "cc195c5375c369e7acfccba0bdc842cfec718851b8ed343e18615f670f854778", func := "loop.example/g01376/laws.FnExactJobTime", spec := "fnExactJobTime", unfollowed := true, recurses := true, plainKeys := false, apart := false, narrowed := true }
def FnExactJobTimeUptoSaid : Prop := fnExactJobTimeUptoRow.holds Try.pinned (OpenSpec.upto fnExactJobTimeSpec)

/-- 'laws.FnExactDaysFor', WHERE WHAT IT READS IS OF BULK AT MOST 1048576: true; the input reads as it did. -/
def fnExactDaysForUptoRow : OpenClaim := { program := "ytkimngffbioeeaa", sum := "cc195c5375c369e7acfccba0bdc842cfec718851b8ed343e18615f670f854778", func := "loop.example/g01376/laws.FnExactDaysFor", spec := "fnExactDaysFor", unfollowed := true, recurses := true, plainKeys := false, apart := false, narrowed := true }
def FnExactDaysForUptoSaid : Prop := fnExactDaysForUptoRow.holds Try.pinned (OpenSpec.upto fnExactDaysForSpec)

end Rows
end Go.Proofs.Ytkimngffbioeeaa
