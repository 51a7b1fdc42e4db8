/-
  No cell of these rows narrows 'for every input' (looked for: loops, veiled, ifaces, maps, wideKeys, modest, calm, conditions, laid).
  DERIVED. THE GIVEN ROWS OF THIS SEAT. 12 by the template 'for every input the law returns true; each argument reads behind the call as it read before'; 0 by the template 'total and deterministic' (their statements: YtajdcdihbklafaaTotals.lean).
  GIVEN WITH THE SEED: the statements are not yours to turn. If you find one false, say at which input.
  Laid BY PROGRAM, IN A SANDBOX (cutbox-rows.mjs): the forced cells as the released guide's own fill.sh prints them over the translation 823d6ec5228967e7… (all of the seat's roots in one cut). By AI agents, Wed Nov 11 2026. No macro, syntax, notation, axiom, sorry.
-/
import Derived.Test.YtajdcdihbklafaaChecked
import GoSem.Claim
import GoSem.ClaimJoined
import GoSem.ClaimMapViews
import Derived.JoinedTies
import Derived.KernelRfl
namespace Go.Proofs.Ytajdcdihbklafaa
/- THE CELL 'sum', in the pinned program and in every row, IS THE sha256 OF THE DUMP (.gsa) THAT YtajdcdihbklafaaProg.lean LOADS. Nothing in Lean hashes anything: it is a label: what it is worth is what the hold of that sum in a sandbox is worth. -/
noncomputable def Try.pinned : Pinned := { name := "ytajdcdihbklafaa", sum := "823d6ec5228967e73775f22a103984714af3bff87f95ba72ef766afcc3b90c22", checked := Try.checked }
namespace Rows
def none {H : Type} : Left H := { results := [], args := [] }

/-- 'laws.FnExactValidRoof': WHATEVER THE INPUT: true; the input reads as it did. -/
def fnExactValidRoofSpec : ChangeSpec := { name := "fnExactValidRoof", fn := fun _ => fun
  | [d] => { results := [.lit (.bool true)], args := [d] }
  | _ => none }
def fnExactValidRoofRow : OpenClaim := { program := "ytajdcdihbklafaa", sum := "823d6ec5228967e73775f22a103984714af3bff87f95ba72ef766afcc3b90c22", func := "loop.example/g01376/laws.FnExactValidRoof", spec := "fnExactValidRoof", apart := false }
def FnExactValidRoofSaid : Prop := fnExactValidRoofRow.holds Try.pinned (OpenSpec.ofChange fnExactValidRoofSpec)

/-- ITS FALSE NEIGHBOUR: 'it returns false'. Refute it at one input. -/
def fnExactValidRoofWrong : ChangeSpec := { name := "fnExactValidRoof", fn := fun _ => fun
  | [d] => { results := [.lit (.bool false)], args := [d] }
  | _ => none }
def FnExactValidRoofWrongFalsely : Prop := fnExactValidRoofRow.holds Try.pinned (OpenSpec.ofChange fnExactValidRoofWrong)

/-- 'laws.FnExactSameRoof': WHATEVER THE INPUT: true; the input reads as it did. -/
def fnExactSameRoofSpec : ChangeSpec := { name := "fnExactSameRoof", fn := fun _ => fun
  | [d1, d2] => { results := [.lit (.bool true)], args := [d1, d2] }
  | _ => none }
def fnExactSameRoofRow : OpenClaim := { program := "ytajdcdihbklafaa", sum := "823d6ec5228967e73775f22a103984714af3bff87f95ba72ef766afcc3b90c22", func := "loop.example/g01376/laws.FnExactSameRoof", spec := "fnExactSameRoof", apart := false }
def FnExactSameRoofSaid : Prop := fnExactSameRoofRow.holds Try.pinned (OpenSpec.ofChange fnExactSameRoofSpec)

/-- ITS FALSE NEIGHBOUR: 'it returns false'. Refute it at one input. -/
def fnExactSameRoofWrong : ChangeSpec := { name := "fnExactSameRoof", fn := fun _ => fun
  | [d1, d2] => { results := [.lit (.bool false)], args := [d1, d2] }
  | _ => none }
def FnExactSameRoofWrongFalsely : Prop := fnExactSameRoofRow.holds Try.pinned (OpenSpec.ofChange fnExactSameRoofWrong)

/-- 'laws.FnExactWholeRoof': WHATEVER THE INPUT: true; the input reads as it did. -/
def fnExactWholeRoofSpec : ChangeSpec := { name := "fnExactWholeRoof", fn := fun _ => fun
  | [d1, d2, d3] => { results := [.lit (.bool true)], args := [d1, d2, d3] }
  | _ => none }
def fnExactWholeRoofRow : OpenClaim := { program := "ytajdcdihbklafaa", sum := "823d6ec5228967e73775f22a103984714af3bff87f95ba72ef766afcc3b90c22", func := "loop.example/g01376/laws.FnExactWholeRoof", spec := "fnExactWholeRoof", apart := false }
def FnExactWholeRoofSaid : Prop := fnExactWholeRoofRow.holds Try.pinned (OpenSpec.ofChange fnExactWholeRoofSpec)

/-- ITS FALSE NEIGHBOUR: 'it returns false'. Refute it at one input. -/
def fnExactWholeRoofWrong : ChangeSpec := { name := "fnExactWholeRoof", fn := fun _ => fun
  | [d1, d2, d3] => { results := [.lit (.bool false)], args := [d1, d2, d3] }
  | _ => none }
def FnExactWholeRoofWrongFalsely : Prop := fnExactWholeRoofRow.holds Try.pinned (OpenSpec.ofChange fnExactWholeRoofWrong)

/-- 'laws.FnExactKindAt': WHATEVER THE INPUT: true; the input reads as it did. -/
def fnExactKindAtSpec : ChangeSpec := { name := "fnExactKindAt", fn := fun _ => fun
  | [d1, d2] => { results := [.lit (.bool true)], args := [d1, d2] }
  | _ => none }
def fnExactKindAtRow : OpenClaim := { program := "ytajdcdihbklafaa", sum := "823d6ec5228967e73775f22a103984714af3bff87f95ba72ef766afcc3b90c22", func := "loop.example/g01376/laws.FnExactKindAt", spec := "fnExactKindAt", apart := false }
def FnExactKindAtSaid : Prop := fnExactKindAtRow.holds Try.pinned (OpenSpec.ofChange fnExactKindAtSpec)

/-- ITS FALSE NEIGHBOUR: 'it returns false'. Refute it at one input. -/
def fnExactKindAtWrong : ChangeSpec := { name := "fnExactKindAt", fn := fun _ => fun
  | [d1, d2] => { results := [.lit (.bool false)], args := [d1, d2] }
  | _ => none }
def FnExactKindAtWrongFalsely : Prop := fnExactKindAtRow.holds Try.pinned (OpenSpec.ofChange fnExactKindAtWrong)

/-- 'laws.FnExactSetTile': WHATEVER THE INPUT: true; the input reads as it did. -/
def fnExactSetTileSpec : ChangeSpec := { name := "fnExactSetTile", fn := fun _ => fun
  | [d1, d2, d3] => { results := [.lit (.bool true)], args := [d1, d2, d3] }
  | _ => none }
def fnExactSetTileRow : OpenClaim := { program := "ytajdcdihbklafaa", sum := "823d6ec5228967e73775f22a103984714af3bff87f95ba72ef766afcc3b90c22", func := "loop.example/g01376/laws.FnExactSetTile", spec := "fnExactSetTile", apart := false }
def FnExactSetTileSaid : Prop := fnExactSetTileRow.holds Try.pinned (OpenSpec.ofChange fnExactSetTileSpec)

/-- ITS FALSE NEIGHBOUR: 'it returns false'. Refute it at one input. -/
def fnExactSetTileWrong : ChangeSpec := { name := "fnExactSetTile", fn := fun _ => fun
  | [d1, d2, d3] => { results := [.lit (.bool false)], args := [d1, d2, d3] }
  | _ => none }
def FnExactSetTileWrongFalsely : Prop := fnExactSetTileRow.holds Try.pinned (OpenSpec.ofChange fnExactSetTileWrong)

/-- 'laws.FnExactIsShifted': WHATEVER THE INPUT: true; the input reads as it did. -/
def fnExactIsShiftedSpec : ChangeSpec := { name := "fnExactIsShifted", fn := fun _ => fun
  | [d1, d2] => { results := [.lit (.bool true)], args := [d1, d2] }
  | _ => none }
def fnExactIsShiftedRow : OpenClaim := { program := "ytajdcdihbklafaa", sum := "823d6ec5228967e73775f22a103984714af3bff87f95ba72ef766afcc3b90c22", func := "loop.example/g01376/laws.FnExactIsShifted", spec := "fnExactIsShifted", apart := false }
def FnExactIsShiftedSaid : Prop := fnExactIsShiftedRow.holds Try.pinned (OpenSpec.ofChange fnExactIsShiftedSpec)

/-- ITS FALSE NEIGHBOUR: 'it returns false'. Refute it at one input. -/
def fnExactIsShiftedWrong : ChangeSpec := { name := "fnExactIsShifted", fn := fun _ => fun
  | [d1, d2] => { results := [.lit (.bool false)], args := [d1, d2] }
  | _ => none }
def FnExactIsShiftedWrongFalsely : Prop := fnExactIsShiftedRow.holds Try.pinned (OpenSpec.ofChange fnExactIsShiftedWrong)

/-- 'laws.FnExactCellsOf': WHATEVER THE INPUT: true; the input reads as it did. -/
def fnExactCellsOfSpec : ChangeSpec := { name := "fnExactCellsOf", fn := fun _ => fun
  | [d1, d2] => { results := [.lit (.bool true)], args := [d1, d2] }
  | _ => none }
def fnExactCellsOfRow : OpenClaim := { program := "ytajdcdihbklafaa", sum := "823d6ec5228967e73775f22a103984714af3bff87f95ba72ef766afcc3b90c22", func := "loop.example/g01376/laws.FnExactCellsOf", spec := "fnExactCellsOf", apart := false }
def FnExactCellsOfSaid : Prop := fnExactCellsOfRow.holds Try.pinned (OpenSpec.ofChange fnExactCellsOfSpec)

/-- ITS FALSE NEIGHBOUR: 'it returns false'. Refute it at one input. -/
def fnExactCellsOfWrong : ChangeSpec := { name := "fnExactCellsOf", fn := fun _ => fun
  | [d1, d2] => { results := [.lit (.bool false)], args := [d1, d2] }
  | _ => none }
def FnExactCellsOfWrongFalsely : Prop := fnExactCellsOfRow.holds Try.pinned (OpenSpec.ofChange fnExactCellsOfWrong)

/-- 'laws.FnExactTileAt': WHATEVER THE INPUT: true; the input reads as it did. -/
def fnExactTileAtSpec : ChangeSpec := { name := "fnExactTileAt", fn := fun _ => fun
  | [d1, d2, d3] => { results := [.lit (.bool true)], args := [d1, d2, d3] }
  | _ => none }
def fnExactTileAtRow : OpenClaim := { program := "ytajdcdihbklafaa", sum := "823d6ec5228967e73775f22a103984714af3bff87f95ba72ef766afcc3b90c22", func := "loop.example/g01376/laws.FnExactTileAt", spec := "fnExactTileAt", apart := false }
def FnExactTileAtSaid : Prop := fnExactTileAtRow.holds Try.pinned (OpenSpec.ofChange fnExactTileAtSpec)

/-- ITS FALSE NEIGHBOUR: 'it returns false'. Refute it at one input. -/
def fnExactTileAtWrong : ChangeSpec := { name := "fnExactTileAt", fn := fun _ => fun
  | [d1, d2, d3] => { results := [.lit (.bool false)], args := [d1, d2, d3] }
  | _ => none }
def FnExactTileAtWrongFalsely : Prop := fnExactTileAtRow.holds Try.pinned (OpenSpec.ofChange fnExactTileAtWrong)

/-- 'laws.FnExactAboveOf': WHATEVER THE INPUT: true; the input reads as it did. -/
def fnExactAboveOfSpec : ChangeSpec := { name := "fnExactAboveOf", fn := fun _ => fun
  | [d1, d2] => { results := [.lit (.bool true)], args := [d1, d2] }
  | _ => none }
def fnExactAboveOfRow : OpenClaim := { program := "ytajdcdihbklafaa", sum := "823d6ec5228967e73775f22a103984714af3bff87f95ba72ef766afcc3b90c22", func := "loop.example/g01376/laws.FnExactAboveOf", spec := "fnExactAboveOf", apart := false }
def FnExactAboveOfSaid : Prop := fnExactAboveOfRow.holds Try.pinned (OpenSpec.ofChange fnExactAboveOfSpec)

/-- ITS FALSE NEIGHBOUR: 'it returns false'. Refute it at one input. -/
def fnExactAboveOfWrong : ChangeSpec := { name := "fnExactAboveOf", fn := fun _ => fun
  | [d1, d2] => { results := [.lit (.bool false)], args := [d1, d2] }
  | _ => none }
def FnExactAboveOfWrongFalsely : Prop := fnExactAboveOfRow.holds Try.pinned (OpenSpec.ofChange fnExactAboveOfWrong)

/-- 'laws.FnExactBelowOf': WHATEVER THE INPUT: true; the input reads as it did. -/
def fnExactBelowOfSpec : ChangeSpec := { name := "fnExactBelowOf", fn := fun _ => fun
  | [d1, d2] => { results := [.lit (.bool true)], args := [d1, d2] }
  | _ => none }
def fnExactBelowOfRow : OpenClaim := { program := "ytajdcdihbklafaa", sum := "823d6ec5228967e73775f22a103984714af3bff87f95ba72ef766afcc3b90c22", func := "loop.example/g01376/laws.FnExactBelowOf", spec := "fnExactBelowOf", apart := false }
def FnExactBelowOfSaid : Prop := fnExactBelowOfRow.holds Try.pinned (OpenSpec.ofChange fnExactBelowOfSpec)

/-- ITS FALSE NEIGHBOUR: 'it returns false'. Refute it at one input. -/
def fnExactBelowOfWrong : ChangeSpec := { name := "fnExactBelowOf", fn := fun _ => fun
  | [d1, d2] => { results := [.lit (.bool false)], args := [d1, d2] }
  | _ => none }
def FnExactBelowOfWrongFalsely : Prop := fnExactBelowOfRow.holds Try.pinned (OpenSpec.ofChange fnExactBelowOfWrong)

/-- 'laws.FnExactCutRoof': WHATEVER THE INPUT: true; the input reads as it did. -/
def fnExactCutRoofSpec : ChangeSpec := { name := "fnExactCutRoof", fn := fun _ => fun
  | [d1, d2, d3] => { results := [.lit (.bool true)], args := [d1, d2, d3] }
  | _ => none }
def fnExactCutRoofRow : OpenClaim := { program := "ytajdcdihbklafaa", sum := "823d6ec5228967e73775f22a103984714af3bff87f95ba72ef766afcc3b90c22", func := "loop.example/g01376/laws.FnExactCutRoof", spec := "fnExactCutRoof", apart := false }
def FnExactCutRoofSaid : Prop := fnExactCutRoofRow.holds Try.pinned (OpenSpec.ofChange fnExactCutRoofSpec)

/-- ITS FALSE NEIGHBOUR: 'it returns false'. Refute it at one input. -/
def fnExactCutRoofWrong : ChangeSpec := { name := "fnExactCutRoof", fn := fun _ => fun
  | [d1, d2, d3] => { results := [.lit (.bool false)], args := [d1, d2, d3] }
  | _ => none }
def FnExactCutRoofWrongFalsely : Prop := fnExactCutRoofRow.holds Try.pinned (OpenSpec.ofChange fnExactCutRoofWrong)

/-- 'laws.FnExactStackRoofs': WHATEVER THE INPUT: true; the input reads as it did. -/
def fnExactStackRoofsSpec : ChangeSpec := { name := "fnExactStackRoofs", fn := fun _ => fun
  | [d1, d2] => { results := [.lit (.bool true)], args := [d1, d2] }
  | _ => none }
def fnExactStackRoofsRow : OpenClaim := { program := "ytajdcdihbklafaa", sum := "823d6ec5228967e73775f22a103984714af3bff87f95ba72ef766afcc3b90c22", func := "loop.example/g01376/laws.FnExactStackRoofs", spec := "fnExactStackRoofs", apart := false }
def FnExactStackRoofsSaid : Prop := fnExactStackRoofsRow.holds Try.pinned (OpenSpec.ofChange fnExactStackRoofsSpec)

/-- ITS FALSE NEIGHBOUR: 'it returns false'. Refute it at one input. -/
def fnExactStackRoofsWrong : ChangeSpec := { name := "fnExactStackRoofs", fn := fun _ => fun
  | [d1, d2] => { results := [.lit (.bool false)], args := [d1, d2] }
  | _ => none }
def FnExactStackRoofsWrongFalsely : Prop := fnExactStackRoofsRow.holds Try.pinned (OpenSpec.ofChange fnExactStackRoofsWrong)

/- THE SECOND FORM. 'bulk': how many values and letters a reading holds, each counted each time it is reached (what is shared counts as often as it is met; a slice's spare places count too). A statement '..UptoSaid' is the law's where the arguments, and the package variables that the reading takes, are together of bulk at most 1048576: NARROWER than '..Said'. Prove '..Said' where nothing that the law and all that it calls make is longer than what came in: it says more and counts as full. Else prove '..UptoSaid'. A law counts once. -/
mutual
def uptoBulk {H : Type} : DataW H → Nat
  | .lit (.string bytes) => bytes.length + 1
  | .lit _ => 1
  | .nil => 1
  | .ptr d => uptoBulk d + 1
  | .slice elems spare => uptoBulkAll elems + uptoBulkAll spare + 1
  | .agg parts => uptoBulkAll parts + 1
  | .iface _ d => uptoBulk d + 1
  | .map entries => uptoBulkEntries entries + 1
  | .held _ => 1
def uptoBulkAll {H : Type} : List (DataW H) → Nat
  | [] => 0
  | d :: r => uptoBulk d + uptoBulkAll r
def uptoBulkEntries {H : Type} : List (Lit × DataW H) → Nat
  | [] => 0
  | x :: r => uptoBulkEntry x + uptoBulkEntries r
def uptoBulkEntry {H : Type} : Lit × DataW H → Nat
  | (.string bytes, d) => bytes.length + uptoBulk d + 1
  | (_, d) => uptoBulk d + 1
 end
def uptoSmall : (H : Type) → List (DataW H) → Bool := fun _ ds => decide (uptoBulkAll ds ≤ 1048576)
def OpenSpec.upto (s : _root_.Go.ChangeSpec) : _root_.Go.OpenSpec := { _root_.Go.OpenSpec.ofChange s with cond := some uptoSmall }

/-- 'laws.FnExactValidRoof', WHERE WHAT IT READS IS OF BULK AT MOST 1048576: true; the input reads as it did. -/
def fnExactValidRoofUptoRow : OpenClaim := { program := "ytajdcdihbklafaa", sum := "823d6ec5228967e73775f22a103984714af3bff87f95ba72ef766afcc3b90c22", func := "loop.example/g01376/laws.FnExactValidRoof", spec := "fnExactValidRoof", apart := false, narrowed := true }
def FnExactValidRoofUptoSaid : Prop := fnExactValidRoofUptoRow.holds Try.pinned (OpenSpec.upto fnExactValidRoofSpec)

/-- 'laws.FnExactSameRoof', WHERE WHAT IT READS IS OF BULK AT MOST 1048576: true; the input reads as it did. -/
def fnExactSameRoofUptoRow : OpenClaim := { program := "ytajdcdihbklafaa", sum := "823d6ec5228967e73775f22a103984714af3bff87f95ba72ef766afcc3b90c22", func := "loop.example/g01376/laws.FnExactSameRoof", spec := "fnExactSameRoof", apart := false, narrowed := true }
def FnExactSameRoofUptoSaid : Prop := fnExactSameRoofUptoRow.holds Try.pinned (OpenSpec.upto fnExactSameRoofSpec)

/-- 'laws.FnExactWholeRoof', WHERE WHAT IT READS IS OF BULK AT MOST 1048576: true; the input reads as it did. -/
def fnExactWholeRoofUptoRow : OpenClaim := { program := "ytajdcdihbklafaa", sum := "823d6ec5228967e73775f22a103984714af3bff87f95ba72ef766afcc3b90c22", func := "loop.example/g01376/laws.FnExactWholeRoof", spec := "fnExactWholeRoof", apart := false, narrowed := true }
def FnExactWholeRoofUptoSaid : Prop := fnExactWholeRoofUptoRow.holds Try.pinned (OpenSpec.upto fnExactWholeRoofSpec)

/-- 'laws.FnExactKindAt', WHERE WHAT IT READS IS OF BULK AT MOST 1048576: true; the input reads as it did. -/
def fnExactKindAtUptoRow : OpenClaim := { program := "ytajdcdihbklafaa", sum := "823d6ec5228967e73775f22a103984714af3bff87f95ba72ef766afcc3b90c22", func := "loop.example/g01376/laws.FnExactKindAt", spec := "fnExactKindAt", apart := false, narrowed := true }
def FnExactKindAtUptoSaid : Prop := fnExactKindAtUptoRow.holds Try.pinned (OpenSpec.upto fnExactKindAtSpec)

/-- 'laws.FnExactSetTile', WHERE WHAT IT READS IS OF BULK AT MOST 1048576: true; the input reads as it did. -/
def fnExactSetTileUptoRow : OpenClaim := { program := "ytajdcdihbklafaa", sum := "823d6ec5228967e73775f22a103984714af3bff87f95ba72ef766afcc3b90c22", func := "loop.example/g01376/laws.FnExactSetTile", spec := "fnExactSetTile", apart := false, narrowed := true }
def FnExactSetTileUptoSaid : Prop := fnExactSetTileUptoRow.holds Try.pinned (OpenSpec.upto fnExactSetTileSpec)

/-- 'laws.FnExactIsShifted', WHERE WHAT IT READS IS OF BULK AT MOST 1048576: true; the input reads as it did. -/
def fnExactIsShiftedUptoRow : OpenClaim := { program := "ytajdcdihbklafaa", sum := "823d6ec5228967e73775f22a103984714af3bff87f95ba72ef766afcc3b90c22", func := "loop.example/g01376/laws.FnExactIsShifted", spec := "fnExactIsShifted", apart := false, narrowed := true }
def FnExactIsShiftedUptoSaid : Prop := fnExactIsShiftedUptoRow.holds Try.pinned (OpenSpec.upto fnExactIsShiftedSpec)

/-- 'laws.FnExactCellsOf', WHERE WHAT IT READS IS OF BULK AT MOST 1048576: true; the input reads as it did. -/
def fnExactCellsOfUptoRow : OpenClaim := { program := "ytajdcdihbklafaa", sum := "823d6ec5228967e73775f22a103984714af3bff87f95ba72ef766afcc3b90c22", func := "loop.example/g01376/laws.FnExactCellsOf", spec := "fnExactCellsOf", apart := false, narrowed := true }
def FnExactCellsOfUptoSaid : Prop := fnExactCellsOfUptoRow.holds Try.pinned (OpenSpec.upto fnExactCellsOfSpec)

/-- 'laws.FnExactTileAt', WHERE WHAT IT READS IS OF BULK AT MOST 1048576: true; the input reads as it did. -/
def fnExactTileAtUptoRow : OpenClaim := { program := "ytajdcdihbklafaa", sum := "823d6ec5228967e73775f22a103984714af3bff87f95ba72ef766afcc3b90c22", func := "loop.example/g01376/laws.FnExactTileAt", spec := "fnExactTileAt", apart := false, narrowed := true }
def FnExactTileAtUptoSaid : Prop := fnExactTileAtUptoRow.holds Try.pinned (OpenSpec.upto fnExactTileAtSpec)

/-- 'laws.FnExactAboveOf', WHERE WHAT IT READS IS OF BULK AT MOST 1048576: true; the input reads as it did. -/
def fnExactAboveOfUptoRow : OpenClaim := { program := "ytajdcdihbklafaa", sum := "823d6ec5228967e73775f22a103984714af3bff87f95ba72ef766afcc3b90c22", func := "loop.example/g01376/laws.FnExactAboveOf", spec := "fnExactAboveOf", apart := false, narrowed := true }
def FnExactAboveOfUptoSaid : Prop := fnExactAboveOfUptoRow.holds Try.pinned (OpenSpec.upto fnExactAboveOfSpec)

/-- 'laws.FnExactBelowOf', WHERE WHAT IT READS IS OF BULK AT MOST 1048576: true; the input reads as it did. -/
def fnExactBelowOfUptoRow : OpenClaim := { program := "ytajdcdihbklafaa", sum := "823d6ec5228967e73775f22a103984714af3bff87f95ba72ef766afcc3b90c22", func := "loop.example/g01376/laws.FnExactBelowOf", spec := "fnExactBelowOf", apart := false, narrowed := true }
def FnExactBelowOfUptoSaid : Prop := fnExactBelowOfUptoRow.holds Try.pinned (OpenSpec.upto fnExactBelowOfSpec)

/-- 'laws.FnExactCutRoof', WHERE WHAT IT READS IS OF BULK AT MOST 1048576: true; the input reads as it did. -/
def fnExactCutRoofUptoRow : OpenClaim := { program := "ytajdcdihbklafaa", sum := "823d6ec5228967e73775f22a103984714af3bff87f95ba72ef766afcc3b90c22", func := "loop.example/g01376/laws.FnExactCutRoof", spec := "fnExactCutRoof", apart := false, narrowed := true }
def FnExactCutRoofUptoSaid : Prop := fnExactCutRoofUptoRow.holds Try.pinned (OpenSpec.upto fnExactCutRoofSpec)

/-- 'laws.FnExactStackRoofs', WHERE WHAT IT READS IS OF BULK AT MOST 1048576: true; the input reads as it did. -/
def fnExactStackRoofsUptoRow : OpenClaim := { program := "ytajdcdihbklafaa", sum := "823d6ec5228967e73775f22a103984714af3bff87f95ba72ef766afcc3b90c22", func := "loop.example/g01376/laws.FnExactStackRoofs", spec := "fnExactStackRoofs", apart := false, narrowed := true }
def FnExactStackRoofsUptoSaid : Prop := fnExactStackRoofsUptoRow.holds Try.pinned (OpenSpec.upto fnExactStackRoofsSpec)

end Rows
end Go.Proofs.Ytajdcdihbklafaa
