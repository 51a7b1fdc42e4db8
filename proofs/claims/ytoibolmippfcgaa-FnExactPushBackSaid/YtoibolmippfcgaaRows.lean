/-
  No cell of these rows narrows 'for every input' (looked for: loops, veiled, ifaces, maps, wideKeys, modest, calm, conditions, laid).
  DERIVED. THE GIVEN ROWS OF THIS SEAT. 9 by the template 'for every input the law returns true; each argument reads behind the call as it read before'; 0 by the template 'total and deterministic' (their statements: YtoibolmippfcgaaTotals.lean).
  GIVEN WITH THE SEED: the statements are not yours to turn. If you find one false, say at which input.
  Laid BY PROGRAM, IN A SANDBOX (cutbox-rows.mjs): the forced cells as the released guide's own fill.sh prints them over the translation 1146691af6ec72b8… (all of the seat's roots in one cut). By AI agents, Wed Nov 11 2026. No macro, syntax, notation, axiom, sorry.
-/
import Derived.Test.YtoibolmippfcgaaChecked
import GoSem.Claim
import GoSem.ClaimJoined
import GoSem.ClaimMapViews
import Derived.JoinedTies
import Derived.KernelRfl
namespace Go.Proofs.Ytoibolmippfcgaa
/- THE CELL 'sum', in the pinned program and in every row, IS THE sha256 OF THE DUMP (.gsa) THAT YtoibolmippfcgaaProg.lean LOADS. Nothing in Lean hashes anything: it is a label: what it is worth is what the hold of that sum in a sandbox is worth. -/
noncomputable def Try.pinned : Pinned := { name := "ytoibolmippfcgaa", sum := "1146691af6ec72b8d61f2ecbcc3a6e2e513d59aa0caec04a912d5fba397b13ea", checked := Try.checked }
namespace Rows
def none {H : Type} : Left H := { results := [], args := [] }

/-- 'laws.FnExactCountKind': WHATEVER THE INPUT: true; the input reads as it did. -/
def fnExactCountKindSpec : ChangeSpec := { name := "fnExactCountKind", fn := fun _ => fun
  | [d1, d2] => { results := [.lit (.bool true)], args := [d1, d2] }
  | _ => none }
def fnExactCountKindRow : OpenClaim := { program := "ytoibolmippfcgaa", sum := "1146691af6ec72b8d61f2ecbcc3a6e2e513d59aa0caec04a912d5fba397b13ea", func := "loop.example/g01376/laws.FnExactCountKind", spec := "fnExactCountKind", unfollowed := true, recurses := true, apart := false }
def FnExactCountKindSaid : Prop := fnExactCountKindRow.holds Try.pinned (OpenSpec.ofChange fnExactCountKindSpec)

/-- ITS FALSE NEIGHBOUR: 'it returns false'. Refute it at one input. -/
def fnExactCountKindWrong : ChangeSpec := { name := "fnExactCountKind", fn := fun _ => fun
  | [d1, d2] => { results := [.lit (.bool false)], args := [d1, d2] }
  | _ => none }
def FnExactCountKindWrongFalsely : Prop := fnExactCountKindRow.holds Try.pinned (OpenSpec.ofChange fnExactCountKindWrong)

/-- 'laws.FnExactTilesOf': WHATEVER THE INPUT: true; the input reads as it did. -/
def fnExactTilesOfSpec : ChangeSpec := { name := "fnExactTilesOf", fn := fun _ => fun
  | [d1, d2] => { results := [.lit (.bool true)], args := [d1, d2] }
  | _ => none }
def fnExactTilesOfRow : OpenClaim := { program := "ytoibolmippfcgaa", sum := "1146691af6ec72b8d61f2ecbcc3a6e2e513d59aa0caec04a912d5fba397b13ea", func := "loop.example/g01376/laws.FnExactTilesOf", spec := "fnExactTilesOf", unfollowed := true, recurses := true, apart := false }
def FnExactTilesOfSaid : Prop := fnExactTilesOfRow.holds Try.pinned (OpenSpec.ofChange fnExactTilesOfSpec)

/-- ITS FALSE NEIGHBOUR: 'it returns false'. Refute it at one input. -/
def fnExactTilesOfWrong : ChangeSpec := { name := "fnExactTilesOf", fn := fun _ => fun
  | [d1, d2] => { results := [.lit (.bool false)], args := [d1, d2] }
  | _ => none }
def FnExactTilesOfWrongFalsely : Prop := fnExactTilesOfRow.holds Try.pinned (OpenSpec.ofChange fnExactTilesOfWrong)

/-- 'laws.FnExactMendAll': WHATEVER THE INPUT: true; the input reads as it did. -/
def fnExactMendAllSpec : ChangeSpec := { name := "fnExactMendAll", fn := fun _ => fun
  | [d] => { results := [.lit (.bool true)], args := [d] }
  | _ => none }
def fnExactMendAllRow : OpenClaim := { program := "ytoibolmippfcgaa", sum := "1146691af6ec72b8d61f2ecbcc3a6e2e513d59aa0caec04a912d5fba397b13ea", func := "loop.example/g01376/laws.FnExactMendAll", spec := "fnExactMendAll", unfollowed := true, recurses := true, apart := false }
def FnExactMendAllSaid : Prop := fnExactMendAllRow.holds Try.pinned (OpenSpec.ofChange fnExactMendAllSpec)

/-- ITS FALSE NEIGHBOUR: 'it returns false'. Refute it at one input. -/
def fnExactMendAllWrong : ChangeSpec := { name := "fnExactMendAll", fn := fun _ => fun
  | [d] => { results := [.lit (.bool false)], args := [d] }
  | _ => none }
def FnExactMendAllWrongFalsely : Prop := fnExactMendAllRow.holds Try.pinned (OpenSpec.ofChange fnExactMendAllWrong)

/-- 'laws.FnExactDifferIn': WHATEVER THE INPUT: true; the input reads as it did. -/
def fnExactDifferInSpec : ChangeSpec := { name := "fnExactDifferIn", fn := fun _ => fun
  | [d1, d2] => { results := [.lit (.bool true)], args := [d1, d2] }
  | _ => none }
def fnExactDifferInRow : OpenClaim := { program := "ytoibolmippfcgaa", sum := "1146691af6ec72b8d61f2ecbcc3a6e2e513d59aa0caec04a912d5fba397b13ea", func := "loop.example/g01376/laws.FnExactDifferIn", spec := "fnExactDifferIn", unfollowed := true, recurses := true, apart := false }
def FnExactDifferInSaid : Prop := fnExactDifferInRow.holds Try.pinned (OpenSpec.ofChange fnExactDifferInSpec)

/-- ITS FALSE NEIGHBOUR: 'it returns false'. Refute it at one input. -/
def fnExactDifferInWrong : ChangeSpec := { name := "fnExactDifferIn", fn := fun _ => fun
  | [d1, d2] => { results := [.lit (.bool false)], args := [d1, d2] }
  | _ => none }
def FnExactDifferInWrongFalsely : Prop := fnExactDifferInRow.holds Try.pinned (OpenSpec.ofChange fnExactDifferInWrong)

/-- 'laws.FnExactWetTiles': WHATEVER THE INPUT: true; the input reads as it did. -/
def fnExactWetTilesSpec : ChangeSpec := { name := "fnExactWetTiles", fn := fun _ => fun
  | [d1, d2] => { results := [.lit (.bool true)], args := [d1, d2] }
  | _ => none }
def fnExactWetTilesRow : OpenClaim := { program := "ytoibolmippfcgaa", sum := "1146691af6ec72b8d61f2ecbcc3a6e2e513d59aa0caec04a912d5fba397b13ea", func := "loop.example/g01376/laws.FnExactWetTiles", spec := "fnExactWetTiles", unfollowed := true, recurses := true, apart := false }
def FnExactWetTilesSaid : Prop := fnExactWetTilesRow.holds Try.pinned (OpenSpec.ofChange fnExactWetTilesSpec)

/-- ITS FALSE NEIGHBOUR: 'it returns false'. Refute it at one input. -/
def fnExactWetTilesWrong : ChangeSpec := { name := "fnExactWetTiles", fn := fun _ => fun
  | [d1, d2] => { results := [.lit (.bool false)], args := [d1, d2] }
  | _ => none }
def FnExactWetTilesWrongFalsely : Prop := fnExactWetTilesRow.holds Try.pinned (OpenSpec.ofChange fnExactWetTilesWrong)

/-- 'laws.FnExactDryTiles': WHATEVER THE INPUT: true; the input reads as it did. -/
def fnExactDryTilesSpec : ChangeSpec := { name := "fnExactDryTiles", fn := fun _ => fun
  | [d1, d2] => { results := [.lit (.bool true)], args := [d1, d2] }
  | _ => none }
def fnExactDryTilesRow : OpenClaim := { program := "ytoibolmippfcgaa", sum := "1146691af6ec72b8d61f2ecbcc3a6e2e513d59aa0caec04a912d5fba397b13ea", func := "loop.example/g01376/laws.FnExactDryTiles", spec := "fnExactDryTiles", unfollowed := true, recurses := true, apart := false }
def FnExactDryTilesSaid : Prop := fnExactDryTilesRow.holds Try.pinned (OpenSpec.ofChange fnExactDryTilesSpec)

/-- ITS FALSE NEIGHBOUR: 'it returns false'. Refute it at one input. -/
def fnExactDryTilesWrong : ChangeSpec := { name := "fnExactDryTiles", fn := fun _ => fun
  | [d1, d2] => { results := [.lit (.bool false)], args := [d1, d2] }
  | _ => none }
def FnExactDryTilesWrongFalsely : Prop := fnExactDryTilesRow.holds Try.pinned (OpenSpec.ofChange fnExactDryTilesWrong)

/-- 'laws.FnExactReachFrom': WHATEVER THE INPUT: true; the input reads as it did. -/
def fnExactReachFromSpec : ChangeSpec := { name := "fnExactReachFrom", fn := fun _ => fun
  | [d1, d2, d3] => { results := [.lit (.bool true)], args := [d1, d2, d3] }
  | _ => none }
def fnExactReachFromRow : OpenClaim := { program := "ytoibolmippfcgaa", sum := "1146691af6ec72b8d61f2ecbcc3a6e2e513d59aa0caec04a912d5fba397b13ea", func := "loop.example/g01376/laws.FnExactReachFrom", spec := "fnExactReachFrom", unfollowed := true, recurses := true, apart := false }
def FnExactReachFromSaid : Prop := fnExactReachFromRow.holds Try.pinned (OpenSpec.ofChange fnExactReachFromSpec)

/-- ITS FALSE NEIGHBOUR: 'it returns false'. Refute it at one input. -/
def fnExactReachFromWrong : ChangeSpec := { name := "fnExactReachFrom", fn := fun _ => fun
  | [d1, d2, d3] => { results := [.lit (.bool false)], args := [d1, d2, d3] }
  | _ => none }
def FnExactReachFromWrongFalsely : Prop := fnExactReachFromRow.holds Try.pinned (OpenSpec.ofChange fnExactReachFromWrong)

/-- 'laws.FnExactPushBack': WHATEVER THE INPUT: true; the input reads as it did. -/
def fnExactPushBackSpec : ChangeSpec := { name := "fnExactPushBack", fn := fun _ => fun
  | [d1, d2, d3] => { results := [.lit (.bool true)], args := [d1, d2, d3] }
  | _ => none }
def fnExactPushBackRow : OpenClaim := { program := "ytoibolmippfcgaa", sum := "1146691af6ec72b8d61f2ecbcc3a6e2e513d59aa0caec04a912d5fba397b13ea", func := "loop.example/g01376/laws.FnExactPushBack", spec := "fnExactPushBack", unfollowed := true, recurses := true, apart := false }
def FnExactPushBackSaid : Prop := fnExactPushBackRow.holds Try.pinned (OpenSpec.ofChange fnExactPushBackSpec)

/-- ITS FALSE NEIGHBOUR: 'it returns false'. Refute it at one input. -/
def fnExactPushBackWrong : ChangeSpec := { name := "fnExactPushBack", fn := fun _ => fun
  | [d1, d2, d3] => { results := [.lit (.bool false)], args := [d1, d2, d3] }
  | _ => none }
def FnExactPushBackWrongFalsely : Prop := fnExactPushBackRow.holds Try.pinned (OpenSpec.ofChange fnExactPushBackWrong)

/-- 'laws.FnExactTilesNeeded': WHATEVER THE INPUT: true; the input reads as it did. -/
def fnExactTilesNeededSpec : ChangeSpec := { name := "fnExactTilesNeeded", fn := fun _ => fun
  | [d1, d2, d3] => { results := [.lit (.bool true)], args := [d1, d2, d3] }
  | _ => none }
def fnExactTilesNeededRow : OpenClaim := { program := "ytoibolmippfcgaa", sum := "1146691af6ec72b8d61f2ecbcc3a6e2e513d59aa0caec04a912d5fba397b13ea", func := "loop.example/g01376/laws.FnExactTilesNeeded", spec := "fnExactTilesNeeded", unfollowed := true, recurses := true, apart := false }
def FnExactTilesNeededSaid : Prop := fnExactTilesNeededRow.holds Try.pinned (OpenSpec.ofChange fnExactTilesNeededSpec)

/-- ITS FALSE NEIGHBOUR: 'it returns false'. Refute it at one input. -/
def fnExactTilesNeededWrong : ChangeSpec := { name := "fnExactTilesNeeded", fn := fun _ => fun
  | [d1, d2, d3] => { results := [.lit (.bool false)], args := [d1, d2, d3] }
  | _ => none }
def FnExactTilesNeededWrongFalsely : Prop := fnExactTilesNeededRow.holds Try.pinned (OpenSpec.ofChange fnExactTilesNeededWrong)

/- THE SECOND FORM. 'bulk': how many values and letters a reading holds, each counted each time it is reached (what is shared counts as often as it is met; a slice's spare places count too). A statement '..UptoSaid' is the law's where the arguments, and the package variables that the reading takes, are together of bulk at most 1048576: NARROWER than '..Said'. Prove '..Said' where nothing that the law and all that it calls make is longer than what came in: it says more and counts as full. Else prove '..UptoSaid'. A law counts once. -/
mutual
def uptoBulk {H : Type} : DataW H → Nat
  | .lit (.string bytes) => bytes.length + 1
  | .lit _ => 1
  | .nil => 1
  | .ptr d => uptoBulk d + 1
  | .slice elems spare => uptoBulkAll elems + uptoBulkAll spare + 1
  | .agg parts => uptoBulkAll parts + 1
  | .iface _ d => uptoBulk d + 1
  | .map entries => uptoBulkEntries entries + 1
  | .held _ => 1
def uptoBulkAll {H : Type} : List (DataW H) → Nat
  | [] => 0
  | d :: r => uptoBulk d + uptoBulkAll r
def uptoBulkEntries {H : Type} : List (Lit × DataW H) → Nat
  | [] => 0
  | x :: r => uptoBulkEntry x + uptoBulkEntries r
def uptoBulkEntry {H : Type} : Lit × DataW H → Nat
  | (.string bytes, d) => bytes.length + uptoBulk d + 1
  | (_, d) => uptoBulk d + 1
 end
def uptoSmall : (H : Type) → List (DataW H) → Bool := fun _ ds => decide (uptoBulkAll ds ≤ 1048576)
def OpenSpec.upto (s : _root_.Go.ChangeSpec) : _root_.Go.OpenSpec := { _root_.Go.OpenSpec.ofChange s with cond := some uptoSmall }

/-- 'laws.FnExactCountKind', WHERE WHAT IT READS IS OF BULK AT MOST 1048576: true; the input reads as it did. -/
def fnExactCountKindUptoRow : OpenClaim := { program := "ytoibolmippfcgaa", sum := "1146691af6ec72b8d61f2ecbcc3a6e2e513d59aa0caec04a912d5fba397b13ea", func := "loop.example/g01376/laws.FnExactCountKind", spec := "fnExactCountKind", unfollowed := true, recurses := true, apart := false, narrowed := true }
def FnExactCountKindUptoSaid : Prop := fnExactCountKindUptoRow.holds Try.pinned (OpenSpec.upto fnExactCountKindSpec)

/-- 'laws.FnExactTilesOf', WHERE WHAT IT READS IS OF BULK AT MOST 1048576: true; the input reads as it did. -/
def fnExactTilesOfUptoRow : OpenClaim := { program := "ytoibolmippfcgaa", sum := "1146691af6ec72b8d61f2ecbcc3a6e2e513d59aa0caec04a912d5fba397b13ea", func := "loop.example/g01376/laws.FnExactTilesOf", spec := "fnExactTilesOf", unfollowed := true, recurses := true, apart := false, narrowed := true }
def FnExactTilesOfUptoSaid : Prop := fnExactTilesOfUptoRow.holds Try.pinned (OpenSpec.upto fnExactTilesOfSpec)

/-- 'laws.FnExactMendAll', WHERE WHAT IT READS IS OF BULK AT MOST 1048576: true; the input reads as it did. -/
def fnExactMendAllUptoRow : OpenClaim := { program := "ytoibolmippfcgaa", sum := "1146691af6ec72b8d61f2ecbcc3a6e2e513d59aa0caec04a912d5fba397b13ea", func := "loop.example/g01376/laws.FnExactMendAll", spec := "fnExactMendAll", unfollowed := true, recurses := true, apart := false, narrowed := true }
def FnExactMendAllUptoSaid : Prop := fnExactMendAllUptoRow.holds Try.pinned (OpenSpec.upto fnExactMendAllSpec)

/-- 'laws.FnExactDifferIn', WHERE WHAT IT READS IS OF BULK AT MOST 1048576: true; the input reads as it did. -/
def fnExactDifferInUptoRow : OpenClaim := { program := "ytoibolmippfcgaa", sum := "1146691af6ec72b8d61f2ecbcc3a6e2e513d59aa0caec04a912d5fba397b13ea", func := "loop.example/g01376/laws.FnExactDifferIn", spec := "fnExactDifferIn", unfollowed := true, recurses := true, apart := false, narrowed := true }
def FnExactDifferInUptoSaid : Prop := fnExactDifferInUptoRow.holds Try.pinned (OpenSpec.upto fnExactDifferInSpec)

/-- 'laws.FnExactWetTiles', WHERE WHAT IT READS IS OF BULK AT MOST 1048576: true; the input reads as it did. -/
def fnExactWetTilesUptoRow : OpenClaim := { program := "ytoibolmippfcgaa", sum := "1146691af6ec72b8d61f2ecbcc3a6e2e513d59aa0caec04a912d5fba397b13ea", func := "loop.example/g01376/laws.FnExactWetTiles", spec := "fnExactWetTiles", unfollowed := true, recurses := true, apart := false, narrowed := true }
def FnExactWetTilesUptoSaid : Prop := fnExactWetTilesUptoRow.holds Try.pinned (OpenSpec.upto fnExactWetTilesSpec)

/-- 'laws.FnExactDryTiles', WHERE WHAT IT READS IS OF BULK AT MOST 1048576: true; the input reads as it did. -/
def fnExactDryTilesUptoRow : OpenClaim := { program := "ytoibolmippfcgaa", sum := "1146691af6ec72b8d61f2ecbcc3a6e2e513d59aa0caec04a912d5fba397b13ea", func := "loop.example/g01376/laws.FnExactDryTiles", spec := "fnExactDryTiles", unfollowed := true, recurses := true, apart := false, narrowed := true }
def FnExactDryTilesUptoSaid : Prop := fnExactDryTilesUptoRow.holds Try.pinned (OpenSpec.upto fnExactDryTilesSpec)

/-- 'laws.FnExactReachFrom', WHERE WHAT IT READS IS OF BULK AT MOST 1048576: true; the input reads as it did. -/
def fnExactReachFromUptoRow : OpenClaim := { program := "ytoibolmippfcgaa", sum := "1146691af6ec72b8d61f2ecbcc3a6e2e513d59aa0caec04a912d5fba397b13ea", func := "loop.example/g01376/laws.FnExactReachFrom", spec := "fnExactReachFrom", unfollowed := true, recurses := true, apart := false, narrowed := true }
def FnExactReachFromUptoSaid : Prop := fnExactReachFromUptoRow.holds Try.pinned (OpenSpec.upto fnExactReachFromSpec)

/-- 'laws.FnExactPushBack', WHERE WHAT IT READS IS OF BULK AT MOST 1048576: true; the input reads as it did. -/
def fnExactPushBackUptoRow : OpenClaim := { program := "ytoibolmippfcgaa", sum := "1146691af6ec72b8d61f2ecbcc3a6e2e513d59aa0caec04a912d5fba397b13ea", func := "loop.example/g01376/laws.FnExactPushBack", spec := "fnExactPushBack", unfollowed := true, recurses := true, apart := false, narrowed := true }
def FnExactPushBackUptoSaid : Prop := fnExactPushBackUptoRow.holds Try.pinned (OpenSpec.upto fnExactPushBackSpec)

/-- 'laws.FnExactTilesNeeded', WHERE WHAT IT READS IS OF BULK AT MOST 1048576: true; the input reads as it did. -/
def fnExactTilesNeededUptoRow : OpenClaim := { program := "ytoibolmippfcgaa", sum := "1146691af6ec72b8d61f2ecbcc3a6e2e513d59aa0caec04a912d5fba397b13ea", func := "loop.example/g01376/laws.FnExactTilesNeeded", spec := "fnExactTilesNeeded", unfollowed := true, recurses := true, apart := false, narrowed := true }
def FnExactTilesNeededUptoSaid : Prop := fnExactTilesNeededUptoRow.holds Try.pinned (OpenSpec.upto fnExactTilesNeededSpec)

end Rows
end Go.Proofs.Ytoibolmippfcgaa
