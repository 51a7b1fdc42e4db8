/-
  DERIVED. GIVEN WITH THE SEED: THE CARDS: each row of YtcdobpnejbfbpaaDoorRows.lean that lists a variable, with what it lists TIED to the program's text (the seventh form; the later family's looks); each row that meets fmt, with fmt's text TOLD by the authors' own Lean function (tested against real Go, not proved from fmt's source: count such statements apart). THE CARD IS WHAT COUNTS. Prove the row's statement (the work); the ties are given (YtcdobpnejbfbpaaDoorTie.lean); close each card by the builder's one call (the guide's Derived/Test/ToyasCard.lean, 'card_holds'). Laid BY PROGRAM, IN A SANDBOX (cutbox-door.mjs). By AI agents, Wed Nov 11 2026. No macro, syntax, notation, axiom, sorry.
-/
import Derived.Test.YtcdobpnejbfbpaaDoorRows
import GoSem.ClaimSeven
namespace Go.Proofs.YtcdobpnejbfbpaaDoor
namespace Rows

/-- THE TIED CARD OF 'laws.FnExactLater'. -/
def fnExactLaterCard : Claim7 := { stood := { row := fnExactLaterRow, standIns := [], harness := (true, "8e1f9504b6bdb3337dd52cf0128f604c13ed4f7ebf5e3a8470fdd63021946329"), looks := true }, kinds := [], alts := [], laidByText := true, laidKinds := [.handle], laidTests := true, laidLooks := .later }
def FnExactLaterCardSaid : Prop := Claim7.holds Tryd.pinned (.plain (OpenSpec.ofChange fnExactLaterSpec)) fnExactLaterCard

/-- THE TIED CARD OF 'laws.FnExactOldestOf'. -/
def fnExactOldestOfCard : Claim7 := { stood := { row := fnExactOldestOfRow, standIns := [], harness := (true, "8e1f9504b6bdb3337dd52cf0128f604c13ed4f7ebf5e3a8470fdd63021946329"), looks := true }, kinds := [], alts := [], laidByText := true, laidKinds := [.handle], laidTests := true, laidLooks := .later }
def FnExactOldestOfCardSaid : Prop := Claim7.holds Tryd.pinned (.plain (OpenSpec.ofChange fnExactOldestOfSpec)) fnExactOldestOfCard

/-- THE TIED CARD OF 'laws.FnExactTooOld'. -/
def fnExactTooOldCard : Claim7 := { stood := { row := fnExactTooOldRow, standIns := [], harness := (true, "8e1f9504b6bdb3337dd52cf0128f604c13ed4f7ebf5e3a8470fdd63021946329"), looks := true }, kinds := [], alts := [], laidByText := true, laidKinds := [.handle], laidTests := true, laidLooks := .later }
def FnExactTooOldCardSaid : Prop := Claim7.holds Tryd.pinned (.plain (OpenSpec.ofChange fnExactTooOldSpec)) fnExactTooOldCard

/-- THE TIED CARD OF 'laws.FnExactBreakRoof'. -/
def fnExactBreakRoofCard : Claim7 := { stood := { row := fnExactBreakRoofRow, standIns := [], harness := (true, "8e1f9504b6bdb3337dd52cf0128f604c13ed4f7ebf5e3a8470fdd63021946329"), looks := true }, kinds := [], alts := [], laidByText := true, laidKinds := [.handle], laidTests := true, laidLooks := .later }
def FnExactBreakRoofCardSaid : Prop := Claim7.holds Tryd.pinned (.plain (OpenSpec.ofChange fnExactBreakRoofSpec)) fnExactBreakRoofCard

/-- THE TIED CARD OF 'laws.FnExactFirstBreak'. -/
def fnExactFirstBreakCard : Claim7 := { stood := { row := fnExactFirstBreakRow, standIns := [], harness := (true, "8e1f9504b6bdb3337dd52cf0128f604c13ed4f7ebf5e3a8470fdd63021946329"), looks := true }, kinds := [], alts := [], laidByText := true, laidKinds := [.handle], laidTests := true, laidLooks := .later }
def FnExactFirstBreakCardSaid : Prop := Claim7.holds Tryd.pinned (.plain (OpenSpec.ofChange fnExactFirstBreakSpec)) fnExactFirstBreakCard

/-- THE TIED CARD OF 'laws.FnExactVisitsFor'. -/
def fnExactVisitsForCard : Claim7 := { stood := { row := fnExactVisitsForRow, standIns := [], harness := (true, "8e1f9504b6bdb3337dd52cf0128f604c13ed4f7ebf5e3a8470fdd63021946329"), looks := true }, kinds := [], alts := [], laidByText := true, laidKinds := [.handle], laidTests := true, laidLooks := .later }
def FnExactVisitsForCardSaid : Prop := Claim7.holds Tryd.pinned (.plain (OpenSpec.ofChange fnExactVisitsForSpec)) fnExactVisitsForCard

/-- THE TIED CARD OF 'laws.FnExactReplacedAt'. -/
def fnExactReplacedAtCard : Claim7 := { stood := { row := fnExactReplacedAtRow, standIns := [], harness := (true, "8e1f9504b6bdb3337dd52cf0128f604c13ed4f7ebf5e3a8470fdd63021946329"), looks := true }, kinds := [], alts := [], laidByText := true, laidKinds := [.handle], laidTests := true, laidLooks := .later }
def FnExactReplacedAtCardSaid : Prop := Claim7.holds Tryd.pinned (.plain (OpenSpec.ofChange fnExactReplacedAtSpec)) fnExactReplacedAtCard

/-- THE TIED CARD OF 'laws.FnExactCheckVisits'. -/
def fnExactCheckVisitsCard : Claim7 := { stood := { row := fnExactCheckVisitsRow, standIns := [], harness := (true, "8e1f9504b6bdb3337dd52cf0128f604c13ed4f7ebf5e3a8470fdd63021946329"), looks := true }, kinds := [], alts := [], laidByText := true, laidKinds := [.handle], laidTests := true, laidLooks := .later }
def FnExactCheckVisitsCardSaid : Prop := Claim7.holds Tryd.pinned (.plain (OpenSpec.ofChange fnExactCheckVisitsSpec)) fnExactCheckVisitsCard

/-- THE SECOND FORM's CARD OF 'laws.FnExactLater'. -/
def fnExactLaterUptoCard : Claim7 := { stood := { row := fnExactLaterUptoRow, standIns := [], harness := (true, "8e1f9504b6bdb3337dd52cf0128f604c13ed4f7ebf5e3a8470fdd63021946329"), looks := true }, kinds := [], alts := [], laidByText := true, laidKinds := [.handle], laidTests := true, laidLooks := .later }
def FnExactLaterUptoCardSaid : Prop := Claim7.holds Tryd.pinned (.plain (OpenSpec.upto fnExactLaterSpec)) fnExactLaterUptoCard

/-- THE SECOND FORM's CARD OF 'laws.FnExactOldestOf'. -/
def fnExactOldestOfUptoCard : Claim7 := { stood := { row := fnExactOldestOfUptoRow, standIns := [], harness := (true, "8e1f9504b6bdb3337dd52cf0128f604c13ed4f7ebf5e3a8470fdd63021946329"), looks := true }, kinds := [], alts := [], laidByText := true, laidKinds := [.handle], laidTests := true, laidLooks := .later }
def FnExactOldestOfUptoCardSaid : Prop := Claim7.holds Tryd.pinned (.plain (OpenSpec.upto fnExactOldestOfSpec)) fnExactOldestOfUptoCard

/-- THE SECOND FORM's CARD OF 'laws.FnExactTooOld'. -/
def fnExactTooOldUptoCard : Claim7 := { stood := { row := fnExactTooOldUptoRow, standIns := [], harness := (true, "8e1f9504b6bdb3337dd52cf0128f604c13ed4f7ebf5e3a8470fdd63021946329"), looks := true }, kinds := [], alts := [], laidByText := true, laidKinds := [.handle], laidTests := true, laidLooks := .later }
def FnExactTooOldUptoCardSaid : Prop := Claim7.holds Tryd.pinned (.plain (OpenSpec.upto fnExactTooOldSpec)) fnExactTooOldUptoCard

/-- THE SECOND FORM's CARD OF 'laws.FnExactBreakRoof'. -/
def fnExactBreakRoofUptoCard : Claim7 := { stood := { row := fnExactBreakRoofUptoRow, standIns := [], harness := (true, "8e1f9504b6bdb3337dd52cf0128f604c13ed4f7ebf5e3a8470fdd63021946329"), looks := true }, kinds := [], alts := [], laidByText := true, laidKinds := [.handle], laidTests := true, laidLooks := .later }
def FnExactBreakRoofUptoCardSaid : Prop := Claim7.holds Tryd.pinned (.plain (OpenSpec.upto fnExactBreakRoofSpec)) fnExactBreakRoofUptoCard

/-- THE SECOND FORM's CARD OF 'laws.FnExactFirstBreak'. -/
def fnExactFirstBreakUptoCard : Claim7 := { stood := { row := fnExactFirstBreakUptoRow, standIns := [], harness := (true, "8e1f9504b6bdb3337dd52cf0128f604c13ed4f7ebf5e3a8470fdd63021946329"), looks := true }, kinds := [], alts := [], laidByText := true, laidKinds := [.handle], laidTests := true, laidLooks := .later }
def FnExactFirstBreakUptoCardSaid : Prop := Claim7.holds Tryd.pinned (.plain (OpenSpec.upto fnExactFirstBreakSpec)) fnExactFirstBreakUptoCard

/-- THE SECOND FORM's CARD OF 'laws.FnExactVisitsFor'. -/
def fnExactVisitsForUptoCard : Claim7 := { stood := { row := fnExactVisitsForUptoRow, standIns := [], harness := (true, "8e1f9504b6bdb3337dd52cf0128f604c13ed4f7ebf5e3a8470fdd63021946329"), looks := true }, kinds := [], alts := [], laidByText := true, laidKinds := [.handle], laidTests := true, laidLooks := .later }
def FnExactVisitsForUptoCardSaid : Prop := Claim7.holds Tryd.pinned (.plain (OpenSpec.upto fnExactVisitsForSpec)) fnExactVisitsForUptoCard

/-- THE SECOND FORM's CARD OF 'laws.FnExactReplacedAt'. -/
def fnExactReplacedAtUptoCard : Claim7 := { stood := { row := fnExactReplacedAtUptoRow, standIns := [], harness := (true, "8e1f9504b6bdb3337dd52cf0128f604c13ed4f7ebf5e3a8470fdd63021946329"), looks := true }, kinds := [], alts := [], laidByText := true, laidKinds := [.handle], laidTests := true, laidLooks := .later }
def FnExactReplacedAtUptoCardSaid : Prop := Claim7.holds Tryd.pinned (.plain (OpenSpec.upto fnExactReplacedAtSpec)) fnExactReplacedAtUptoCard

/-- THE SECOND FORM's CARD OF 'laws.FnExactCheckVisits'. -/
def fnExactCheckVisitsUptoCard : Claim7 := { stood := { row := fnExactCheckVisitsUptoRow, standIns := [], harness := (true, "8e1f9504b6bdb3337dd52cf0128f604c13ed4f7ebf5e3a8470fdd63021946329"), looks := true }, kinds := [], alts := [], laidByText := true, laidKinds := [.handle], laidTests := true, laidLooks := .later }
def FnExactCheckVisitsUptoCardSaid : Prop := Claim7.holds Tryd.pinned (.plain (OpenSpec.upto fnExactCheckVisitsSpec)) fnExactCheckVisitsUptoCard
end Rows
end Go.Proofs.YtcdobpnejbfbpaaDoor
