/-
  DERIVED. GIVEN WITH THE SEED: THE CARDS: each row of YtcdddngdjhjdbaaDoorRows.lean that lists a variable, with what it lists TIED to the program's text (the seventh form; the later family's looks); each row that meets fmt, with fmt's text TOLD by the authors' own Lean function (tested against real Go, not proved from fmt's source: count such statements apart). THE CARD IS WHAT COUNTS. Prove the row's statement (the work); the ties are given (YtcdddngdjhjdbaaDoorTie.lean); close each card by the builder's one call (the guide's Derived/Test/ToyasCard.lean, 'card_holds'). Laid BY PROGRAM, IN A SANDBOX (cutbox-door.mjs). By AI agents, Wed Nov 11 2026. No macro, syntax, notation, axiom, sorry.
-/
import Derived.Test.YtcdddngdjhjdbaaDoorRows
import GoSem.ClaimSeven
namespace Go.Proofs.YtcdddngdjhjdbaaDoor
namespace Rows

/-- THE TIED CARD OF 'laws.FnExactReplacedAt'. -/
def fnExactReplacedAtCard : Claim7 := { stood := { row := fnExactReplacedAtRow, standIns := [], harness := (true, "be25242a7a244ee9b2c6dc9a52dbeb64d629dcf54070c62046dfaa8cd7a08ed9"), looks := true }, kinds := [], alts := [], laidByText := true, laidKinds := [.handle], laidTests := true, laidLooks := .later }
def FnExactReplacedAtCardSaid : Prop := Claim7.holds Tryd.pinned (.plain (OpenSpec.ofChange fnExactReplacedAtSpec)) fnExactReplacedAtCard

/-- THE TIED CARD OF 'laws.FnExactCheckVisits'. -/
def fnExactCheckVisitsCard : Claim7 := { stood := { row := fnExactCheckVisitsRow, standIns := [], harness := (true, "be25242a7a244ee9b2c6dc9a52dbeb64d629dcf54070c62046dfaa8cd7a08ed9"), looks := true }, kinds := [], alts := [], laidByText := true, laidKinds := [.handle], laidTests := true, laidLooks := .later }
def FnExactCheckVisitsCardSaid : Prop := Claim7.holds Tryd.pinned (.plain (OpenSpec.ofChange fnExactCheckVisitsSpec)) fnExactCheckVisitsCard

/-- THE TIED CARD OF 'laws.FnExactMakePattern'. -/
def fnExactMakePatternCard : Claim7 := { stood := { row := fnExactMakePatternRow, standIns := [], harness := (true, "be25242a7a244ee9b2c6dc9a52dbeb64d629dcf54070c62046dfaa8cd7a08ed9"), looks := true }, kinds := [], alts := [], laidByText := true, laidKinds := [.data, .pinned], laidTests := true, laidLooks := .later }
def FnExactMakePatternCardSaid : Prop := Claim7.holds Tryd.pinned (.plain (OpenSpec.ofChange fnExactMakePatternSpec)) fnExactMakePatternCard

/-- THE TIED CARD OF 'laws.FnExactValidWord'. -/
def fnExactValidWordCard : Claim7 := { stood := { row := fnExactValidWordRow, standIns := [], harness := (true, "be25242a7a244ee9b2c6dc9a52dbeb64d629dcf54070c62046dfaa8cd7a08ed9"), looks := true }, kinds := [], alts := [], laidByText := true, laidKinds := [.data, .pinned], laidTests := true, laidLooks := .later }
def FnExactValidWordCardSaid : Prop := Claim7.holds Tryd.pinned (.plain (OpenSpec.ofChange fnExactValidWordSpec)) fnExactValidWordCard

/-- THE TIED CARD OF 'laws.FnExactNearestPattern'. -/
def fnExactNearestPatternCard : Claim7 := { stood := { row := fnExactNearestPatternRow, standIns := [], harness := (true, "be25242a7a244ee9b2c6dc9a52dbeb64d629dcf54070c62046dfaa8cd7a08ed9"), looks := true }, kinds := [], alts := [], laidByText := true, laidKinds := [.data, .handle, .pinned], laidTests := true, laidLooks := .later }
def FnExactNearestPatternCardSaid : Prop := Claim7.holds Tryd.pinned (.plain (OpenSpec.ofChange fnExactNearestPatternSpec)) fnExactNearestPatternCard

/-- THE TIED CARD OF 'laws.FnExactPatternOf'. -/
def fnExactPatternOfCard : Claim7 := { stood := { row := fnExactPatternOfRow, standIns := [], harness := (true, "be25242a7a244ee9b2c6dc9a52dbeb64d629dcf54070c62046dfaa8cd7a08ed9"), looks := true }, kinds := [], alts := [], laidByText := true, laidKinds := [.handle], laidTests := true, laidLooks := .later }
def FnExactPatternOfCardSaid : Prop := Claim7.holds Tryd.pinned (.plain (OpenSpec.ofChange fnExactPatternOfSpec)) fnExactPatternOfCard

/-- THE TIED CARD OF 'laws.FnExactNeedlessRepairs'. -/
def fnExactNeedlessRepairsCard : Claim7 := { stood := { row := fnExactNeedlessRepairsRow, standIns := [], harness := (true, "be25242a7a244ee9b2c6dc9a52dbeb64d629dcf54070c62046dfaa8cd7a08ed9"), looks := true }, kinds := [], alts := [], laidByText := true, laidKinds := [.sentinel, .sentinel, .sentinel, .sentinel, .sentinel, .sentinel], laidTests := true, laidLooks := .later }
def FnExactNeedlessRepairsCardSaid : Prop := Claim7.holds Tryd.pinned (.plain (OpenSpec.ofChange fnExactNeedlessRepairsSpec)) fnExactNeedlessRepairsCard

/-- THE SECOND FORM's CARD OF 'laws.FnExactReplacedAt'. -/
def fnExactReplacedAtUptoCard : Claim7 := { stood := { row := fnExactReplacedAtUptoRow, standIns := [], harness := (true, "be25242a7a244ee9b2c6dc9a52dbeb64d629dcf54070c62046dfaa8cd7a08ed9"), looks := true }, kinds := [], alts := [], laidByText := true, laidKinds := [.handle], laidTests := true, laidLooks := .later }
def FnExactReplacedAtUptoCardSaid : Prop := Claim7.holds Tryd.pinned (.plain (OpenSpec.upto fnExactReplacedAtSpec)) fnExactReplacedAtUptoCard

/-- THE SECOND FORM's CARD OF 'laws.FnExactCheckVisits'. -/
def fnExactCheckVisitsUptoCard : Claim7 := { stood := { row := fnExactCheckVisitsUptoRow, standIns := [], harness := (true, "be25242a7a244ee9b2c6dc9a52dbeb64d629dcf54070c62046dfaa8cd7a08ed9"), looks := true }, kinds := [], alts := [], laidByText := true, laidKinds := [.handle], laidTests := true, laidLooks := .later }
def FnExactCheckVisitsUptoCardSaid : Prop := Claim7.holds Tryd.pinned (.plain (OpenSpec.upto fnExactCheckVisitsSpec)) fnExactCheckVisitsUptoCard

/-- THE SECOND FORM's CARD OF 'laws.FnExactMakePattern'. -/
def fnExactMakePatternUptoCard : Claim7 := { stood := { row := fnExactMakePatternUptoRow, standIns := [], harness := (true, "be25242a7a244ee9b2c6dc9a52dbeb64d629dcf54070c62046dfaa8cd7a08ed9"), looks := true }, kinds := [], alts := [], laidByText := true, laidKinds := [.data, .pinned], laidTests := true, laidLooks := .later }
def FnExactMakePatternUptoCardSaid : Prop := Claim7.holds Tryd.pinned (.plain (OpenSpec.upto fnExactMakePatternSpec)) fnExactMakePatternUptoCard

/-- THE SECOND FORM's CARD OF 'laws.FnExactValidWord'. -/
def fnExactValidWordUptoCard : Claim7 := { stood := { row := fnExactValidWordUptoRow, standIns := [], harness := (true, "be25242a7a244ee9b2c6dc9a52dbeb64d629dcf54070c62046dfaa8cd7a08ed9"), looks := true }, kinds := [], alts := [], laidByText := true, laidKinds := [.data, .pinned], laidTests := true, laidLooks := .later }
def FnExactValidWordUptoCardSaid : Prop := Claim7.holds Tryd.pinned (.plain (OpenSpec.upto fnExactValidWordSpec)) fnExactValidWordUptoCard

/-- THE SECOND FORM's CARD OF 'laws.FnExactNearestPattern'. -/
def fnExactNearestPatternUptoCard : Claim7 := { stood := { row := fnExactNearestPatternUptoRow, standIns := [], harness := (true, "be25242a7a244ee9b2c6dc9a52dbeb64d629dcf54070c62046dfaa8cd7a08ed9"), looks := true }, kinds := [], alts := [], laidByText := true, laidKinds := [.data, .handle, .pinned], laidTests := true, laidLooks := .later }
def FnExactNearestPatternUptoCardSaid : Prop := Claim7.holds Tryd.pinned (.plain (OpenSpec.upto fnExactNearestPatternSpec)) fnExactNearestPatternUptoCard

/-- THE SECOND FORM's CARD OF 'laws.FnExactPatternOf'. -/
def fnExactPatternOfUptoCard : Claim7 := { stood := { row := fnExactPatternOfUptoRow, standIns := [], harness := (true, "be25242a7a244ee9b2c6dc9a52dbeb64d629dcf54070c62046dfaa8cd7a08ed9"), looks := true }, kinds := [], alts := [], laidByText := true, laidKinds := [.handle], laidTests := true, laidLooks := .later }
def FnExactPatternOfUptoCardSaid : Prop := Claim7.holds Tryd.pinned (.plain (OpenSpec.upto fnExactPatternOfSpec)) fnExactPatternOfUptoCard

/-- THE SECOND FORM's CARD OF 'laws.FnExactNeedlessRepairs'. -/
def fnExactNeedlessRepairsUptoCard : Claim7 := { stood := { row := fnExactNeedlessRepairsUptoRow, standIns := [], harness := (true, "be25242a7a244ee9b2c6dc9a52dbeb64d629dcf54070c62046dfaa8cd7a08ed9"), looks := true }, kinds := [], alts := [], laidByText := true, laidKinds := [.sentinel, .sentinel, .sentinel, .sentinel, .sentinel, .sentinel], laidTests := true, laidLooks := .later }
def FnExactNeedlessRepairsUptoCardSaid : Prop := Claim7.holds Tryd.pinned (.plain (OpenSpec.upto fnExactNeedlessRepairsSpec)) fnExactNeedlessRepairsUptoCard
end Rows
end Go.Proofs.YtcdddngdjhjdbaaDoor
