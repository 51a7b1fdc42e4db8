/-
  DERIVED. GIVEN WITH THE SEED: THE CARDS: each row of YtgdhfcpmeaeioaaDoorRows.lean that lists a variable, with what it lists TIED to the program's text (the seventh form; the later family's looks); each row that meets fmt, with fmt's text TOLD by the authors' own Lean function (tested against real Go, not proved from fmt's source: count such statements apart). THE CARD IS WHAT COUNTS. Prove the row's statement (the work); the ties are given (YtgdhfcpmeaeioaaDoorTie.lean); close each card by the builder's one call (the guide's Derived/Test/ToyasCard.lean, 'card_holds'). Laid BY PROGRAM, IN A SANDBOX (cutbox-door.mjs). By AI agents, Wed Nov 11 2026. No macro, syntax, notation, axiom, sorry.
-/
import Derived.Test.YtgdhfcpmeaeioaaDoorRows
import GoSem.ClaimSeven
namespace Go.Proofs.YtgdhfcpmeaeioaaDoor
namespace Rows

/-- THE TIED CARD OF 'laws.FnExactReadRoof'. -/
def fnExactReadRoofCard : Claim7 := { stood := { row := fnExactReadRoofRow, standIns := [], harness := (true, "ebcd89207bf583f63340232efe2cf04ccab6ddc7537fa6627cc1f2032107e7f7"), looks := true }, kinds := [], alts := [], laidByText := true, laidKinds := [.data, .pinned], laidTests := true, laidLooks := .later }
def FnExactReadRoofCardSaid : Prop := Claim7.holds Tryd.pinned (.plain (OpenSpec.ofChange fnExactReadRoofSpec)) fnExactReadRoofCard

/-- THE TIED CARD OF 'laws.FnExactNearestPattern'. -/
def fnExactNearestPatternCard : Claim7 := { stood := { row := fnExactNearestPatternRow, standIns := [], harness := (true, "ebcd89207bf583f63340232efe2cf04ccab6ddc7537fa6627cc1f2032107e7f7"), looks := true }, kinds := [], alts := [], laidByText := true, laidKinds := [.data, .handle, .pinned], laidTests := true, laidLooks := .later }
def FnExactNearestPatternCardSaid : Prop := Claim7.holds Tryd.pinned (.plain (OpenSpec.ofChange fnExactNearestPatternSpec)) fnExactNearestPatternCard

/-- THE TIED CARD OF 'laws.FnExactPatternOf'. -/
def fnExactPatternOfCard : Claim7 := { stood := { row := fnExactPatternOfRow, standIns := [], harness := (true, "ebcd89207bf583f63340232efe2cf04ccab6ddc7537fa6627cc1f2032107e7f7"), looks := true }, kinds := [], alts := [], laidByText := true, laidKinds := [.handle], laidTests := true, laidLooks := .later }
def FnExactPatternOfCardSaid : Prop := Claim7.holds Tryd.pinned (.plain (OpenSpec.ofChange fnExactPatternOfSpec)) fnExactPatternOfCard

/-- THE TIED CARD OF 'laws.FnExactRainText'. -/
def fnExactRainTextCard : Claim7 := { stood := { row := fnExactRainTextRow, standIns := [], harness := (true, "ebcd89207bf583f63340232efe2cf04ccab6ddc7537fa6627cc1f2032107e7f7"), looks := true }, kinds := [], alts := [], laidByText := true, laidKinds := [.data, .data, .data], laidTests := true, laidLooks := .later }
def FnExactRainTextCardSaid : Prop := Claim7.holds Tryd.pinned (.plain (OpenSpec.ofChange fnExactRainTextSpec)) fnExactRainTextCard

/-- THE TIED CARD OF 'laws.FnExactReadRain'. -/
def fnExactReadRainCard : Claim7 := { stood := { row := fnExactReadRainRow, standIns := [], harness := (true, "ebcd89207bf583f63340232efe2cf04ccab6ddc7537fa6627cc1f2032107e7f7"), looks := true }, kinds := [], alts := [], laidByText := true, laidKinds := [.data, .data, .data, .data, .sentinel, .sentinel, .pinned], laidTests := true, laidLooks := .later }
def FnExactReadRainCardSaid : Prop := Claim7.holds Tryd.pinned (.plain (OpenSpec.ofChange fnExactReadRainSpec)) fnExactReadRainCard

/-- THE SECOND FORM's CARD OF 'laws.FnExactReadRoof'. -/
def fnExactReadRoofUptoCard : Claim7 := { stood := { row := fnExactReadRoofUptoRow, standIns := [], harness := (true, "ebcd89207bf583f63340232efe2cf04ccab6ddc7537fa6627cc1f2032107e7f7"), looks := true }, kinds := [], alts := [], laidByText := true, laidKinds := [.data, .pinned], laidTests := true, laidLooks := .later }
def FnExactReadRoofUptoCardSaid : Prop := Claim7.holds Tryd.pinned (.plain (OpenSpec.upto fnExactReadRoofSpec)) fnExactReadRoofUptoCard

/-- THE SECOND FORM's CARD OF 'laws.FnExactNearestPattern'. -/
def fnExactNearestPatternUptoCard : Claim7 := { stood := { row := fnExactNearestPatternUptoRow, standIns := [], harness := (true, "ebcd89207bf583f63340232efe2cf04ccab6ddc7537fa6627cc1f2032107e7f7"), looks := true }, kinds := [], alts := [], laidByText := true, laidKinds := [.data, .handle, .pinned], laidTests := true, laidLooks := .later }
def FnExactNearestPatternUptoCardSaid : Prop := Claim7.holds Tryd.pinned (.plain (OpenSpec.upto fnExactNearestPatternSpec)) fnExactNearestPatternUptoCard

/-- THE SECOND FORM's CARD OF 'laws.FnExactPatternOf'. -/
def fnExactPatternOfUptoCard : Claim7 := { stood := { row := fnExactPatternOfUptoRow, standIns := [], harness := (true, "ebcd89207bf583f63340232efe2cf04ccab6ddc7537fa6627cc1f2032107e7f7"), looks := true }, kinds := [], alts := [], laidByText := true, laidKinds := [.handle], laidTests := true, laidLooks := .later }
def FnExactPatternOfUptoCardSaid : Prop := Claim7.holds Tryd.pinned (.plain (OpenSpec.upto fnExactPatternOfSpec)) fnExactPatternOfUptoCard

/-- THE SECOND FORM's CARD OF 'laws.FnExactRainText'. -/
def fnExactRainTextUptoCard : Claim7 := { stood := { row := fnExactRainTextUptoRow, standIns := [], harness := (true, "ebcd89207bf583f63340232efe2cf04ccab6ddc7537fa6627cc1f2032107e7f7"), looks := true }, kinds := [], alts := [], laidByText := true, laidKinds := [.data, .data, .data], laidTests := true, laidLooks := .later }
def FnExactRainTextUptoCardSaid : Prop := Claim7.holds Tryd.pinned (.plain (OpenSpec.upto fnExactRainTextSpec)) fnExactRainTextUptoCard

/-- THE SECOND FORM's CARD OF 'laws.FnExactReadRain'. -/
def fnExactReadRainUptoCard : Claim7 := { stood := { row := fnExactReadRainUptoRow, standIns := [], harness := (true, "ebcd89207bf583f63340232efe2cf04ccab6ddc7537fa6627cc1f2032107e7f7"), looks := true }, kinds := [], alts := [], laidByText := true, laidKinds := [.data, .data, .data, .data, .sentinel, .sentinel, .pinned], laidTests := true, laidLooks := .later }
def FnExactReadRainUptoCardSaid : Prop := Claim7.holds Tryd.pinned (.plain (OpenSpec.upto fnExactReadRainSpec)) fnExactReadRainUptoCard
end Rows
end Go.Proofs.YtgdhfcpmeaeioaaDoor
