/-
  DERIVED. GIVEN WITH THE SEED: THE CARDS: each row of YtdpnmaodagmpkaaDoorRows.lean that lists a variable, with what it lists TIED to the program's text (the seventh form; the later family's looks); each row that meets fmt, with fmt's text TOLD by the authors' own Lean function (tested against real Go, not proved from fmt's source: count such statements apart). THE CARD IS WHAT COUNTS. Prove the row's statement (the work); the ties are given (YtdpnmaodagmpkaaDoorTie.lean); close each card by the builder's one call (the guide's Derived/Test/ToyasCard.lean, 'card_holds'). Laid BY PROGRAM, IN A SANDBOX (cutbox-door.mjs). By AI agents, Wed Nov 11 2026. No macro, syntax, notation, axiom, sorry.
-/
import Derived.Test.YtdpnmaodagmpkaaDoorRows
import GoSem.ClaimSeven
namespace Go.Proofs.YtdpnmaodagmpkaaDoor
namespace Rows

/-- THE TIED CARD OF 'laws.FnExactKindsFor'. -/
def fnExactKindsForCard : Claim7 := { stood := { row := fnExactKindsForRow, standIns := [], harness := (true, "0659f141e1f312d89245248441569dcc05b4ed1c06905bac287dd9425fddfe77"), looks := true }, kinds := [], alts := [], laidByText := true, laidKinds := [.sentinel, .sentinel, .sentinel, .sentinel, .sentinel, .sentinel], laidTests := true, laidLooks := .later }
def FnExactKindsForCardSaid : Prop := Claim7.holds Tryd.pinned (.plain (OpenSpec.ofChange fnExactKindsForSpec)) fnExactKindsForCard

/-- THE TIED CARD OF 'laws.FnExactNeedlessRepairs'. -/
def fnExactNeedlessRepairsCard : Claim7 := { stood := { row := fnExactNeedlessRepairsRow, standIns := [], harness := (true, "0659f141e1f312d89245248441569dcc05b4ed1c06905bac287dd9425fddfe77"), looks := true }, kinds := [], alts := [], laidByText := true, laidKinds := [.sentinel, .sentinel, .sentinel, .sentinel, .sentinel, .sentinel], laidTests := true, laidLooks := .later }
def FnExactNeedlessRepairsCardSaid : Prop := Claim7.holds Tryd.pinned (.plain (OpenSpec.ofChange fnExactNeedlessRepairsSpec)) fnExactNeedlessRepairsCard

/-- THE TIED CARD OF 'laws.FnExactGroupsOf'. -/
def fnExactGroupsOfCard : Claim7 := { stood := { row := fnExactGroupsOfRow, standIns := [], harness := (true, "0659f141e1f312d89245248441569dcc05b4ed1c06905bac287dd9425fddfe77"), looks := true }, kinds := [], alts := [], laidByText := true, laidKinds := [.sentinel, .sentinel, .sentinel, .sentinel, .sentinel, .sentinel], laidTests := true, laidLooks := .later }
def FnExactGroupsOfCardSaid : Prop := Claim7.holds Tryd.pinned (.plain (OpenSpec.ofChange fnExactGroupsOfSpec)) fnExactGroupsOfCard

/-- THE TIED CARD OF 'laws.FnExactLeastDrip'. -/
def fnExactLeastDripCard : Claim7 := { stood := { row := fnExactLeastDripRow, standIns := [], harness := (true, "0659f141e1f312d89245248441569dcc05b4ed1c06905bac287dd9425fddfe77"), looks := true }, kinds := [], alts := [], laidByText := true, laidKinds := [.sentinel, .sentinel, .sentinel, .sentinel, .sentinel, .sentinel], laidTests := true, laidLooks := .later }
def FnExactLeastDripCardSaid : Prop := Claim7.holds Tryd.pinned (.plain (OpenSpec.ofChange fnExactLeastDripSpec)) fnExactLeastDripCard

/-- THE TIED CARD OF 'laws.FnExactFewestRepairs'. -/
def fnExactFewestRepairsCard : Claim7 := { stood := { row := fnExactFewestRepairsRow, standIns := [], harness := (true, "0659f141e1f312d89245248441569dcc05b4ed1c06905bac287dd9425fddfe77"), looks := true }, kinds := [], alts := [], laidByText := true, laidKinds := [.sentinel, .sentinel, .sentinel, .sentinel, .sentinel, .sentinel], laidTests := true, laidLooks := .later }
def FnExactFewestRepairsCardSaid : Prop := Claim7.holds Tryd.pinned (.plain (OpenSpec.ofChange fnExactFewestRepairsSpec)) fnExactFewestRepairsCard

/-- THE SECOND FORM's CARD OF 'laws.FnExactKindsFor'. -/
def fnExactKindsForUptoCard : Claim7 := { stood := { row := fnExactKindsForUptoRow, standIns := [], harness := (true, "0659f141e1f312d89245248441569dcc05b4ed1c06905bac287dd9425fddfe77"), looks := true }, kinds := [], alts := [], laidByText := true, laidKinds := [.sentinel, .sentinel, .sentinel, .sentinel, .sentinel, .sentinel], laidTests := true, laidLooks := .later }
def FnExactKindsForUptoCardSaid : Prop := Claim7.holds Tryd.pinned (.plain (OpenSpec.upto fnExactKindsForSpec)) fnExactKindsForUptoCard

/-- THE SECOND FORM's CARD OF 'laws.FnExactNeedlessRepairs'. -/
def fnExactNeedlessRepairsUptoCard : Claim7 := { stood := { row := fnExactNeedlessRepairsUptoRow, standIns := [], harness := (true, "0659f141e1f312d89245248441569dcc05b4ed1c06905bac287dd9425fddfe77"), looks := true }, kinds := [], alts := [], laidByText := true, laidKinds := [.sentinel, .sentinel, .sentinel, .sentinel, .sentinel, .sentinel], laidTests := true, laidLooks := .later }
def FnExactNeedlessRepairsUptoCardSaid : Prop := Claim7.holds Tryd.pinned (.plain (OpenSpec.upto fnExactNeedlessRepairsSpec)) fnExactNeedlessRepairsUptoCard

/-- THE SECOND FORM's CARD OF 'laws.FnExactGroupsOf'. -/
def fnExactGroupsOfUptoCard : Claim7 := { stood := { row := fnExactGroupsOfUptoRow, standIns := [], harness := (true, "0659f141e1f312d89245248441569dcc05b4ed1c06905bac287dd9425fddfe77"), looks := true }, kinds := [], alts := [], laidByText := true, laidKinds := [.sentinel, .sentinel, .sentinel, .sentinel, .sentinel, .sentinel], laidTests := true, laidLooks := .later }
def FnExactGroupsOfUptoCardSaid : Prop := Claim7.holds Tryd.pinned (.plain (OpenSpec.upto fnExactGroupsOfSpec)) fnExactGroupsOfUptoCard

/-- THE SECOND FORM's CARD OF 'laws.FnExactLeastDrip'. -/
def fnExactLeastDripUptoCard : Claim7 := { stood := { row := fnExactLeastDripUptoRow, standIns := [], harness := (true, "0659f141e1f312d89245248441569dcc05b4ed1c06905bac287dd9425fddfe77"), looks := true }, kinds := [], alts := [], laidByText := true, laidKinds := [.sentinel, .sentinel, .sentinel, .sentinel, .sentinel, .sentinel], laidTests := true, laidLooks := .later }
def FnExactLeastDripUptoCardSaid : Prop := Claim7.holds Tryd.pinned (.plain (OpenSpec.upto fnExactLeastDripSpec)) fnExactLeastDripUptoCard

/-- THE SECOND FORM's CARD OF 'laws.FnExactFewestRepairs'. -/
def fnExactFewestRepairsUptoCard : Claim7 := { stood := { row := fnExactFewestRepairsUptoRow, standIns := [], harness := (true, "0659f141e1f312d89245248441569dcc05b4ed1c06905bac287dd9425fddfe77"), looks := true }, kinds := [], alts := [], laidByText := true, laidKinds := [.sentinel, .sentinel, .sentinel, .sentinel, .sentinel, .sentinel], laidTests := true, laidLooks := .later }
def FnExactFewestRepairsUptoCardSaid : Prop := Claim7.holds Tryd.pinned (.plain (OpenSpec.upto fnExactFewestRepairsSpec)) fnExactFewestRepairsUptoCard
end Rows
end Go.Proofs.YtdpnmaodagmpkaaDoor
