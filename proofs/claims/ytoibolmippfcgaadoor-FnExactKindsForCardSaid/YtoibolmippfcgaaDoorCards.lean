/-
  DERIVED. GIVEN WITH THE SEED: THE CARDS: each row of YtoibolmippfcgaaDoorRows.lean that lists a variable, with what it lists TIED to the program's text (the seventh form; the later family's looks); each row that meets fmt, with fmt's text TOLD by the authors' own Lean function (tested against real Go, not proved from fmt's source: count such statements apart). THE CARD IS WHAT COUNTS. Prove the row's statement (the work); the ties are given (YtoibolmippfcgaaDoorTie.lean); close each card by the builder's one call (the guide's Derived/Test/ToyasCard.lean, 'card_holds'). Laid BY PROGRAM, IN A SANDBOX (cutbox-door.mjs). By AI agents, Wed Nov 11 2026. No macro, syntax, notation, axiom, sorry.
-/
import Derived.Test.YtoibolmippfcgaaDoorRows
import GoSem.ClaimSeven
namespace Go.Proofs.YtoibolmippfcgaaDoor
namespace Rows

/-- THE TIED CARD OF 'laws.FnExactDripAfter'. -/
def fnExactDripAfterCard : Claim7 := { stood := { row := fnExactDripAfterRow, standIns := [], harness := (true, "73c9668a2f932d2f0b8826007c20660e71ecba703b606011f5aba5f67c57d7bd"), looks := true }, kinds := [], alts := [], laidByText := true, laidKinds := [.sentinel, .sentinel, .sentinel, .sentinel, .sentinel, .sentinel], laidTests := true, laidLooks := .later }
def FnExactDripAfterCardSaid : Prop := Claim7.holds Tryd.pinned (.plain (OpenSpec.ofChange fnExactDripAfterSpec)) fnExactDripAfterCard

/-- THE TIED CARD OF 'laws.FnExactCheckRepairs'. -/
def fnExactCheckRepairsCard : Claim7 := { stood := { row := fnExactCheckRepairsRow, standIns := [], harness := (true, "73c9668a2f932d2f0b8826007c20660e71ecba703b606011f5aba5f67c57d7bd"), looks := true }, kinds := [], alts := [], laidByText := true, laidKinds := [.sentinel, .sentinel, .sentinel, .sentinel, .sentinel, .sentinel], laidTests := true, laidLooks := .later }
def FnExactCheckRepairsCardSaid : Prop := Claim7.holds Tryd.pinned (.plain (OpenSpec.ofChange fnExactCheckRepairsSpec)) fnExactCheckRepairsCard

/-- THE TIED CARD OF 'laws.FnExactExplains'. -/
def fnExactExplainsCard : Claim7 := { stood := { row := fnExactExplainsRow, standIns := [], harness := (true, "73c9668a2f932d2f0b8826007c20660e71ecba703b606011f5aba5f67c57d7bd"), looks := true }, kinds := [], alts := [], laidByText := true, laidKinds := [.sentinel, .sentinel, .sentinel, .sentinel, .sentinel, .sentinel], laidTests := true, laidLooks := .later }
def FnExactExplainsCardSaid : Prop := Claim7.holds Tryd.pinned (.plain (OpenSpec.ofChange fnExactExplainsSpec)) fnExactExplainsCard

/-- THE TIED CARD OF 'laws.FnExactComesTo'. -/
def fnExactComesToCard : Claim7 := { stood := { row := fnExactComesToRow, standIns := [], harness := (true, "73c9668a2f932d2f0b8826007c20660e71ecba703b606011f5aba5f67c57d7bd"), looks := true }, kinds := [], alts := [], laidByText := true, laidKinds := [.sentinel, .sentinel, .sentinel, .sentinel, .sentinel, .sentinel], laidTests := true, laidLooks := .later }
def FnExactComesToCardSaid : Prop := Claim7.holds Tryd.pinned (.plain (OpenSpec.ofChange fnExactComesToSpec)) fnExactComesToCard

/-- THE TIED CARD OF 'laws.FnExactKindsFor'. -/
def fnExactKindsForCard : Claim7 := { stood := { row := fnExactKindsForRow, standIns := [], harness := (true, "73c9668a2f932d2f0b8826007c20660e71ecba703b606011f5aba5f67c57d7bd"), looks := true }, kinds := [], alts := [], laidByText := true, laidKinds := [.sentinel, .sentinel, .sentinel, .sentinel, .sentinel, .sentinel], laidTests := true, laidLooks := .later }
def FnExactKindsForCardSaid : Prop := Claim7.holds Tryd.pinned (.plain (OpenSpec.ofChange fnExactKindsForSpec)) fnExactKindsForCard

/-- THE SECOND FORM's CARD OF 'laws.FnExactDripAfter'. -/
def fnExactDripAfterUptoCard : Claim7 := { stood := { row := fnExactDripAfterUptoRow, standIns := [], harness := (true, "73c9668a2f932d2f0b8826007c20660e71ecba703b606011f5aba5f67c57d7bd"), looks := true }, kinds := [], alts := [], laidByText := true, laidKinds := [.sentinel, .sentinel, .sentinel, .sentinel, .sentinel, .sentinel], laidTests := true, laidLooks := .later }
def FnExactDripAfterUptoCardSaid : Prop := Claim7.holds Tryd.pinned (.plain (OpenSpec.upto fnExactDripAfterSpec)) fnExactDripAfterUptoCard

/-- THE SECOND FORM's CARD OF 'laws.FnExactCheckRepairs'. -/
def fnExactCheckRepairsUptoCard : Claim7 := { stood := { row := fnExactCheckRepairsUptoRow, standIns := [], harness := (true, "73c9668a2f932d2f0b8826007c20660e71ecba703b606011f5aba5f67c57d7bd"), looks := true }, kinds := [], alts := [], laidByText := true, laidKinds := [.sentinel, .sentinel, .sentinel, .sentinel, .sentinel, .sentinel], laidTests := true, laidLooks := .later }
def FnExactCheckRepairsUptoCardSaid : Prop := Claim7.holds Tryd.pinned (.plain (OpenSpec.upto fnExactCheckRepairsSpec)) fnExactCheckRepairsUptoCard

/-- THE SECOND FORM's CARD OF 'laws.FnExactExplains'. -/
def fnExactExplainsUptoCard : Claim7 := { stood := { row := fnExactExplainsUptoRow, standIns := [], harness := (true, "73c9668a2f932d2f0b8826007c20660e71ecba703b606011f5aba5f67c57d7bd"), looks := true }, kinds := [], alts := [], laidByText := true, laidKinds := [.sentinel, .sentinel, .sentinel, .sentinel, .sentinel, .sentinel], laidTests := true, laidLooks := .later }
def FnExactExplainsUptoCardSaid : Prop := Claim7.holds Tryd.pinned (.plain (OpenSpec.upto fnExactExplainsSpec)) fnExactExplainsUptoCard

/-- THE SECOND FORM's CARD OF 'laws.FnExactComesTo'. -/
def fnExactComesToUptoCard : Claim7 := { stood := { row := fnExactComesToUptoRow, standIns := [], harness := (true, "73c9668a2f932d2f0b8826007c20660e71ecba703b606011f5aba5f67c57d7bd"), looks := true }, kinds := [], alts := [], laidByText := true, laidKinds := [.sentinel, .sentinel, .sentinel, .sentinel, .sentinel, .sentinel], laidTests := true, laidLooks := .later }
def FnExactComesToUptoCardSaid : Prop := Claim7.holds Tryd.pinned (.plain (OpenSpec.upto fnExactComesToSpec)) fnExactComesToUptoCard

/-- THE SECOND FORM's CARD OF 'laws.FnExactKindsFor'. -/
def fnExactKindsForUptoCard : Claim7 := { stood := { row := fnExactKindsForUptoRow, standIns := [], harness := (true, "73c9668a2f932d2f0b8826007c20660e71ecba703b606011f5aba5f67c57d7bd"), looks := true }, kinds := [], alts := [], laidByText := true, laidKinds := [.sentinel, .sentinel, .sentinel, .sentinel, .sentinel, .sentinel], laidTests := true, laidLooks := .later }
def FnExactKindsForUptoCardSaid : Prop := Claim7.holds Tryd.pinned (.plain (OpenSpec.upto fnExactKindsForSpec)) fnExactKindsForUptoCard
end Rows
end Go.Proofs.YtoibolmippfcgaaDoor
