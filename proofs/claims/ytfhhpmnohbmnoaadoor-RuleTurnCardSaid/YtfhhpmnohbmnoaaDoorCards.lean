/-
  DERIVED. GIVEN WITH THE SEED: THE CARDS: each row of YtfhhpmnohbmnoaaDoorRows.lean that lists a variable, with what it lists TIED to the program's text (the seventh form; the later family's looks); each row that meets fmt, with fmt's text TOLD by the authors' own Lean function (tested against real Go, not proved from fmt's source: count such statements apart). THE CARD IS WHAT COUNTS. Prove the row's statement (the work); the ties are given (YtfhhpmnohbmnoaaDoorTie.lean); close each card by the builder's one call (the guide's Derived/Test/ToyasCard.lean, 'card_holds'). Laid BY PROGRAM, IN A SANDBOX (cutbox-door.mjs). By AI agents, Wed Nov 11 2026. No macro, syntax, notation, axiom, sorry.
-/
import Derived.Test.YtfhhpmnohbmnoaaDoorRows
import GoSem.ClaimSeven
namespace Go.Proofs.YtfhhpmnohbmnoaaDoor
namespace Rows

/-- THE TIED CARD OF 'hortatorlaw7.RuleTurn'. -/
def ruleTurnCard : Claim7 := { stood := { row := ruleTurnRow, standIns := [], harness := (true, "1a6d372db0b00892c861878746c9b402df8e3ee8bbf8bfc1e42d205f4486eca9"), looks := true }, kinds := [], alts := [], laidByText := true, laidKinds := [.data, .data, .data, .sentinel, .sentinel], laidTests := true, laidLooks := .later }
def RuleTurnCardSaid : Prop := Claim7.holds Tryd.pinned (.plain (OpenSpec.ofChange ruleTurnSpec)) ruleTurnCard

/-- THE TIED CARD OF 'hortatorlaw7.RuleLimits'. -/
def ruleLimitsCard : Claim7 := { stood := { row := ruleLimitsRow, standIns := [], harness := (true, "1a6d372db0b00892c861878746c9b402df8e3ee8bbf8bfc1e42d205f4486eca9"), looks := true }, kinds := [], alts := [], laidByText := true, laidKinds := [.data, .data, .data, .sentinel, .sentinel], laidTests := true, laidLooks := .later }
def RuleLimitsCardSaid : Prop := Claim7.holds Tryd.pinned (.plain (OpenSpec.ofChange ruleLimitsSpec)) ruleLimitsCard

/-- THE TIED CARD OF 'hortatorlaw7.RulePieces'. -/
def rulePiecesCard : Claim7 := { stood := { row := rulePiecesRow, standIns := [], harness := (true, "1a6d372db0b00892c861878746c9b402df8e3ee8bbf8bfc1e42d205f4486eca9"), looks := true }, kinds := [], alts := [], laidByText := true, laidKinds := [.data, .data, .data, .sentinel, .sentinel], laidTests := true, laidLooks := .later }
def RulePiecesCardSaid : Prop := Claim7.holds Tryd.pinned (.plain (OpenSpec.ofChange rulePiecesSpec)) rulePiecesCard

/-- THE TIED CARD OF 'hortatorlaw7.RuleLoads'. -/
def ruleLoadsCard : Claim7 := { stood := { row := ruleLoadsRow, standIns := [], harness := (true, "1a6d372db0b00892c861878746c9b402df8e3ee8bbf8bfc1e42d205f4486eca9"), looks := true }, kinds := [], alts := [], laidByText := true, laidKinds := [.data, .data, .data, .sentinel, .sentinel], laidTests := true, laidLooks := .later }
def RuleLoadsCardSaid : Prop := Claim7.holds Tryd.pinned (.plain (OpenSpec.ofChange ruleLoadsSpec)) ruleLoadsCard

/-- THE TIED CARD OF 'hortatorlaw7.RuleSame'. -/
def ruleSameCard : Claim7 := { stood := { row := ruleSameRow, standIns := [], harness := (true, "1a6d372db0b00892c861878746c9b402df8e3ee8bbf8bfc1e42d205f4486eca9"), looks := true }, kinds := [], alts := [], laidByText := true, laidKinds := [.data, .data, .data, .sentinel, .sentinel], laidTests := true, laidLooks := .later }
def RuleSameCardSaid : Prop := Claim7.holds Tryd.pinned (.plain (OpenSpec.ofChange ruleSameSpec)) ruleSameCard

/-- THE TIED CARD OF 'hortatorlaw7.RuleAgents'. -/
def ruleAgentsCard : Claim7 := { stood := { row := ruleAgentsRow, standIns := [], harness := (true, "1a6d372db0b00892c861878746c9b402df8e3ee8bbf8bfc1e42d205f4486eca9"), looks := true }, kinds := [], alts := [], laidByText := true, laidKinds := [.data, .data, .data, .sentinel, .sentinel], laidTests := true, laidLooks := .later }
def RuleAgentsCardSaid : Prop := Claim7.holds Tryd.pinned (.plain (OpenSpec.ofChange ruleAgentsSpec)) ruleAgentsCard

/-- THE SECOND FORM's CARD OF 'hortatorlaw7.RuleTurn'. -/
def ruleTurnUptoCard : Claim7 := { stood := { row := ruleTurnUptoRow, standIns := [], harness := (true, "1a6d372db0b00892c861878746c9b402df8e3ee8bbf8bfc1e42d205f4486eca9"), looks := true }, kinds := [], alts := [], laidByText := true, laidKinds := [.data, .data, .data, .sentinel, .sentinel], laidTests := true, laidLooks := .later }
def RuleTurnUptoCardSaid : Prop := Claim7.holds Tryd.pinned (.plain (OpenSpec.upto ruleTurnSpec)) ruleTurnUptoCard

/-- THE SECOND FORM's CARD OF 'hortatorlaw7.RuleLimits'. -/
def ruleLimitsUptoCard : Claim7 := { stood := { row := ruleLimitsUptoRow, standIns := [], harness := (true, "1a6d372db0b00892c861878746c9b402df8e3ee8bbf8bfc1e42d205f4486eca9"), looks := true }, kinds := [], alts := [], laidByText := true, laidKinds := [.data, .data, .data, .sentinel, .sentinel], laidTests := true, laidLooks := .later }
def RuleLimitsUptoCardSaid : Prop := Claim7.holds Tryd.pinned (.plain (OpenSpec.upto ruleLimitsSpec)) ruleLimitsUptoCard

/-- THE SECOND FORM's CARD OF 'hortatorlaw7.RulePieces'. -/
def rulePiecesUptoCard : Claim7 := { stood := { row := rulePiecesUptoRow, standIns := [], harness := (true, "1a6d372db0b00892c861878746c9b402df8e3ee8bbf8bfc1e42d205f4486eca9"), looks := true }, kinds := [], alts := [], laidByText := true, laidKinds := [.data, .data, .data, .sentinel, .sentinel], laidTests := true, laidLooks := .later }
def RulePiecesUptoCardSaid : Prop := Claim7.holds Tryd.pinned (.plain (OpenSpec.upto rulePiecesSpec)) rulePiecesUptoCard

/-- THE SECOND FORM's CARD OF 'hortatorlaw7.RuleLoads'. -/
def ruleLoadsUptoCard : Claim7 := { stood := { row := ruleLoadsUptoRow, standIns := [], harness := (true, "1a6d372db0b00892c861878746c9b402df8e3ee8bbf8bfc1e42d205f4486eca9"), looks := true }, kinds := [], alts := [], laidByText := true, laidKinds := [.data, .data, .data, .sentinel, .sentinel], laidTests := true, laidLooks := .later }
def RuleLoadsUptoCardSaid : Prop := Claim7.holds Tryd.pinned (.plain (OpenSpec.upto ruleLoadsSpec)) ruleLoadsUptoCard

/-- THE SECOND FORM's CARD OF 'hortatorlaw7.RuleSame'. -/
def ruleSameUptoCard : Claim7 := { stood := { row := ruleSameUptoRow, standIns := [], harness := (true, "1a6d372db0b00892c861878746c9b402df8e3ee8bbf8bfc1e42d205f4486eca9"), looks := true }, kinds := [], alts := [], laidByText := true, laidKinds := [.data, .data, .data, .sentinel, .sentinel], laidTests := true, laidLooks := .later }
def RuleSameUptoCardSaid : Prop := Claim7.holds Tryd.pinned (.plain (OpenSpec.upto ruleSameSpec)) ruleSameUptoCard

/-- THE SECOND FORM's CARD OF 'hortatorlaw7.RuleAgents'. -/
def ruleAgentsUptoCard : Claim7 := { stood := { row := ruleAgentsUptoRow, standIns := [], harness := (true, "1a6d372db0b00892c861878746c9b402df8e3ee8bbf8bfc1e42d205f4486eca9"), looks := true }, kinds := [], alts := [], laidByText := true, laidKinds := [.data, .data, .data, .sentinel, .sentinel], laidTests := true, laidLooks := .later }
def RuleAgentsUptoCardSaid : Prop := Claim7.holds Tryd.pinned (.plain (OpenSpec.upto ruleAgentsSpec)) ruleAgentsUptoCard
end Rows
end Go.Proofs.YtfhhpmnohbmnoaaDoor
