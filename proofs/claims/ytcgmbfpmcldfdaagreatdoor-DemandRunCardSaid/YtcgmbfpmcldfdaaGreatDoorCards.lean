/-
  DERIVED. GIVEN WITH THE SEED: THE CARDS: each row of YtcgmbfpmcldfdaaGreatDoorRows.lean that lists a variable, with what it lists TIED to the program's text (the seventh form; the later family's looks); each row that meets fmt, with fmt's text TOLD by the authors' own Lean function (tested against real Go, not proved from fmt's source: count such statements apart). THE CARD IS WHAT COUNTS. Prove the row's statement (the work); the ties are given (YtcgmbfpmcldfdaaGreatDoorTie.lean); close each card by the builder's one call (the guide's Derived/Test/ToyasCard.lean, 'card_holds'). Laid BY PROGRAM, IN A SANDBOX (cutbox-door.mjs). By AI agents, Wed Nov 11 2026. No macro, syntax, notation, axiom, sorry.
-/
import Derived.Test.YtcgmbfpmcldfdaaGreatDoorRows
import GoSem.ClaimSeven
namespace Go.Proofs.YtcgmbfpmcldfdaaGreatDoor
namespace Rows

/-- THE TIED CARD OF 'hortatorlaw9.DemandRun'. -/
def demandRunCard : Claim7 := { stood := { row := demandRunRow, standIns := [], harness := (true, "fa9289e13e59366449243ffa297c8b0347b0cc37cc085c1531cc63732efd4c28"), looks := true }, kinds := [], alts := [], laidByText := true, laidKinds := [.data, .data, .data, .sentinel, .sentinel], laidTests := true, laidLooks := .later }
def DemandRunCardSaid : Prop := Claim7.holds Tryz.pinned (.plain (OpenSpec.ofChange demandRunSpec)) demandRunCard

/-- THE TIED CARD OF 'hortatorlaw9.DemandLess'. -/
def demandLessCard : Claim7 := { stood := { row := demandLessRow, standIns := [], harness := (true, "fa9289e13e59366449243ffa297c8b0347b0cc37cc085c1531cc63732efd4c28"), looks := true }, kinds := [], alts := [], laidByText := true, laidKinds := [.data, .data, .data, .sentinel, .sentinel], laidTests := true, laidLooks := .later }
def DemandLessCardSaid : Prop := Claim7.holds Tryz.pinned (.plain (OpenSpec.ofChange demandLessSpec)) demandLessCard

/-- THE SECOND FORM's CARD OF 'hortatorlaw9.DemandRun'. -/
def demandRunUptoCard : Claim7 := { stood := { row := demandRunUptoRow, standIns := [], harness := (true, "fa9289e13e59366449243ffa297c8b0347b0cc37cc085c1531cc63732efd4c28"), looks := true }, kinds := [], alts := [], laidByText := true, laidKinds := [.data, .data, .data, .sentinel, .sentinel], laidTests := true, laidLooks := .later }
def DemandRunUptoCardSaid : Prop := Claim7.holds Tryz.pinned (.plain (OpenSpec.upto demandRunSpec)) demandRunUptoCard

/-- THE SECOND FORM's CARD OF 'hortatorlaw9.DemandLess'. -/
def demandLessUptoCard : Claim7 := { stood := { row := demandLessUptoRow, standIns := [], harness := (true, "fa9289e13e59366449243ffa297c8b0347b0cc37cc085c1531cc63732efd4c28"), looks := true }, kinds := [], alts := [], laidByText := true, laidKinds := [.data, .data, .data, .sentinel, .sentinel], laidTests := true, laidLooks := .later }
def DemandLessUptoCardSaid : Prop := Claim7.holds Tryz.pinned (.plain (OpenSpec.upto demandLessSpec)) demandLessUptoCard
end Rows
end Go.Proofs.YtcgmbfpmcldfdaaGreatDoor
