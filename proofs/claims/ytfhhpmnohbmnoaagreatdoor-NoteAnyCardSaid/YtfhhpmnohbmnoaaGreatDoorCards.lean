/-
  DERIVED. GIVEN WITH THE SEED: THE CARDS: each row of YtfhhpmnohbmnoaaGreatDoorRows.lean that lists a variable, with what it lists TIED to the program's text (the seventh form; the later family's looks); each row that meets fmt, with fmt's text TOLD by the authors' own Lean function (tested against real Go, not proved from fmt's source: count such statements apart). THE CARD IS WHAT COUNTS. Prove the row's statement (the work); the ties are given (YtfhhpmnohbmnoaaGreatDoorTie.lean); close each card by the builder's one call (the guide's Derived/Test/ToyasCard.lean, 'card_holds'). Laid BY PROGRAM, IN A SANDBOX (cutbox-door.mjs). By AI agents, Wed Nov 11 2026. No macro, syntax, notation, axiom, sorry.
-/
import Derived.Test.YtfhhpmnohbmnoaaGreatDoorRows
import GoSem.ClaimSeven
namespace Go.Proofs.YtfhhpmnohbmnoaaGreatDoor
namespace Rows

/-- THE TIED CARD OF 'hortatorlaw7.RuleAll'. -/
def ruleAllCard : Claim7 := { stood := { row := ruleAllRow, standIns := [], harness := (true, "37abfd0d7052d27f0f6d9d400e10e68c1c6c8f4ab53814c658e974c9b51592ad"), looks := true }, kinds := [], alts := [], laidByText := true, laidKinds := [.data, .data, .data, .sentinel, .sentinel], laidTests := true, laidLooks := .later }
def RuleAllCardSaid : Prop := Claim7.holds Tryz.pinned (.plain (OpenSpec.ofChange ruleAllSpec)) ruleAllCard

/-- THE TIED CARD OF 'hortatorlaw7.NoteAll'. -/
def noteAllCard : Claim7 := { stood := { row := noteAllRow, standIns := [], harness := (true, "37abfd0d7052d27f0f6d9d400e10e68c1c6c8f4ab53814c658e974c9b51592ad"), looks := true }, kinds := [], alts := [], laidByText := true, laidKinds := [.data, .data, .data, .sentinel, .sentinel], laidTests := true, laidLooks := .later }
def NoteAllCardSaid : Prop := Claim7.holds Tryz.pinned (.plain (OpenSpec.ofChange noteAllSpec)) noteAllCard

/-- THE TIED CARD OF 'hortatorlaw7.NoteAny'. -/
def noteAnyCard : Claim7 := { stood := { row := noteAnyRow, standIns := [], harness := (true, "37abfd0d7052d27f0f6d9d400e10e68c1c6c8f4ab53814c658e974c9b51592ad"), looks := true }, kinds := [], alts := [], laidByText := true, laidKinds := [.data, .data, .data, .sentinel, .sentinel], laidTests := true, laidLooks := .later }
def NoteAnyCardSaid : Prop := Claim7.holds Tryz.pinned (.plain (OpenSpec.ofChange noteAnySpec)) noteAnyCard

/-- THE TIED CARD OF 'hortatorlaw7.NoteNoughts'. -/
def noteNoughtsCard : Claim7 := { stood := { row := noteNoughtsRow, standIns := [], harness := (true, "37abfd0d7052d27f0f6d9d400e10e68c1c6c8f4ab53814c658e974c9b51592ad"), looks := true }, kinds := [], alts := [], laidByText := true, laidKinds := [.data, .data, .data, .sentinel, .sentinel], laidTests := true, laidLooks := .later }
def NoteNoughtsCardSaid : Prop := Claim7.holds Tryz.pinned (.plain (OpenSpec.ofChange noteNoughtsSpec)) noteNoughtsCard

/-- THE SECOND FORM's CARD OF 'hortatorlaw7.RuleAll'. -/
def ruleAllUptoCard : Claim7 := { stood := { row := ruleAllUptoRow, standIns := [], harness := (true, "37abfd0d7052d27f0f6d9d400e10e68c1c6c8f4ab53814c658e974c9b51592ad"), looks := true }, kinds := [], alts := [], laidByText := true, laidKinds := [.data, .data, .data, .sentinel, .sentinel], laidTests := true, laidLooks := .later }
def RuleAllUptoCardSaid : Prop := Claim7.holds Tryz.pinned (.plain (OpenSpec.upto ruleAllSpec)) ruleAllUptoCard

/-- THE SECOND FORM's CARD OF 'hortatorlaw7.NoteAll'. -/
def noteAllUptoCard : Claim7 := { stood := { row := noteAllUptoRow, standIns := [], harness := (true, "37abfd0d7052d27f0f6d9d400e10e68c1c6c8f4ab53814c658e974c9b51592ad"), looks := true }, kinds := [], alts := [], laidByText := true, laidKinds := [.data, .data, .data, .sentinel, .sentinel], laidTests := true, laidLooks := .later }
def NoteAllUptoCardSaid : Prop := Claim7.holds Tryz.pinned (.plain (OpenSpec.upto noteAllSpec)) noteAllUptoCard

/-- THE SECOND FORM's CARD OF 'hortatorlaw7.NoteAny'. -/
def noteAnyUptoCard : Claim7 := { stood := { row := noteAnyUptoRow, standIns := [], harness := (true, "37abfd0d7052d27f0f6d9d400e10e68c1c6c8f4ab53814c658e974c9b51592ad"), looks := true }, kinds := [], alts := [], laidByText := true, laidKinds := [.data, .data, .data, .sentinel, .sentinel], laidTests := true, laidLooks := .later }
def NoteAnyUptoCardSaid : Prop := Claim7.holds Tryz.pinned (.plain (OpenSpec.upto noteAnySpec)) noteAnyUptoCard

/-- THE SECOND FORM's CARD OF 'hortatorlaw7.NoteNoughts'. -/
def noteNoughtsUptoCard : Claim7 := { stood := { row := noteNoughtsUptoRow, standIns := [], harness := (true, "37abfd0d7052d27f0f6d9d400e10e68c1c6c8f4ab53814c658e974c9b51592ad"), looks := true }, kinds := [], alts := [], laidByText := true, laidKinds := [.data, .data, .data, .sentinel, .sentinel], laidTests := true, laidLooks := .later }
def NoteNoughtsUptoCardSaid : Prop := Claim7.holds Tryz.pinned (.plain (OpenSpec.upto noteNoughtsSpec)) noteNoughtsUptoCard
end Rows
end Go.Proofs.YtfhhpmnohbmnoaaGreatDoor
