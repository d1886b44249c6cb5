/-
  DERIVED. GIVEN WITH THE SEED: THE CARDS: each row of YtakdliecjfeedaaGreatDoorRows.lean that lists a variable, with what it lists TIED to the program's text (the seventh form; the later family's looks); each row that meets fmt, with fmt's text TOLD by the authors' own Lean function (tested against real Go, not proved from fmt's source: count such statements apart). THE CARD IS WHAT COUNTS. Prove the row's statement (the work); the ties are given (YtakdliecjfeedaaGreatDoorTie.lean); close each card by the builder's one call (the guide's Derived/Test/ToyasCard.lean, 'card_holds'). Laid BY PROGRAM, IN A SANDBOX (cutbox-door.mjs). By AI agents, Wed Nov 11 2026. No macro, syntax, notation, axiom, sorry.
-/
import Derived.Test.YtakdliecjfeedaaGreatDoorRows
import GoSem.ClaimSeven
namespace Go.Proofs.YtakdliecjfeedaaGreatDoor
namespace Rows

/-- THE TIED CARD OF 'hortatorlaw12.WaitAll'. -/
def waitAllCard : Claim7 := { stood := { row := waitAllRow, standIns := [], harness := (true, "4ddcd03471c152e483e2d1372070b2dd351fc06eba3ed385e3ebe4df4fc3b5c0"), looks := true }, kinds := [], alts := [], laidByText := true, laidKinds := [.data, .data, .data, .sentinel, .sentinel], laidTests := true, laidLooks := .later }
def WaitAllCardSaid : Prop := Claim7.holds Tryz.pinned (.plain (OpenSpec.ofChange waitAllSpec)) waitAllCard

/-- THE TIED CARD OF 'hortatorlaw12.WaitMore'. -/
def waitMoreCard : Claim7 := { stood := { row := waitMoreRow, standIns := [], harness := (true, "4ddcd03471c152e483e2d1372070b2dd351fc06eba3ed385e3ebe4df4fc3b5c0"), looks := true }, kinds := [], alts := [], laidByText := true, laidKinds := [.data, .data, .data, .sentinel, .sentinel], laidTests := true, laidLooks := .later }
def WaitMoreCardSaid : Prop := Claim7.holds Tryz.pinned (.plain (OpenSpec.ofChange waitMoreSpec)) waitMoreCard

/-- THE TIED CARD OF 'hortatorlaw12.LoadAll'. -/
def loadAllCard : Claim7 := { stood := { row := loadAllRow, standIns := [], harness := (true, "4ddcd03471c152e483e2d1372070b2dd351fc06eba3ed385e3ebe4df4fc3b5c0"), looks := true }, kinds := [], alts := [], laidByText := true, laidKinds := [.data, .data, .data, .sentinel, .sentinel], laidTests := true, laidLooks := .later }
def LoadAllCardSaid : Prop := Claim7.holds Tryz.pinned (.plain (OpenSpec.ofChange loadAllSpec)) loadAllCard

/-- THE TIED CARD OF 'hortatorlaw12.LoadShare'. -/
def loadShareCard : Claim7 := { stood := { row := loadShareRow, standIns := [], harness := (true, "4ddcd03471c152e483e2d1372070b2dd351fc06eba3ed385e3ebe4df4fc3b5c0"), looks := true }, kinds := [], alts := [], laidByText := true, laidKinds := [.data, .data, .data, .sentinel, .sentinel], laidTests := true, laidLooks := .later }
def LoadShareCardSaid : Prop := Claim7.holds Tryz.pinned (.plain (OpenSpec.ofChange loadShareSpec)) loadShareCard

/-- THE TIED CARD OF 'hortatorlaw12.WaitAlone'. -/
def waitAloneCard : Claim7 := { stood := { row := waitAloneRow, standIns := [], harness := (true, "4ddcd03471c152e483e2d1372070b2dd351fc06eba3ed385e3ebe4df4fc3b5c0"), looks := true }, kinds := [], alts := [], laidByText := true, laidKinds := [.data, .data, .data, .sentinel, .sentinel], laidTests := true, laidLooks := .later }
def WaitAloneCardSaid : Prop := Claim7.holds Tryz.pinned (.plain (OpenSpec.ofChange waitAloneSpec)) waitAloneCard

/-- THE TIED CARD OF 'hortatorlaw12.WaitOrder'. -/
def waitOrderCard : Claim7 := { stood := { row := waitOrderRow, standIns := [], harness := (true, "4ddcd03471c152e483e2d1372070b2dd351fc06eba3ed385e3ebe4df4fc3b5c0"), looks := true }, kinds := [], alts := [], laidByText := true, laidKinds := [.data, .data, .data, .sentinel, .sentinel], laidTests := true, laidLooks := .later }
def WaitOrderCardSaid : Prop := Claim7.holds Tryz.pinned (.plain (OpenSpec.ofChange waitOrderSpec)) waitOrderCard

/-- THE TIED CARD OF 'hortatorlaw12.LoadPieces'. -/
def loadPiecesCard : Claim7 := { stood := { row := loadPiecesRow, standIns := [], harness := (true, "4ddcd03471c152e483e2d1372070b2dd351fc06eba3ed385e3ebe4df4fc3b5c0"), looks := true }, kinds := [], alts := [], laidByText := true, laidKinds := [.data, .data, .data, .sentinel, .sentinel], laidTests := true, laidLooks := .later }
def LoadPiecesCardSaid : Prop := Claim7.holds Tryz.pinned (.plain (OpenSpec.ofChange loadPiecesSpec)) loadPiecesCard

/-- THE TIED CARD OF 'hortatorlaw12.LoadNone'. -/
def loadNoneCard : Claim7 := { stood := { row := loadNoneRow, standIns := [], harness := (true, "4ddcd03471c152e483e2d1372070b2dd351fc06eba3ed385e3ebe4df4fc3b5c0"), looks := true }, kinds := [], alts := [], laidByText := true, laidKinds := [.data, .data, .data, .sentinel, .sentinel], laidTests := true, laidLooks := .later }
def LoadNoneCardSaid : Prop := Claim7.holds Tryz.pinned (.plain (OpenSpec.ofChange loadNoneSpec)) loadNoneCard

/-- THE SECOND FORM's CARD OF 'hortatorlaw12.WaitAll'. -/
def waitAllUptoCard : Claim7 := { stood := { row := waitAllUptoRow, standIns := [], harness := (true, "4ddcd03471c152e483e2d1372070b2dd351fc06eba3ed385e3ebe4df4fc3b5c0"), looks := true }, kinds := [], alts := [], laidByText := true, laidKinds := [.data, .data, .data, .sentinel, .sentinel], laidTests := true, laidLooks := .later }
def WaitAllUptoCardSaid : Prop := Claim7.holds Tryz.pinned (.plain (OpenSpec.upto waitAllSpec)) waitAllUptoCard

/-- THE SECOND FORM's CARD OF 'hortatorlaw12.WaitMore'. -/
def waitMoreUptoCard : Claim7 := { stood := { row := waitMoreUptoRow, standIns := [], harness := (true, "4ddcd03471c152e483e2d1372070b2dd351fc06eba3ed385e3ebe4df4fc3b5c0"), looks := true }, kinds := [], alts := [], laidByText := true, laidKinds := [.data, .data, .data, .sentinel, .sentinel], laidTests := true, laidLooks := .later }
def WaitMoreUptoCardSaid : Prop := Claim7.holds Tryz.pinned (.plain (OpenSpec.upto waitMoreSpec)) waitMoreUptoCard

/-- THE SECOND FORM's CARD OF 'hortatorlaw12.LoadAll'. -/
def loadAllUptoCard : Claim7 := { stood := { row := loadAllUptoRow, standIns := [], harness := (true, "4ddcd03471c152e483e2d1372070b2dd351fc06eba3ed385e3ebe4df4fc3b5c0"), looks := true }, kinds := [], alts := [], laidByText := true, laidKinds := [.data, .data, .data, .sentinel, .sentinel], laidTests := true, laidLooks := .later }
def LoadAllUptoCardSaid : Prop := Claim7.holds Tryz.pinned (.plain (OpenSpec.upto loadAllSpec)) loadAllUptoCard

/-- THE SECOND FORM's CARD OF 'hortatorlaw12.LoadShare'. -/
def loadShareUptoCard : Claim7 := { stood := { row := loadShareUptoRow, standIns := [], harness := (true, "4ddcd03471c152e483e2d1372070b2dd351fc06eba3ed385e3ebe4df4fc3b5c0"), looks := true }, kinds := [], alts := [], laidByText := true, laidKinds := [.data, .data, .data, .sentinel, .sentinel], laidTests := true, laidLooks := .later }
def LoadShareUptoCardSaid : Prop := Claim7.holds Tryz.pinned (.plain (OpenSpec.upto loadShareSpec)) loadShareUptoCard

/-- THE SECOND FORM's CARD OF 'hortatorlaw12.WaitAlone'. -/
def waitAloneUptoCard : Claim7 := { stood := { row := waitAloneUptoRow, standIns := [], harness := (true, "4ddcd03471c152e483e2d1372070b2dd351fc06eba3ed385e3ebe4df4fc3b5c0"), looks := true }, kinds := [], alts := [], laidByText := true, laidKinds := [.data, .data, .data, .sentinel, .sentinel], laidTests := true, laidLooks := .later }
def WaitAloneUptoCardSaid : Prop := Claim7.holds Tryz.pinned (.plain (OpenSpec.upto waitAloneSpec)) waitAloneUptoCard

/-- THE SECOND FORM's CARD OF 'hortatorlaw12.WaitOrder'. -/
def waitOrderUptoCard : Claim7 := { stood := { row := waitOrderUptoRow, standIns := [], harness := (true, "4ddcd03471c152e483e2d1372070b2dd351fc06eba3ed385e3ebe4df4fc3b5c0"), looks := true }, kinds := [], alts := [], laidByText := true, laidKinds := [.data, .data, .data, .sentinel, .sentinel], laidTests := true, laidLooks := .later }
def WaitOrderUptoCardSaid : Prop := Claim7.holds Tryz.pinned (.plain (OpenSpec.upto waitOrderSpec)) waitOrderUptoCard

/-- THE SECOND FORM's CARD OF 'hortatorlaw12.LoadPieces'. -/
def loadPiecesUptoCard : Claim7 := { stood := { row := loadPiecesUptoRow, standIns := [], harness := (true, "4ddcd03471c152e483e2d1372070b2dd351fc06eba3ed385e3ebe4df4fc3b5c0"), looks := true }, kinds := [], alts := [], laidByText := true, laidKinds := [.data, .data, .data, .sentinel, .sentinel], laidTests := true, laidLooks := .later }
def LoadPiecesUptoCardSaid : Prop := Claim7.holds Tryz.pinned (.plain (OpenSpec.upto loadPiecesSpec)) loadPiecesUptoCard

/-- THE SECOND FORM's CARD OF 'hortatorlaw12.LoadNone'. -/
def loadNoneUptoCard : Claim7 := { stood := { row := loadNoneUptoRow, standIns := [], harness := (true, "4ddcd03471c152e483e2d1372070b2dd351fc06eba3ed385e3ebe4df4fc3b5c0"), looks := true }, kinds := [], alts := [], laidByText := true, laidKinds := [.data, .data, .data, .sentinel, .sentinel], laidTests := true, laidLooks := .later }
def LoadNoneUptoCardSaid : Prop := Claim7.holds Tryz.pinned (.plain (OpenSpec.upto loadNoneSpec)) loadNoneUptoCard
end Rows
end Go.Proofs.YtakdliecjfeedaaGreatDoor
