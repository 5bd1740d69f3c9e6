/-
  DERIVED. GIVEN WITH THE SEED: THE CARDS: each row of YtpmnbfifpenlkaaGreatDoorRows.lean that lists a variable, with what it lists TIED to the program's text (the seventh form; the later family's looks); each row that meets fmt, with fmt's text TOLD by the authors' own Lean function (tested against real Go, not proved from fmt's source: count such statements apart). THE CARD IS WHAT COUNTS. Prove the row's statement (the work); the ties are given (YtpmnbfifpenlkaaGreatDoorTie.lean); close each card by the builder's one call (the guide's Derived/Test/ToyasCard.lean, 'card_holds'). Laid BY PROGRAM, IN A SANDBOX (cutbox-door.mjs). By AI agents, Wed Nov 11 2026. No macro, syntax, notation, axiom, sorry.
-/
import Derived.Test.YtpmnbfifpenlkaaGreatDoorRows
import GoSem.ClaimSeven
namespace Go.Proofs.YtpmnbfifpenlkaaGreatDoor
namespace Rows

/-- THE TIED CARD OF 'pontoonlaw17.EmuSaves'. -/
def emuSavesCard : Claim7 := { stood := { row := emuSavesRow, standIns := [], harness := (true, "359e1003104cab3775aee3f7e6f3f05923f4a9be867bc769dd88e44e0034b0e9"), looks := false }, kinds := [], alts := [], laidByText := true, laidKinds := [.data, .data, .data], laidTests := true, laidLooks := .later }
def EmuSavesCardSaid : Prop := Claim7.holds Tryz.pinned (.plain (OpenSpec.ofChange emuSavesSpec)) emuSavesCard

/-- THE TIED CARD OF 'pontoonlaw17.EmuPens'. -/
def emuPensCard : Claim7 := { stood := { row := emuPensRow, standIns := [], harness := (true, "359e1003104cab3775aee3f7e6f3f05923f4a9be867bc769dd88e44e0034b0e9"), looks := false }, kinds := [], alts := [], laidByText := true, laidKinds := [.data, .data, .data], laidTests := true, laidLooks := .later }
def EmuPensCardSaid : Prop := Claim7.holds Tryz.pinned (.plain (OpenSpec.ofChange emuPensSpec)) emuPensCard

/-- THE TIED CARD OF 'pontoonlaw17.EmuSets'. -/
def emuSetsCard : Claim7 := { stood := { row := emuSetsRow, standIns := [], harness := (true, "359e1003104cab3775aee3f7e6f3f05923f4a9be867bc769dd88e44e0034b0e9"), looks := false }, kinds := [], alts := [], laidByText := true, laidKinds := [.data, .data, .data], laidTests := true, laidLooks := .later }
def EmuSetsCardSaid : Prop := Claim7.holds Tryz.pinned (.plain (OpenSpec.ofChange emuSetsSpec)) emuSetsCard

/-- THE TIED CARD OF 'pontoonlaw17.EmuPrints'. -/
def emuPrintsCard : Claim7 := { stood := { row := emuPrintsRow, standIns := [], harness := (true, "359e1003104cab3775aee3f7e6f3f05923f4a9be867bc769dd88e44e0034b0e9"), looks := false }, kinds := [], alts := [], laidByText := true, laidKinds := [.data, .data, .data], laidTests := true, laidLooks := .later }
def EmuPrintsCardSaid : Prop := Claim7.holds Tryz.pinned (.plain (OpenSpec.ofChange emuPrintsSpec)) emuPrintsCard

/-- THE TIED CARD OF 'pontoonlaw17.EmuErases'. -/
def emuErasesCard : Claim7 := { stood := { row := emuErasesRow, standIns := [], harness := (true, "359e1003104cab3775aee3f7e6f3f05923f4a9be867bc769dd88e44e0034b0e9"), looks := false }, kinds := [], alts := [], laidByText := true, laidKinds := [.data, .data, .data], laidTests := true, laidLooks := .later }
def EmuErasesCardSaid : Prop := Claim7.holds Tryz.pinned (.plain (OpenSpec.ofChange emuErasesSpec)) emuErasesCard

/-- THE TIED CARD OF 'pontoonlaw17.EmuLines'. -/
def emuLinesCard : Claim7 := { stood := { row := emuLinesRow, standIns := [], harness := (true, "359e1003104cab3775aee3f7e6f3f05923f4a9be867bc769dd88e44e0034b0e9"), looks := false }, kinds := [], alts := [], laidByText := true, laidKinds := [.data, .data, .data], laidTests := true, laidLooks := .later }
def EmuLinesCardSaid : Prop := Claim7.holds Tryz.pinned (.plain (OpenSpec.ofChange emuLinesSpec)) emuLinesCard

/-- THE TIED CARD OF 'pontoonlaw17.EmuChars'. -/
def emuCharsCard : Claim7 := { stood := { row := emuCharsRow, standIns := [], harness := (true, "359e1003104cab3775aee3f7e6f3f05923f4a9be867bc769dd88e44e0034b0e9"), looks := false }, kinds := [], alts := [], laidByText := true, laidKinds := [.data, .data, .data], laidTests := true, laidLooks := .later }
def EmuCharsCardSaid : Prop := Claim7.holds Tryz.pinned (.plain (OpenSpec.ofChange emuCharsSpec)) emuCharsCard

/-- THE TIED CARD OF 'pontoonlaw17.EmuRegions'. -/
def emuRegionsCard : Claim7 := { stood := { row := emuRegionsRow, standIns := [], harness := (true, "359e1003104cab3775aee3f7e6f3f05923f4a9be867bc769dd88e44e0034b0e9"), looks := false }, kinds := [], alts := [], laidByText := true, laidKinds := [.data, .data, .data], laidTests := true, laidLooks := .later }
def EmuRegionsCardSaid : Prop := Claim7.holds Tryz.pinned (.plain (OpenSpec.ofChange emuRegionsSpec)) emuRegionsCard

/-- THE SECOND FORM's CARD OF 'pontoonlaw17.EmuSaves'. -/
def emuSavesUptoCard : Claim7 := { stood := { row := emuSavesUptoRow, standIns := [], harness := (true, "359e1003104cab3775aee3f7e6f3f05923f4a9be867bc769dd88e44e0034b0e9"), looks := false }, kinds := [], alts := [], laidByText := true, laidKinds := [.data, .data, .data], laidTests := true, laidLooks := .later }
def EmuSavesUptoCardSaid : Prop := Claim7.holds Tryz.pinned (.plain (OpenSpec.upto emuSavesSpec)) emuSavesUptoCard

/-- THE SECOND FORM's CARD OF 'pontoonlaw17.EmuPens'. -/
def emuPensUptoCard : Claim7 := { stood := { row := emuPensUptoRow, standIns := [], harness := (true, "359e1003104cab3775aee3f7e6f3f05923f4a9be867bc769dd88e44e0034b0e9"), looks := false }, kinds := [], alts := [], laidByText := true, laidKinds := [.data, .data, .data], laidTests := true, laidLooks := .later }
def EmuPensUptoCardSaid : Prop := Claim7.holds Tryz.pinned (.plain (OpenSpec.upto emuPensSpec)) emuPensUptoCard

/-- THE SECOND FORM's CARD OF 'pontoonlaw17.EmuSets'. -/
def emuSetsUptoCard : Claim7 := { stood := { row := emuSetsUptoRow, standIns := [], harness := (true, "359e1003104cab3775aee3f7e6f3f05923f4a9be867bc769dd88e44e0034b0e9"), looks := false }, kinds := [], alts := [], laidByText := true, laidKinds := [.data, .data, .data], laidTests := true, laidLooks := .later }
def EmuSetsUptoCardSaid : Prop := Claim7.holds Tryz.pinned (.plain (OpenSpec.upto emuSetsSpec)) emuSetsUptoCard

/-- THE SECOND FORM's CARD OF 'pontoonlaw17.EmuPrints'. -/
def emuPrintsUptoCard : Claim7 := { stood := { row := emuPrintsUptoRow, standIns := [], harness := (true, "359e1003104cab3775aee3f7e6f3f05923f4a9be867bc769dd88e44e0034b0e9"), looks := false }, kinds := [], alts := [], laidByText := true, laidKinds := [.data, .data, .data], laidTests := true, laidLooks := .later }
def EmuPrintsUptoCardSaid : Prop := Claim7.holds Tryz.pinned (.plain (OpenSpec.upto emuPrintsSpec)) emuPrintsUptoCard

/-- THE SECOND FORM's CARD OF 'pontoonlaw17.EmuErases'. -/
def emuErasesUptoCard : Claim7 := { stood := { row := emuErasesUptoRow, standIns := [], harness := (true, "359e1003104cab3775aee3f7e6f3f05923f4a9be867bc769dd88e44e0034b0e9"), looks := false }, kinds := [], alts := [], laidByText := true, laidKinds := [.data, .data, .data], laidTests := true, laidLooks := .later }
def EmuErasesUptoCardSaid : Prop := Claim7.holds Tryz.pinned (.plain (OpenSpec.upto emuErasesSpec)) emuErasesUptoCard

/-- THE SECOND FORM's CARD OF 'pontoonlaw17.EmuLines'. -/
def emuLinesUptoCard : Claim7 := { stood := { row := emuLinesUptoRow, standIns := [], harness := (true, "359e1003104cab3775aee3f7e6f3f05923f4a9be867bc769dd88e44e0034b0e9"), looks := false }, kinds := [], alts := [], laidByText := true, laidKinds := [.data, .data, .data], laidTests := true, laidLooks := .later }
def EmuLinesUptoCardSaid : Prop := Claim7.holds Tryz.pinned (.plain (OpenSpec.upto emuLinesSpec)) emuLinesUptoCard

/-- THE SECOND FORM's CARD OF 'pontoonlaw17.EmuChars'. -/
def emuCharsUptoCard : Claim7 := { stood := { row := emuCharsUptoRow, standIns := [], harness := (true, "359e1003104cab3775aee3f7e6f3f05923f4a9be867bc769dd88e44e0034b0e9"), looks := false }, kinds := [], alts := [], laidByText := true, laidKinds := [.data, .data, .data], laidTests := true, laidLooks := .later }
def EmuCharsUptoCardSaid : Prop := Claim7.holds Tryz.pinned (.plain (OpenSpec.upto emuCharsSpec)) emuCharsUptoCard

/-- THE SECOND FORM's CARD OF 'pontoonlaw17.EmuRegions'. -/
def emuRegionsUptoCard : Claim7 := { stood := { row := emuRegionsUptoRow, standIns := [], harness := (true, "359e1003104cab3775aee3f7e6f3f05923f4a9be867bc769dd88e44e0034b0e9"), looks := false }, kinds := [], alts := [], laidByText := true, laidKinds := [.data, .data, .data], laidTests := true, laidLooks := .later }
def EmuRegionsUptoCardSaid : Prop := Claim7.holds Tryz.pinned (.plain (OpenSpec.upto emuRegionsSpec)) emuRegionsUptoCard
end Rows
end Go.Proofs.YtpmnbfifpenlkaaGreatDoor
