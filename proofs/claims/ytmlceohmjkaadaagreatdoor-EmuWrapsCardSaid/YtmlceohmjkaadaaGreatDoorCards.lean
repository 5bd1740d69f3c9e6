/-
  DERIVED. GIVEN WITH THE SEED: THE CARDS: each row of YtmlceohmjkaadaaGreatDoorRows.lean that lists a variable, with what it lists TIED to the program's text (the seventh form; the later family's looks); each row that meets fmt, with fmt's text TOLD by the authors' own Lean function (tested against real Go, not proved from fmt's source: count such statements apart). THE CARD IS WHAT COUNTS. Prove the row's statement (the work); the ties are given (YtmlceohmjkaadaaGreatDoorTie.lean); close each card by the builder's one call (the guide's Derived/Test/ToyasCard.lean, 'card_holds'). Laid BY PROGRAM, IN A SANDBOX (cutbox-door.mjs). By AI agents, Wed Nov 11 2026. No macro, syntax, notation, axiom, sorry.
-/
import Derived.Test.YtmlceohmjkaadaaGreatDoorRows
import GoSem.ClaimSeven
namespace Go.Proofs.YtmlceohmjkaadaaGreatDoor
namespace Rows

/-- THE TIED CARD OF 'pontoonlaw17.EmuResets'. -/
def emuResetsCard : Claim7 := { stood := { row := emuResetsRow, standIns := [], harness := (true, "a6da42c8c6b9c8e63b37458cf19ad75ca51e1088d3b7a215e69515354f8ee132"), looks := false }, kinds := [], alts := [], laidByText := true, laidKinds := [.data, .data, .data], laidTests := true, laidLooks := .later }
def EmuResetsCardSaid : Prop := Claim7.holds Tryz.pinned (.plain (OpenSpec.ofChange emuResetsSpec)) emuResetsCard

/-- THE TIED CARD OF 'pontoonlaw17.EmuCuts'. -/
def emuCutsCard : Claim7 := { stood := { row := emuCutsRow, standIns := [], harness := (true, "a6da42c8c6b9c8e63b37458cf19ad75ca51e1088d3b7a215e69515354f8ee132"), looks := false }, kinds := [], alts := [], laidByText := true, laidKinds := [.data, .data, .data], laidTests := true, laidLooks := .later }
def EmuCutsCardSaid : Prop := Claim7.holds Tryz.pinned (.plain (OpenSpec.ofChange emuCutsSpec)) emuCutsCard

/-- THE TIED CARD OF 'pontoonlaw17.EmuReports'. -/
def emuReportsCard : Claim7 := { stood := { row := emuReportsRow, standIns := [], harness := (true, "a6da42c8c6b9c8e63b37458cf19ad75ca51e1088d3b7a215e69515354f8ee132"), looks := false }, kinds := [], alts := [], laidByText := true, laidKinds := [.data, .data, .data], laidTests := true, laidLooks := .later }
def EmuReportsCardSaid : Prop := Claim7.holds Tryz.pinned (.plain (OpenSpec.ofChange emuReportsSpec)) emuReportsCard

/-- THE TIED CARD OF 'pontoonlaw17.EmuMoves'. -/
def emuMovesCard : Claim7 := { stood := { row := emuMovesRow, standIns := [], harness := (true, "a6da42c8c6b9c8e63b37458cf19ad75ca51e1088d3b7a215e69515354f8ee132"), looks := false }, kinds := [], alts := [], laidByText := true, laidKinds := [.data, .data, .data], laidTests := true, laidLooks := .later }
def EmuMovesCardSaid : Prop := Claim7.holds Tryz.pinned (.plain (OpenSpec.ofChange emuMovesSpec)) emuMovesCard

/-- THE TIED CARD OF 'pontoonlaw17.EmuTabs'. -/
def emuTabsCard : Claim7 := { stood := { row := emuTabsRow, standIns := [], harness := (true, "a6da42c8c6b9c8e63b37458cf19ad75ca51e1088d3b7a215e69515354f8ee132"), looks := false }, kinds := [], alts := [], laidByText := true, laidKinds := [.data, .data, .data], laidTests := true, laidLooks := .later }
def EmuTabsCardSaid : Prop := Claim7.holds Tryz.pinned (.plain (OpenSpec.ofChange emuTabsSpec)) emuTabsCard

/-- THE TIED CARD OF 'pontoonlaw17.EmuWraps'. -/
def emuWrapsCard : Claim7 := { stood := { row := emuWrapsRow, standIns := [], harness := (true, "a6da42c8c6b9c8e63b37458cf19ad75ca51e1088d3b7a215e69515354f8ee132"), looks := false }, kinds := [], alts := [], laidByText := true, laidKinds := [.data, .data, .data], laidTests := true, laidLooks := .later }
def EmuWrapsCardSaid : Prop := Claim7.holds Tryz.pinned (.plain (OpenSpec.ofChange emuWrapsSpec)) emuWrapsCard

/-- THE TIED CARD OF 'pontoonlaw17.EmuOrigins'. -/
def emuOriginsCard : Claim7 := { stood := { row := emuOriginsRow, standIns := [], harness := (true, "a6da42c8c6b9c8e63b37458cf19ad75ca51e1088d3b7a215e69515354f8ee132"), looks := false }, kinds := [], alts := [], laidByText := true, laidKinds := [.data, .data, .data], laidTests := true, laidLooks := .later }
def EmuOriginsCardSaid : Prop := Claim7.holds Tryz.pinned (.plain (OpenSpec.ofChange emuOriginsSpec)) emuOriginsCard

/-- THE TIED CARD OF 'pontoonlaw17.EmuAlts'. -/
def emuAltsCard : Claim7 := { stood := { row := emuAltsRow, standIns := [], harness := (true, "a6da42c8c6b9c8e63b37458cf19ad75ca51e1088d3b7a215e69515354f8ee132"), looks := false }, kinds := [], alts := [], laidByText := true, laidKinds := [.data, .data, .data], laidTests := true, laidLooks := .later }
def EmuAltsCardSaid : Prop := Claim7.holds Tryz.pinned (.plain (OpenSpec.ofChange emuAltsSpec)) emuAltsCard

/-- THE TIED CARD OF 'pontoonlaw17.EmuHides'. -/
def emuHidesCard : Claim7 := { stood := { row := emuHidesRow, standIns := [], harness := (true, "a6da42c8c6b9c8e63b37458cf19ad75ca51e1088d3b7a215e69515354f8ee132"), looks := false }, kinds := [], alts := [], laidByText := true, laidKinds := [.data, .data, .data], laidTests := true, laidLooks := .later }
def EmuHidesCardSaid : Prop := Claim7.holds Tryz.pinned (.plain (OpenSpec.ofChange emuHidesSpec)) emuHidesCard

/-- THE TIED CARD OF 'pontoonlaw17.EmuStays'. -/
def emuStaysCard : Claim7 := { stood := { row := emuStaysRow, standIns := [], harness := (true, "a6da42c8c6b9c8e63b37458cf19ad75ca51e1088d3b7a215e69515354f8ee132"), looks := false }, kinds := [], alts := [], laidByText := true, laidKinds := [.data, .data, .data], laidTests := true, laidLooks := .later }
def EmuStaysCardSaid : Prop := Claim7.holds Tryz.pinned (.plain (OpenSpec.ofChange emuStaysSpec)) emuStaysCard

/-- THE SECOND FORM's CARD OF 'pontoonlaw17.EmuResets'. -/
def emuResetsUptoCard : Claim7 := { stood := { row := emuResetsUptoRow, standIns := [], harness := (true, "a6da42c8c6b9c8e63b37458cf19ad75ca51e1088d3b7a215e69515354f8ee132"), looks := false }, kinds := [], alts := [], laidByText := true, laidKinds := [.data, .data, .data], laidTests := true, laidLooks := .later }
def EmuResetsUptoCardSaid : Prop := Claim7.holds Tryz.pinned (.plain (OpenSpec.upto emuResetsSpec)) emuResetsUptoCard

/-- THE SECOND FORM's CARD OF 'pontoonlaw17.EmuCuts'. -/
def emuCutsUptoCard : Claim7 := { stood := { row := emuCutsUptoRow, standIns := [], harness := (true, "a6da42c8c6b9c8e63b37458cf19ad75ca51e1088d3b7a215e69515354f8ee132"), looks := false }, kinds := [], alts := [], laidByText := true, laidKinds := [.data, .data, .data], laidTests := true, laidLooks := .later }
def EmuCutsUptoCardSaid : Prop := Claim7.holds Tryz.pinned (.plain (OpenSpec.upto emuCutsSpec)) emuCutsUptoCard

/-- THE SECOND FORM's CARD OF 'pontoonlaw17.EmuReports'. -/
def emuReportsUptoCard : Claim7 := { stood := { row := emuReportsUptoRow, standIns := [], harness := (true, "a6da42c8c6b9c8e63b37458cf19ad75ca51e1088d3b7a215e69515354f8ee132"), looks := false }, kinds := [], alts := [], laidByText := true, laidKinds := [.data, .data, .data], laidTests := true, laidLooks := .later }
def EmuReportsUptoCardSaid : Prop := Claim7.holds Tryz.pinned (.plain (OpenSpec.upto emuReportsSpec)) emuReportsUptoCard

/-- THE SECOND FORM's CARD OF 'pontoonlaw17.EmuMoves'. -/
def emuMovesUptoCard : Claim7 := { stood := { row := emuMovesUptoRow, standIns := [], harness := (true, "a6da42c8c6b9c8e63b37458cf19ad75ca51e1088d3b7a215e69515354f8ee132"), looks := false }, kinds := [], alts := [], laidByText := true, laidKinds := [.data, .data, .data], laidTests := true, laidLooks := .later }
def EmuMovesUptoCardSaid : Prop := Claim7.holds Tryz.pinned (.plain (OpenSpec.upto emuMovesSpec)) emuMovesUptoCard

/-- THE SECOND FORM's CARD OF 'pontoonlaw17.EmuTabs'. -/
def emuTabsUptoCard : Claim7 := { stood := { row := emuTabsUptoRow, standIns := [], harness := (true, "a6da42c8c6b9c8e63b37458cf19ad75ca51e1088d3b7a215e69515354f8ee132"), looks := false }, kinds := [], alts := [], laidByText := true, laidKinds := [.data, .data, .data], laidTests := true, laidLooks := .later }
def EmuTabsUptoCardSaid : Prop := Claim7.holds Tryz.pinned (.plain (OpenSpec.upto emuTabsSpec)) emuTabsUptoCard

/-- THE SECOND FORM's CARD OF 'pontoonlaw17.EmuWraps'. -/
def emuWrapsUptoCard : Claim7 := { stood := { row := emuWrapsUptoRow, standIns := [], harness := (true, "a6da42c8c6b9c8e63b37458cf19ad75ca51e1088d3b7a215e69515354f8ee132"), looks := false }, kinds := [], alts := [], laidByText := true, laidKinds := [.data, .data, .data], laidTests := true, laidLooks := .later }
def EmuWrapsUptoCardSaid : Prop := Claim7.holds Tryz.pinned (.plain (OpenSpec.upto emuWrapsSpec)) emuWrapsUptoCard

/-- THE SECOND FORM's CARD OF 'pontoonlaw17.EmuOrigins'. -/
def emuOriginsUptoCard : Claim7 := { stood := { row := emuOriginsUptoRow, standIns := [], harness := (true, "a6da42c8c6b9c8e63b37458cf19ad75ca51e1088d3b7a215e69515354f8ee132"), looks := false }, kinds := [], alts := [], laidByText := true, laidKinds := [.data, .data, .data], laidTests := true, laidLooks := .later }
def EmuOriginsUptoCardSaid : Prop := Claim7.holds Tryz.pinned (.plain (OpenSpec.upto emuOriginsSpec)) emuOriginsUptoCard

/-- THE SECOND FORM's CARD OF 'pontoonlaw17.EmuAlts'. -/
def emuAltsUptoCard : Claim7 := { stood := { row := emuAltsUptoRow, standIns := [], harness := (true, "a6da42c8c6b9c8e63b37458cf19ad75ca51e1088d3b7a215e69515354f8ee132"), looks := false }, kinds := [], alts := [], laidByText := true, laidKinds := [.data, .data, .data], laidTests := true, laidLooks := .later }
def EmuAltsUptoCardSaid : Prop := Claim7.holds Tryz.pinned (.plain (OpenSpec.upto emuAltsSpec)) emuAltsUptoCard

/-- THE SECOND FORM's CARD OF 'pontoonlaw17.EmuHides'. -/
def emuHidesUptoCard : Claim7 := { stood := { row := emuHidesUptoRow, standIns := [], harness := (true, "a6da42c8c6b9c8e63b37458cf19ad75ca51e1088d3b7a215e69515354f8ee132"), looks := false }, kinds := [], alts := [], laidByText := true, laidKinds := [.data, .data, .data], laidTests := true, laidLooks := .later }
def EmuHidesUptoCardSaid : Prop := Claim7.holds Tryz.pinned (.plain (OpenSpec.upto emuHidesSpec)) emuHidesUptoCard

/-- THE SECOND FORM's CARD OF 'pontoonlaw17.EmuStays'. -/
def emuStaysUptoCard : Claim7 := { stood := { row := emuStaysUptoRow, standIns := [], harness := (true, "a6da42c8c6b9c8e63b37458cf19ad75ca51e1088d3b7a215e69515354f8ee132"), looks := false }, kinds := [], alts := [], laidByText := true, laidKinds := [.data, .data, .data], laidTests := true, laidLooks := .later }
def EmuStaysUptoCardSaid : Prop := Claim7.holds Tryz.pinned (.plain (OpenSpec.upto emuStaysSpec)) emuStaysUptoCard
end Rows
end Go.Proofs.YtmlceohmjkaadaaGreatDoor
