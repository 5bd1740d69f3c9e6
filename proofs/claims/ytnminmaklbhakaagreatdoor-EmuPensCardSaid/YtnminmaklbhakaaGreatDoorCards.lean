/-
  DERIVED. GIVEN WITH THE SEED: THE CARDS: each row of YtnminmaklbhakaaGreatDoorRows.lean that lists a variable, with what it lists TIED to the program's text (the seventh form; the later family's looks); each row that meets fmt, with fmt's text TOLD by the authors' own Lean function (tested against real Go, not proved from fmt's source: count such statements apart). THE CARD IS WHAT COUNTS. Prove the row's statement (the work); the ties are given (YtnminmaklbhakaaGreatDoorTie.lean); close each card by the builder's one call (the guide's Derived/Test/ToyasCard.lean, 'card_holds'). Laid BY PROGRAM, IN A SANDBOX (cutbox-door.mjs). By AI agents, Wed Nov 11 2026. No macro, syntax, notation, axiom, sorry.
-/
import Derived.Test.YtnminmaklbhakaaGreatDoorRows
import GoSem.ClaimSeven
namespace Go.Proofs.YtnminmaklbhakaaGreatDoor
namespace Rows

/-- THE TIED CARD OF 'pontoonlaw17.EmuStays'. -/
def emuStaysCard : Claim7 := { stood := { row := emuStaysRow, standIns := [], harness := (true, "12368ed2e1959b4aa01a3a6ab7dfdc88e3f2df37ee31b6f554d87079d1e40678"), looks := false }, kinds := [], alts := [], laidByText := true, laidKinds := [.data, .data, .data], laidTests := true, laidLooks := .later }
def EmuStaysCardSaid : Prop := Claim7.holds Tryz.pinned (.plain (OpenSpec.ofChange emuStaysSpec)) emuStaysCard

/-- THE TIED CARD OF 'pontoonlaw17.EmuPens'. -/
def emuPensCard : Claim7 := { stood := { row := emuPensRow, standIns := [], harness := (true, "12368ed2e1959b4aa01a3a6ab7dfdc88e3f2df37ee31b6f554d87079d1e40678"), looks := false }, kinds := [], alts := [], laidByText := true, laidKinds := [.data, .data, .data], laidTests := true, laidLooks := .later }
def EmuPensCardSaid : Prop := Claim7.holds Tryz.pinned (.plain (OpenSpec.ofChange emuPensSpec)) emuPensCard

/-- THE SECOND FORM's CARD OF 'pontoonlaw17.EmuStays'. -/
def emuStaysUptoCard : Claim7 := { stood := { row := emuStaysUptoRow, standIns := [], harness := (true, "12368ed2e1959b4aa01a3a6ab7dfdc88e3f2df37ee31b6f554d87079d1e40678"), looks := false }, kinds := [], alts := [], laidByText := true, laidKinds := [.data, .data, .data], laidTests := true, laidLooks := .later }
def EmuStaysUptoCardSaid : Prop := Claim7.holds Tryz.pinned (.plain (OpenSpec.upto emuStaysSpec)) emuStaysUptoCard

/-- THE SECOND FORM's CARD OF 'pontoonlaw17.EmuPens'. -/
def emuPensUptoCard : Claim7 := { stood := { row := emuPensUptoRow, standIns := [], harness := (true, "12368ed2e1959b4aa01a3a6ab7dfdc88e3f2df37ee31b6f554d87079d1e40678"), looks := false }, kinds := [], alts := [], laidByText := true, laidKinds := [.data, .data, .data], laidTests := true, laidLooks := .later }
def EmuPensUptoCardSaid : Prop := Claim7.holds Tryz.pinned (.plain (OpenSpec.upto emuPensSpec)) emuPensUptoCard
end Rows
end Go.Proofs.YtnminmaklbhakaaGreatDoor
