/-
  DERIVED. GIVEN WITH THE SEED: THE CARDS: each row of YtkoncbkehpoepaaDoorRows.lean that lists a variable, with what it lists TIED to the program's text (the seventh form; the later family's looks); each row that meets fmt, with fmt's text TOLD by the authors' own Lean function (tested against real Go, not proved from fmt's source: count such statements apart). THE CARD IS WHAT COUNTS. Prove the row's statement (the work); the ties are given (YtkoncbkehpoepaaDoorTie.lean); close each card by the builder's one call (the guide's Derived/Test/ToyasCard.lean, 'card_holds'). Laid BY PROGRAM, IN A SANDBOX (cutbox-door.mjs). By AI agents, Wed Nov 11 2026. No macro, syntax, notation, axiom, sorry.
-/
import Derived.Test.YtkoncbkehpoepaaDoorRows
import GoSem.ClaimSeven
namespace Go.Proofs.YtkoncbkehpoepaaDoor
namespace Rows

/-- THE TIED CARD OF 'tailwaterlaw01.IntsNames'. -/
def intsNamesCard : Claim7 := { stood := { row := intsNamesRow, standIns := [], harness := (true, "68fd6a41b8a02dc71af65769657fb4971076ff0543c42709d814d5366b7b0086"), looks := true }, kinds := [], alts := [], laidByText := true, laidKinds := [.data, .data, .data, .sentinel, .sentinel], laidTests := true, laidLooks := .later }
def IntsNamesCardSaid : Prop := Claim7.holds Tryd.pinned (.plain (OpenSpec.ofChange intsNamesSpec)) intsNamesCard

/-- THE TIED CARD OF 'tailwaterlaw01.IntsTexts'. -/
def intsTextsCard : Claim7 := { stood := { row := intsTextsRow, standIns := [], harness := (true, "68fd6a41b8a02dc71af65769657fb4971076ff0543c42709d814d5366b7b0086"), looks := true }, kinds := [], alts := [], laidByText := true, laidKinds := [.data, .data, .data, .sentinel, .sentinel], laidTests := true, laidLooks := .later }
def IntsTextsCardSaid : Prop := Claim7.holds Tryd.pinned (.plain (OpenSpec.ofChange intsTextsSpec)) intsTextsCard

/-- THE TIED CARD OF 'tailwaterlaw01.IntsRing'. -/
def intsRingCard : Claim7 := { stood := { row := intsRingRow, standIns := [], harness := (true, "68fd6a41b8a02dc71af65769657fb4971076ff0543c42709d814d5366b7b0086"), looks := true }, kinds := [], alts := [], laidByText := true, laidKinds := [.data, .data, .data, .sentinel, .sentinel], laidTests := true, laidLooks := .later }
def IntsRingCardSaid : Prop := Claim7.holds Tryd.pinned (.plain (OpenSpec.ofChange intsRingSpec)) intsRingCard

/-- THE TIED CARD OF 'tailwaterlaw01.IntsShifts'. -/
def intsShiftsCard : Claim7 := { stood := { row := intsShiftsRow, standIns := [], harness := (true, "68fd6a41b8a02dc71af65769657fb4971076ff0543c42709d814d5366b7b0086"), looks := true }, kinds := [], alts := [], laidByText := true, laidKinds := [.data, .data, .data, .sentinel, .sentinel], laidTests := true, laidLooks := .later }
def IntsShiftsCardSaid : Prop := Claim7.holds Tryd.pinned (.plain (OpenSpec.ofChange intsShiftsSpec)) intsShiftsCard

/-- THE TIED CARD OF 'tailwaterlaw01.IntsOrder'. -/
def intsOrderCard : Claim7 := { stood := { row := intsOrderRow, standIns := [], harness := (true, "68fd6a41b8a02dc71af65769657fb4971076ff0543c42709d814d5366b7b0086"), looks := true }, kinds := [], alts := [], laidByText := true, laidKinds := [.data, .data, .data, .sentinel, .sentinel], laidTests := true, laidLooks := .later }
def IntsOrderCardSaid : Prop := Claim7.holds Tryd.pinned (.plain (OpenSpec.ofChange intsOrderSpec)) intsOrderCard

/-- THE TIED CARD OF 'tailwaterlaw01.IntsWritten'. -/
def intsWrittenCard : Claim7 := { stood := { row := intsWrittenRow, standIns := [], harness := (true, "68fd6a41b8a02dc71af65769657fb4971076ff0543c42709d814d5366b7b0086"), looks := true }, kinds := [], alts := [], laidByText := true, laidKinds := [.data, .data, .data, .sentinel, .sentinel], laidTests := true, laidLooks := .later }
def IntsWrittenCardSaid : Prop := Claim7.holds Tryd.pinned (.plain (OpenSpec.ofChange intsWrittenSpec)) intsWrittenCard

/-- THE SECOND FORM's CARD OF 'tailwaterlaw01.IntsNames'. -/
def intsNamesUptoCard : Claim7 := { stood := { row := intsNamesUptoRow, standIns := [], harness := (true, "68fd6a41b8a02dc71af65769657fb4971076ff0543c42709d814d5366b7b0086"), looks := true }, kinds := [], alts := [], laidByText := true, laidKinds := [.data, .data, .data, .sentinel, .sentinel], laidTests := true, laidLooks := .later }
def IntsNamesUptoCardSaid : Prop := Claim7.holds Tryd.pinned (.plain (OpenSpec.upto intsNamesSpec)) intsNamesUptoCard

/-- THE SECOND FORM's CARD OF 'tailwaterlaw01.IntsTexts'. -/
def intsTextsUptoCard : Claim7 := { stood := { row := intsTextsUptoRow, standIns := [], harness := (true, "68fd6a41b8a02dc71af65769657fb4971076ff0543c42709d814d5366b7b0086"), looks := true }, kinds := [], alts := [], laidByText := true, laidKinds := [.data, .data, .data, .sentinel, .sentinel], laidTests := true, laidLooks := .later }
def IntsTextsUptoCardSaid : Prop := Claim7.holds Tryd.pinned (.plain (OpenSpec.upto intsTextsSpec)) intsTextsUptoCard

/-- THE SECOND FORM's CARD OF 'tailwaterlaw01.IntsRing'. -/
def intsRingUptoCard : Claim7 := { stood := { row := intsRingUptoRow, standIns := [], harness := (true, "68fd6a41b8a02dc71af65769657fb4971076ff0543c42709d814d5366b7b0086"), looks := true }, kinds := [], alts := [], laidByText := true, laidKinds := [.data, .data, .data, .sentinel, .sentinel], laidTests := true, laidLooks := .later }
def IntsRingUptoCardSaid : Prop := Claim7.holds Tryd.pinned (.plain (OpenSpec.upto intsRingSpec)) intsRingUptoCard

/-- THE SECOND FORM's CARD OF 'tailwaterlaw01.IntsShifts'. -/
def intsShiftsUptoCard : Claim7 := { stood := { row := intsShiftsUptoRow, standIns := [], harness := (true, "68fd6a41b8a02dc71af65769657fb4971076ff0543c42709d814d5366b7b0086"), looks := true }, kinds := [], alts := [], laidByText := true, laidKinds := [.data, .data, .data, .sentinel, .sentinel], laidTests := true, laidLooks := .later }
def IntsShiftsUptoCardSaid : Prop := Claim7.holds Tryd.pinned (.plain (OpenSpec.upto intsShiftsSpec)) intsShiftsUptoCard

/-- THE SECOND FORM's CARD OF 'tailwaterlaw01.IntsOrder'. -/
def intsOrderUptoCard : Claim7 := { stood := { row := intsOrderUptoRow, standIns := [], harness := (true, "68fd6a41b8a02dc71af65769657fb4971076ff0543c42709d814d5366b7b0086"), looks := true }, kinds := [], alts := [], laidByText := true, laidKinds := [.data, .data, .data, .sentinel, .sentinel], laidTests := true, laidLooks := .later }
def IntsOrderUptoCardSaid : Prop := Claim7.holds Tryd.pinned (.plain (OpenSpec.upto intsOrderSpec)) intsOrderUptoCard

/-- THE SECOND FORM's CARD OF 'tailwaterlaw01.IntsWritten'. -/
def intsWrittenUptoCard : Claim7 := { stood := { row := intsWrittenUptoRow, standIns := [], harness := (true, "68fd6a41b8a02dc71af65769657fb4971076ff0543c42709d814d5366b7b0086"), looks := true }, kinds := [], alts := [], laidByText := true, laidKinds := [.data, .data, .data, .sentinel, .sentinel], laidTests := true, laidLooks := .later }
def IntsWrittenUptoCardSaid : Prop := Claim7.holds Tryd.pinned (.plain (OpenSpec.upto intsWrittenSpec)) intsWrittenUptoCard
end Rows
end Go.Proofs.YtkoncbkehpoepaaDoor
