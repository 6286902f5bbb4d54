/-
  DERIVED. GIVEN WITH THE SEED: THE CARDS: each row of YtfmobnlnedljeaaDoorRows.lean that lists a variable, with what it lists TIED to the program's text (the seventh form; the later family's looks); each row that meets fmt, with fmt's text TOLD by the authors' own Lean function (tested against real Go, not proved from fmt's source: count such statements apart). THE CARD IS WHAT COUNTS. Prove the row's statement (the work); the ties are given (YtfmobnlnedljeaaDoorTie.lean); close each card by the builder's one call (the guide's Derived/Test/ToyasCard.lean, 'card_holds'). Laid BY PROGRAM, IN A SANDBOX (cutbox-door.mjs). By AI agents, Wed Nov 11 2026. No macro, syntax, notation, axiom, sorry.
-/
import Derived.Test.YtfmobnlnedljeaaDoorRows
import GoSem.ClaimSeven
namespace Go.Proofs.YtfmobnlnedljeaaDoor
namespace Rows

/-- THE TIED CARD OF 'tailwaterlaw08.ClausesNames'. -/
def clausesNamesCard : Claim7 := { stood := { row := clausesNamesRow, standIns := [], harness := (true, "4fc4b57dc90fd6b9ac9e5dde4ad34e1926c3b24e9b5b1146c047398420a85afa"), looks := false }, kinds := [], alts := [], laidByText := true, laidKinds := [.data], laidTests := true, laidLooks := .later }
def ClausesNamesCardSaid : Prop := Claim7.holds Tryd.pinned (.plain (OpenSpec.ofChange clausesNamesSpec)) clausesNamesCard

/-- THE TIED CARD OF 'tailwaterlaw08.ClausesParts'. -/
def clausesPartsCard : Claim7 := { stood := { row := clausesPartsRow, standIns := [], harness := (true, "4fc4b57dc90fd6b9ac9e5dde4ad34e1926c3b24e9b5b1146c047398420a85afa"), looks := false }, kinds := [], alts := [], laidByText := true, laidKinds := [.data], laidTests := true, laidLooks := .later }
def ClausesPartsCardSaid : Prop := Claim7.holds Tryd.pinned (.plain (OpenSpec.ofChange clausesPartsSpec)) clausesPartsCard

/-- THE TIED CARD OF 'tailwaterlaw08.ClausesQueries'. -/
def clausesQueriesCard : Claim7 := { stood := { row := clausesQueriesRow, standIns := [], harness := (true, "4fc4b57dc90fd6b9ac9e5dde4ad34e1926c3b24e9b5b1146c047398420a85afa"), looks := false }, kinds := [], alts := [], laidByText := true, laidKinds := [.data], laidTests := true, laidLooks := .later }
def ClausesQueriesCardSaid : Prop := Claim7.holds Tryd.pinned (.plain (OpenSpec.ofChange clausesQueriesSpec)) clausesQueriesCard

/-- THE TIED CARD OF 'tailwaterlaw08.ClausesReplace'. -/
def clausesReplaceCard : Claim7 := { stood := { row := clausesReplaceRow, standIns := [], harness := (true, "4fc4b57dc90fd6b9ac9e5dde4ad34e1926c3b24e9b5b1146c047398420a85afa"), looks := false }, kinds := [], alts := [], laidByText := true, laidKinds := [.data], laidTests := true, laidLooks := .later }
def ClausesReplaceCardSaid : Prop := Claim7.holds Tryd.pinned (.plain (OpenSpec.ofChange clausesReplaceSpec)) clausesReplaceCard

/-- THE TIED CARD OF 'tailwaterlaw08.ClausesJoin'. -/
def clausesJoinCard : Claim7 := { stood := { row := clausesJoinRow, standIns := [], harness := (true, "4fc4b57dc90fd6b9ac9e5dde4ad34e1926c3b24e9b5b1146c047398420a85afa"), looks := false }, kinds := [], alts := [], laidByText := true, laidKinds := [.data], laidTests := true, laidLooks := .later }
def ClausesJoinCardSaid : Prop := Claim7.holds Tryd.pinned (.plain (OpenSpec.ofChange clausesJoinSpec)) clausesJoinCard

/-- THE TIED CARD OF 'tailwaterlaw08.ClausesOrder'. -/
def clausesOrderCard : Claim7 := { stood := { row := clausesOrderRow, standIns := [], harness := (true, "4fc4b57dc90fd6b9ac9e5dde4ad34e1926c3b24e9b5b1146c047398420a85afa"), looks := false }, kinds := [], alts := [], laidByText := true, laidKinds := [.data], laidTests := true, laidLooks := .later }
def ClausesOrderCardSaid : Prop := Claim7.holds Tryd.pinned (.plain (OpenSpec.ofChange clausesOrderSpec)) clausesOrderCard

/-- THE TIED CARD OF 'tailwaterlaw08.ClausesSame'. -/
def clausesSameCard : Claim7 := { stood := { row := clausesSameRow, standIns := [], harness := (true, "4fc4b57dc90fd6b9ac9e5dde4ad34e1926c3b24e9b5b1146c047398420a85afa"), looks := false }, kinds := [], alts := [], laidByText := true, laidKinds := [.data], laidTests := true, laidLooks := .later }
def ClausesSameCardSaid : Prop := Claim7.holds Tryd.pinned (.plain (OpenSpec.ofChange clausesSameSpec)) clausesSameCard

/-- THE SECOND FORM's CARD OF 'tailwaterlaw08.ClausesNames'. -/
def clausesNamesUptoCard : Claim7 := { stood := { row := clausesNamesUptoRow, standIns := [], harness := (true, "4fc4b57dc90fd6b9ac9e5dde4ad34e1926c3b24e9b5b1146c047398420a85afa"), looks := false }, kinds := [], alts := [], laidByText := true, laidKinds := [.data], laidTests := true, laidLooks := .later }
def ClausesNamesUptoCardSaid : Prop := Claim7.holds Tryd.pinned (.plain (OpenSpec.upto clausesNamesSpec)) clausesNamesUptoCard

/-- THE SECOND FORM's CARD OF 'tailwaterlaw08.ClausesParts'. -/
def clausesPartsUptoCard : Claim7 := { stood := { row := clausesPartsUptoRow, standIns := [], harness := (true, "4fc4b57dc90fd6b9ac9e5dde4ad34e1926c3b24e9b5b1146c047398420a85afa"), looks := false }, kinds := [], alts := [], laidByText := true, laidKinds := [.data], laidTests := true, laidLooks := .later }
def ClausesPartsUptoCardSaid : Prop := Claim7.holds Tryd.pinned (.plain (OpenSpec.upto clausesPartsSpec)) clausesPartsUptoCard

/-- THE SECOND FORM's CARD OF 'tailwaterlaw08.ClausesQueries'. -/
def clausesQueriesUptoCard : Claim7 := { stood := { row := clausesQueriesUptoRow, standIns := [], harness := (true, "4fc4b57dc90fd6b9ac9e5dde4ad34e1926c3b24e9b5b1146c047398420a85afa"), looks := false }, kinds := [], alts := [], laidByText := true, laidKinds := [.data], laidTests := true, laidLooks := .later }
def ClausesQueriesUptoCardSaid : Prop := Claim7.holds Tryd.pinned (.plain (OpenSpec.upto clausesQueriesSpec)) clausesQueriesUptoCard

/-- THE SECOND FORM's CARD OF 'tailwaterlaw08.ClausesReplace'. -/
def clausesReplaceUptoCard : Claim7 := { stood := { row := clausesReplaceUptoRow, standIns := [], harness := (true, "4fc4b57dc90fd6b9ac9e5dde4ad34e1926c3b24e9b5b1146c047398420a85afa"), looks := false }, kinds := [], alts := [], laidByText := true, laidKinds := [.data], laidTests := true, laidLooks := .later }
def ClausesReplaceUptoCardSaid : Prop := Claim7.holds Tryd.pinned (.plain (OpenSpec.upto clausesReplaceSpec)) clausesReplaceUptoCard

/-- THE SECOND FORM's CARD OF 'tailwaterlaw08.ClausesJoin'. -/
def clausesJoinUptoCard : Claim7 := { stood := { row := clausesJoinUptoRow, standIns := [], harness := (true, "4fc4b57dc90fd6b9ac9e5dde4ad34e1926c3b24e9b5b1146c047398420a85afa"), looks := false }, kinds := [], alts := [], laidByText := true, laidKinds := [.data], laidTests := true, laidLooks := .later }
def ClausesJoinUptoCardSaid : Prop := Claim7.holds Tryd.pinned (.plain (OpenSpec.upto clausesJoinSpec)) clausesJoinUptoCard

/-- THE SECOND FORM's CARD OF 'tailwaterlaw08.ClausesOrder'. -/
def clausesOrderUptoCard : Claim7 := { stood := { row := clausesOrderUptoRow, standIns := [], harness := (true, "4fc4b57dc90fd6b9ac9e5dde4ad34e1926c3b24e9b5b1146c047398420a85afa"), looks := false }, kinds := [], alts := [], laidByText := true, laidKinds := [.data], laidTests := true, laidLooks := .later }
def ClausesOrderUptoCardSaid : Prop := Claim7.holds Tryd.pinned (.plain (OpenSpec.upto clausesOrderSpec)) clausesOrderUptoCard

/-- THE SECOND FORM's CARD OF 'tailwaterlaw08.ClausesSame'. -/
def clausesSameUptoCard : Claim7 := { stood := { row := clausesSameUptoRow, standIns := [], harness := (true, "4fc4b57dc90fd6b9ac9e5dde4ad34e1926c3b24e9b5b1146c047398420a85afa"), looks := false }, kinds := [], alts := [], laidByText := true, laidKinds := [.data], laidTests := true, laidLooks := .later }
def ClausesSameUptoCardSaid : Prop := Claim7.holds Tryd.pinned (.plain (OpenSpec.upto clausesSameSpec)) clausesSameUptoCard
end Rows
end Go.Proofs.YtfmobnlnedljeaaDoor
