/-
  DERIVED. GIVEN WITH THE SEED: THE CARDS: each row of YtbhipjinoammjaaDoorRows.lean that lists a variable, with what it lists TIED to the program's text (the seventh form; the later family's looks); each row that meets fmt, with fmt's text TOLD by the authors' own Lean function (tested against real Go, not proved from fmt's source: count such statements apart). THE CARD IS WHAT COUNTS. Prove the row's statement (the work); the ties are given (YtbhipjinoammjaaDoorTie.lean); close each card by the builder's one call (the guide's Derived/Test/ToyasCard.lean, 'card_holds'). Laid BY PROGRAM, IN A SANDBOX (cutbox-door.mjs). By AI agents, Wed Nov 11 2026. No macro, syntax, notation, axiom, sorry.
-/
import Derived.Test.YtbhipjinoammjaaDoorRows
import GoSem.ClaimSeven
namespace Go.Proofs.YtbhipjinoammjaaDoor
namespace Rows

/-- THE TIED CARD OF 'tailwaterlaw05.ExprsNames'. -/
def exprsNamesCard : Claim7 := { stood := { row := exprsNamesRow, standIns := [], harness := (true, "b0a495b7bb56a6c2afb6dd04fbbecfdcade94a6e2611e20daba54468a019c39d"), looks := true }, kinds := [], alts := [], laidByText := true, laidKinds := [.data, .data, .data, .sentinel, .sentinel, .data, .data, .data], laidTests := true, laidLooks := .later }
def ExprsNamesCardSaid : Prop := Claim7.holds Tryd.pinned (.plain (OpenSpec.ofChange exprsNamesSpec)) exprsNamesCard

/-- THE TIED CARD OF 'tailwaterlaw05.ExprsBack'. -/
def exprsBackCard : Claim7 := { stood := { row := exprsBackRow, standIns := [], harness := (true, "b0a495b7bb56a6c2afb6dd04fbbecfdcade94a6e2611e20daba54468a019c39d"), looks := true }, kinds := [], alts := [], laidByText := true, laidKinds := [.data, .data, .data, .sentinel, .sentinel, .data, .data, .data], laidTests := true, laidLooks := .later }
def ExprsBackCardSaid : Prop := Claim7.holds Tryd.pinned (.plain (OpenSpec.ofChange exprsBackSpec)) exprsBackCard

/-- THE TIED CARD OF 'tailwaterlaw05.ExprsCounts'. -/
def exprsCountsCard : Claim7 := { stood := { row := exprsCountsRow, standIns := [], harness := (true, "b0a495b7bb56a6c2afb6dd04fbbecfdcade94a6e2611e20daba54468a019c39d"), looks := true }, kinds := [], alts := [], laidByText := true, laidKinds := [.data, .data, .data, .sentinel, .sentinel, .data, .data, .data], laidTests := true, laidLooks := .later }
def ExprsCountsCardSaid : Prop := Claim7.holds Tryd.pinned (.plain (OpenSpec.ofChange exprsCountsSpec)) exprsCountsCard

/-- THE TIED CARD OF 'tailwaterlaw05.ExprsBinds'. -/
def exprsBindsCard : Claim7 := { stood := { row := exprsBindsRow, standIns := [], harness := (true, "b0a495b7bb56a6c2afb6dd04fbbecfdcade94a6e2611e20daba54468a019c39d"), looks := true }, kinds := [], alts := [], laidByText := true, laidKinds := [.data, .data, .data, .sentinel, .sentinel, .data, .data, .data], laidTests := true, laidLooks := .later }
def ExprsBindsCardSaid : Prop := Claim7.holds Tryd.pinned (.plain (OpenSpec.ofChange exprsBindsSpec)) exprsBindsCard

/-- THE SECOND FORM's CARD OF 'tailwaterlaw05.ExprsNames'. -/
def exprsNamesUptoCard : Claim7 := { stood := { row := exprsNamesUptoRow, standIns := [], harness := (true, "b0a495b7bb56a6c2afb6dd04fbbecfdcade94a6e2611e20daba54468a019c39d"), looks := true }, kinds := [], alts := [], laidByText := true, laidKinds := [.data, .data, .data, .sentinel, .sentinel, .data, .data, .data], laidTests := true, laidLooks := .later }
def ExprsNamesUptoCardSaid : Prop := Claim7.holds Tryd.pinned (.plain (OpenSpec.upto exprsNamesSpec)) exprsNamesUptoCard

/-- THE SECOND FORM's CARD OF 'tailwaterlaw05.ExprsBack'. -/
def exprsBackUptoCard : Claim7 := { stood := { row := exprsBackUptoRow, standIns := [], harness := (true, "b0a495b7bb56a6c2afb6dd04fbbecfdcade94a6e2611e20daba54468a019c39d"), looks := true }, kinds := [], alts := [], laidByText := true, laidKinds := [.data, .data, .data, .sentinel, .sentinel, .data, .data, .data], laidTests := true, laidLooks := .later }
def ExprsBackUptoCardSaid : Prop := Claim7.holds Tryd.pinned (.plain (OpenSpec.upto exprsBackSpec)) exprsBackUptoCard

/-- THE SECOND FORM's CARD OF 'tailwaterlaw05.ExprsCounts'. -/
def exprsCountsUptoCard : Claim7 := { stood := { row := exprsCountsUptoRow, standIns := [], harness := (true, "b0a495b7bb56a6c2afb6dd04fbbecfdcade94a6e2611e20daba54468a019c39d"), looks := true }, kinds := [], alts := [], laidByText := true, laidKinds := [.data, .data, .data, .sentinel, .sentinel, .data, .data, .data], laidTests := true, laidLooks := .later }
def ExprsCountsUptoCardSaid : Prop := Claim7.holds Tryd.pinned (.plain (OpenSpec.upto exprsCountsSpec)) exprsCountsUptoCard

/-- THE SECOND FORM's CARD OF 'tailwaterlaw05.ExprsBinds'. -/
def exprsBindsUptoCard : Claim7 := { stood := { row := exprsBindsUptoRow, standIns := [], harness := (true, "b0a495b7bb56a6c2afb6dd04fbbecfdcade94a6e2611e20daba54468a019c39d"), looks := true }, kinds := [], alts := [], laidByText := true, laidKinds := [.data, .data, .data, .sentinel, .sentinel, .data, .data, .data], laidTests := true, laidLooks := .later }
def ExprsBindsUptoCardSaid : Prop := Claim7.holds Tryd.pinned (.plain (OpenSpec.upto exprsBindsSpec)) exprsBindsUptoCard
end Rows
end Go.Proofs.YtbhipjinoammjaaDoor
