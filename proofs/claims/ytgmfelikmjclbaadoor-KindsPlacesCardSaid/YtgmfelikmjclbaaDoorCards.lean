/-
  DERIVED. GIVEN WITH THE SEED: THE CARDS: each row of YtgmfelikmjclbaaDoorRows.lean that lists a variable, with what it lists TIED to the program's text (the seventh form; the later family's looks); each row that meets fmt, with fmt's text TOLD by the authors' own Lean function (tested against real Go, not proved from fmt's source: count such statements apart). THE CARD IS WHAT COUNTS. Prove the row's statement (the work); the ties are given (YtgmfelikmjclbaaDoorTie.lean); close each card by the builder's one call (the guide's Derived/Test/ToyasCard.lean, 'card_holds'). Laid BY PROGRAM, IN A SANDBOX (cutbox-door.mjs). By AI agents, Wed Nov 11 2026. No macro, syntax, notation, axiom, sorry.
-/
import Derived.Test.YtgmfelikmjclbaaDoorRows
import GoSem.ClaimSeven
namespace Go.Proofs.YtgmfelikmjclbaaDoor
namespace Rows

/-- THE TIED CARD OF 'tailwaterlaw06.KindsNames'. -/
def kindsNamesCard : Claim7 := { stood := { row := kindsNamesRow, standIns := [], harness := (true, "3313b22763e7164236f09ed682ab268604ee3c42beeac316295a20d9da481ba9"), looks := false }, kinds := [], alts := [], laidByText := true, laidKinds := [.data, .data], laidTests := true, laidLooks := .later }
def KindsNamesCardSaid : Prop := Claim7.holds Tryd.pinned (.plain (OpenSpec.ofChange kindsNamesSpec)) kindsNamesCard

/-- THE TIED CARD OF 'tailwaterlaw06.KindsTells'. -/
def kindsTellsCard : Claim7 := { stood := { row := kindsTellsRow, standIns := [], harness := (true, "3313b22763e7164236f09ed682ab268604ee3c42beeac316295a20d9da481ba9"), looks := false }, kinds := [], alts := [], laidByText := true, laidKinds := [.data, .data], laidTests := true, laidLooks := .later }
def KindsTellsCardSaid : Prop := Claim7.holds Tryd.pinned (.plain (OpenSpec.ofChange kindsTellsSpec)) kindsTellsCard

/-- THE TIED CARD OF 'tailwaterlaw06.KindsOne'. -/
def kindsOneCard : Claim7 := { stood := { row := kindsOneRow, standIns := [], harness := (true, "3313b22763e7164236f09ed682ab268604ee3c42beeac316295a20d9da481ba9"), looks := false }, kinds := [], alts := [], laidByText := true, laidKinds := [.data, .data], laidTests := true, laidLooks := .later }
def KindsOneCardSaid : Prop := Claim7.holds Tryd.pinned (.plain (OpenSpec.ofChange kindsOneSpec)) kindsOneCard

/-- THE TIED CARD OF 'tailwaterlaw06.KindsFirst'. -/
def kindsFirstCard : Claim7 := { stood := { row := kindsFirstRow, standIns := [], harness := (true, "3313b22763e7164236f09ed682ab268604ee3c42beeac316295a20d9da481ba9"), looks := false }, kinds := [], alts := [], laidByText := true, laidKinds := [.data, .data], laidTests := true, laidLooks := .later }
def KindsFirstCardSaid : Prop := Claim7.holds Tryd.pinned (.plain (OpenSpec.ofChange kindsFirstSpec)) kindsFirstCard

/-- THE TIED CARD OF 'tailwaterlaw06.KindsMade'. -/
def kindsMadeCard : Claim7 := { stood := { row := kindsMadeRow, standIns := [], harness := (true, "3313b22763e7164236f09ed682ab268604ee3c42beeac316295a20d9da481ba9"), looks := false }, kinds := [], alts := [], laidByText := true, laidKinds := [.data, .data], laidTests := true, laidLooks := .later }
def KindsMadeCardSaid : Prop := Claim7.holds Tryd.pinned (.plain (OpenSpec.ofChange kindsMadeSpec)) kindsMadeCard

/-- THE TIED CARD OF 'tailwaterlaw06.KindsPlaces'. -/
def kindsPlacesCard : Claim7 := { stood := { row := kindsPlacesRow, standIns := [], harness := (true, "3313b22763e7164236f09ed682ab268604ee3c42beeac316295a20d9da481ba9"), looks := false }, kinds := [], alts := [], laidByText := true, laidKinds := [.data, .data], laidTests := true, laidLooks := .later }
def KindsPlacesCardSaid : Prop := Claim7.holds Tryd.pinned (.plain (OpenSpec.ofChange kindsPlacesSpec)) kindsPlacesCard

/-- THE SECOND FORM's CARD OF 'tailwaterlaw06.KindsNames'. -/
def kindsNamesUptoCard : Claim7 := { stood := { row := kindsNamesUptoRow, standIns := [], harness := (true, "3313b22763e7164236f09ed682ab268604ee3c42beeac316295a20d9da481ba9"), looks := false }, kinds := [], alts := [], laidByText := true, laidKinds := [.data, .data], laidTests := true, laidLooks := .later }
def KindsNamesUptoCardSaid : Prop := Claim7.holds Tryd.pinned (.plain (OpenSpec.upto kindsNamesSpec)) kindsNamesUptoCard

/-- THE SECOND FORM's CARD OF 'tailwaterlaw06.KindsTells'. -/
def kindsTellsUptoCard : Claim7 := { stood := { row := kindsTellsUptoRow, standIns := [], harness := (true, "3313b22763e7164236f09ed682ab268604ee3c42beeac316295a20d9da481ba9"), looks := false }, kinds := [], alts := [], laidByText := true, laidKinds := [.data, .data], laidTests := true, laidLooks := .later }
def KindsTellsUptoCardSaid : Prop := Claim7.holds Tryd.pinned (.plain (OpenSpec.upto kindsTellsSpec)) kindsTellsUptoCard

/-- THE SECOND FORM's CARD OF 'tailwaterlaw06.KindsOne'. -/
def kindsOneUptoCard : Claim7 := { stood := { row := kindsOneUptoRow, standIns := [], harness := (true, "3313b22763e7164236f09ed682ab268604ee3c42beeac316295a20d9da481ba9"), looks := false }, kinds := [], alts := [], laidByText := true, laidKinds := [.data, .data], laidTests := true, laidLooks := .later }
def KindsOneUptoCardSaid : Prop := Claim7.holds Tryd.pinned (.plain (OpenSpec.upto kindsOneSpec)) kindsOneUptoCard

/-- THE SECOND FORM's CARD OF 'tailwaterlaw06.KindsFirst'. -/
def kindsFirstUptoCard : Claim7 := { stood := { row := kindsFirstUptoRow, standIns := [], harness := (true, "3313b22763e7164236f09ed682ab268604ee3c42beeac316295a20d9da481ba9"), looks := false }, kinds := [], alts := [], laidByText := true, laidKinds := [.data, .data], laidTests := true, laidLooks := .later }
def KindsFirstUptoCardSaid : Prop := Claim7.holds Tryd.pinned (.plain (OpenSpec.upto kindsFirstSpec)) kindsFirstUptoCard

/-- THE SECOND FORM's CARD OF 'tailwaterlaw06.KindsMade'. -/
def kindsMadeUptoCard : Claim7 := { stood := { row := kindsMadeUptoRow, standIns := [], harness := (true, "3313b22763e7164236f09ed682ab268604ee3c42beeac316295a20d9da481ba9"), looks := false }, kinds := [], alts := [], laidByText := true, laidKinds := [.data, .data], laidTests := true, laidLooks := .later }
def KindsMadeUptoCardSaid : Prop := Claim7.holds Tryd.pinned (.plain (OpenSpec.upto kindsMadeSpec)) kindsMadeUptoCard

/-- THE SECOND FORM's CARD OF 'tailwaterlaw06.KindsPlaces'. -/
def kindsPlacesUptoCard : Claim7 := { stood := { row := kindsPlacesUptoRow, standIns := [], harness := (true, "3313b22763e7164236f09ed682ab268604ee3c42beeac316295a20d9da481ba9"), looks := false }, kinds := [], alts := [], laidByText := true, laidKinds := [.data, .data], laidTests := true, laidLooks := .later }
def KindsPlacesUptoCardSaid : Prop := Claim7.holds Tryd.pinned (.plain (OpenSpec.upto kindsPlacesSpec)) kindsPlacesUptoCard
end Rows
end Go.Proofs.YtgmfelikmjclbaaDoor
