/-
  NARROWER THAN 'FOR EVERY INPUT', by the rows' own cells (each row's printed sentence says how): KindsNames: laid · KindsTells: laid · KindsOne: laid · KindsFirst: laid · KindsMade: laid · KindsPlaces: laid.
  DERIVED. THE GIVEN ROWS OF THIS SEAT. 6 by the template 'for every input the law returns true; each argument reads behind the call as it read before'; 0 by the template 'total and deterministic' (their statements: YtgmfelikmjclbaaDoorTotals.lean).
  GIVEN WITH THE SEED: the statements are not yours to turn. If you find one false, say at which input.
  Laid BY PROGRAM, IN A SANDBOX (cutbox-rows.mjs): the forced cells as the released guide's own fill.sh prints them over the translation e39ebe9beda5546f… (all of the seat's roots in one cut). By AI agents, Wed Nov 11 2026. No macro, syntax, notation, axiom, sorry.
-/
import Derived.Test.YtgmfelikmjclbaaDoorChecked
import GoSem.Claim
import GoSem.ClaimJoined
import GoSem.ClaimMapViews
import Derived.JoinedTies
import Derived.KernelRfl
namespace Go.Proofs.YtgmfelikmjclbaaDoor
/- THE CELL 'sum', in the pinned program and in every row, IS THE sha256 OF THE DUMP (.gsa) THAT YtgmfelikmjclbaaDoorProg.lean LOADS. Nothing in Lean hashes anything: it is a label: what it is worth is what the hold of that sum in a sandbox is worth. -/
noncomputable def Tryd.pinned : Pinned := { name := "ytgmfelikmjclbaadoor", sum := "e39ebe9beda5546f5ccdf7debb25a893378f3433a1fff376818b0305256c86a4", checked := Tryd.checked }
namespace Rows
def none {H : Type} : Left H := { results := [], args := [] }

/- WHAT THE LISTED PACKAGE-LEVEL VARIABLES READ AS WHEN THE CALL BEGINS. Each datum BY PROGRAM (the guide's laid-datum.mjs) off the statement by which the dump's own 'gosem.cut.vars' lays the variable. In a bare row this is a premise. The card (YtgmfelikmjclbaaDoorCards.lean) ties it to the program's text. -/
def laid_tailwater_kinds_gives {H : Type} : DataW H := .agg [.lit (.bool false), .lit (.bool false), .lit (.bool false), .lit (.bool false), .lit (.bool false), .lit (.bool false), .lit (.bool true), .lit (.bool false), .lit (.bool false), .lit (.bool false), .lit (.bool false), .lit (.bool false), .lit (.bool true), .lit (.bool true), .lit (.bool true), .lit (.bool true), .lit (.bool true), .lit (.bool true), .lit (.bool true), .lit (.bool true)]
def laid_tailwater_kinds_takes {H : Type} : DataW H := .agg [.lit (.bool false), .lit (.bool false), .lit (.bool false), .lit (.bool false), .lit (.bool false), .lit (.bool false), .lit (.bool true), .lit (.bool false), .lit (.bool false), .lit (.bool false), .lit (.bool false), .lit (.bool false), .lit (.bool false), .lit (.bool false), .lit (.bool false), .lit (.bool false), .lit (.bool false), .lit (.bool false), .lit (.bool true), .lit (.bool true)]

/-- 'tailwaterlaw06.KindsNames': WHATEVER THE INPUT: true; the input reads as it did. -/
def kindsNamesSpec : ChangeSpec := { name := "kindsNames", fn := fun _ => fun
  | [] => { results := [.lit (.bool true)], args := [] }
  | _ => none }
def kindsNamesRow : OpenClaim := { program := "ytgmfelikmjclbaadoor", sum := "e39ebe9beda5546f5ccdf7debb25a893378f3433a1fff376818b0305256c86a4", func := "tailwater/tailwaterlaw06.KindsNames", spec := "kindsNames", unfollowed := true, recurses := true, named := ["tailwater/kinds.gives", "tailwater/kinds.takes"], apart := false, laid := [("tailwater/kinds.gives", laid_tailwater_kinds_gives), ("tailwater/kinds.takes", laid_tailwater_kinds_takes)] }
def KindsNamesSaid : Prop := kindsNamesRow.holds Tryd.pinned (OpenSpec.ofChange kindsNamesSpec)

/-- ITS FALSE NEIGHBOUR: 'it returns false'. Refute it at one input. -/
def kindsNamesWrong : ChangeSpec := { name := "kindsNames", fn := fun _ => fun
  | [] => { results := [.lit (.bool false)], args := [] }
  | _ => none }
def KindsNamesWrongFalsely : Prop := kindsNamesRow.holds Tryd.pinned (OpenSpec.ofChange kindsNamesWrong)

/-- 'tailwaterlaw06.KindsTells': WHATEVER THE INPUT: true; the input reads as it did. -/
def kindsTellsSpec : ChangeSpec := { name := "kindsTells", fn := fun _ => fun
  | [d] => { results := [.lit (.bool true)], args := [d] }
  | _ => none }
def kindsTellsRow : OpenClaim := { program := "ytgmfelikmjclbaadoor", sum := "e39ebe9beda5546f5ccdf7debb25a893378f3433a1fff376818b0305256c86a4", func := "tailwater/tailwaterlaw06.KindsTells", spec := "kindsTells", unfollowed := true, recurses := true, named := ["tailwater/kinds.gives", "tailwater/kinds.takes"], apart := false, laid := [("tailwater/kinds.gives", laid_tailwater_kinds_gives), ("tailwater/kinds.takes", laid_tailwater_kinds_takes)] }
def KindsTellsSaid : Prop := kindsTellsRow.holds Tryd.pinned (OpenSpec.ofChange kindsTellsSpec)

/-- ITS FALSE NEIGHBOUR: 'it returns false'. Refute it at one input. -/
def kindsTellsWrong : ChangeSpec := { name := "kindsTells", fn := fun _ => fun
  | [d] => { results := [.lit (.bool false)], args := [d] }
  | _ => none }
def KindsTellsWrongFalsely : Prop := kindsTellsRow.holds Tryd.pinned (OpenSpec.ofChange kindsTellsWrong)

/-- 'tailwaterlaw06.KindsOne': WHATEVER THE INPUT: true; the input reads as it did. -/
def kindsOneSpec : ChangeSpec := { name := "kindsOne", fn := fun _ => fun
  | [d1, d2] => { results := [.lit (.bool true)], args := [d1, d2] }
  | _ => none }
def kindsOneRow : OpenClaim := { program := "ytgmfelikmjclbaadoor", sum := "e39ebe9beda5546f5ccdf7debb25a893378f3433a1fff376818b0305256c86a4", func := "tailwater/tailwaterlaw06.KindsOne", spec := "kindsOne", unfollowed := true, recurses := true, named := ["tailwater/kinds.gives", "tailwater/kinds.takes"], apart := false, laid := [("tailwater/kinds.gives", laid_tailwater_kinds_gives), ("tailwater/kinds.takes", laid_tailwater_kinds_takes)] }
def KindsOneSaid : Prop := kindsOneRow.holds Tryd.pinned (OpenSpec.ofChange kindsOneSpec)

/-- ITS FALSE NEIGHBOUR: 'it returns false'. Refute it at one input. -/
def kindsOneWrong : ChangeSpec := { name := "kindsOne", fn := fun _ => fun
  | [d1, d2] => { results := [.lit (.bool false)], args := [d1, d2] }
  | _ => none }
def KindsOneWrongFalsely : Prop := kindsOneRow.holds Tryd.pinned (OpenSpec.ofChange kindsOneWrong)

/-- 'tailwaterlaw06.KindsFirst': WHATEVER THE INPUT: true; the input reads as it did. -/
def kindsFirstSpec : ChangeSpec := { name := "kindsFirst", fn := fun _ => fun
  | [d] => { results := [.lit (.bool true)], args := [d] }
  | _ => none }
def kindsFirstRow : OpenClaim := { program := "ytgmfelikmjclbaadoor", sum := "e39ebe9beda5546f5ccdf7debb25a893378f3433a1fff376818b0305256c86a4", func := "tailwater/tailwaterlaw06.KindsFirst", spec := "kindsFirst", unfollowed := true, recurses := true, named := ["tailwater/kinds.gives", "tailwater/kinds.takes"], apart := false, laid := [("tailwater/kinds.gives", laid_tailwater_kinds_gives), ("tailwater/kinds.takes", laid_tailwater_kinds_takes)] }
def KindsFirstSaid : Prop := kindsFirstRow.holds Tryd.pinned (OpenSpec.ofChange kindsFirstSpec)

/-- ITS FALSE NEIGHBOUR: 'it returns false'. Refute it at one input. -/
def kindsFirstWrong : ChangeSpec := { name := "kindsFirst", fn := fun _ => fun
  | [d] => { results := [.lit (.bool false)], args := [d] }
  | _ => none }
def KindsFirstWrongFalsely : Prop := kindsFirstRow.holds Tryd.pinned (OpenSpec.ofChange kindsFirstWrong)

/-- 'tailwaterlaw06.KindsMade': WHATEVER THE INPUT: true; the input reads as it did. -/
def kindsMadeSpec : ChangeSpec := { name := "kindsMade", fn := fun _ => fun
  | [d1, d2, d3] => { results := [.lit (.bool true)], args := [d1, d2, d3] }
  | _ => none }
def kindsMadeRow : OpenClaim := { program := "ytgmfelikmjclbaadoor", sum := "e39ebe9beda5546f5ccdf7debb25a893378f3433a1fff376818b0305256c86a4", func := "tailwater/tailwaterlaw06.KindsMade", spec := "kindsMade", unfollowed := true, recurses := true, named := ["tailwater/kinds.gives", "tailwater/kinds.takes"], apart := false, laid := [("tailwater/kinds.gives", laid_tailwater_kinds_gives), ("tailwater/kinds.takes", laid_tailwater_kinds_takes)] }
def KindsMadeSaid : Prop := kindsMadeRow.holds Tryd.pinned (OpenSpec.ofChange kindsMadeSpec)

/-- ITS FALSE NEIGHBOUR: 'it returns false'. Refute it at one input. -/
def kindsMadeWrong : ChangeSpec := { name := "kindsMade", fn := fun _ => fun
  | [d1, d2, d3] => { results := [.lit (.bool false)], args := [d1, d2, d3] }
  | _ => none }
def KindsMadeWrongFalsely : Prop := kindsMadeRow.holds Tryd.pinned (OpenSpec.ofChange kindsMadeWrong)

/-- 'tailwaterlaw06.KindsPlaces': WHATEVER THE INPUT: true; the input reads as it did. -/
def kindsPlacesSpec : ChangeSpec := { name := "kindsPlaces", fn := fun _ => fun
  | [d1, d2, d3] => { results := [.lit (.bool true)], args := [d1, d2, d3] }
  | _ => none }
def kindsPlacesRow : OpenClaim := { program := "ytgmfelikmjclbaadoor", sum := "e39ebe9beda5546f5ccdf7debb25a893378f3433a1fff376818b0305256c86a4", func := "tailwater/tailwaterlaw06.KindsPlaces", spec := "kindsPlaces", unfollowed := true, recurses := true, named := ["tailwater/kinds.gives", "tailwater/kinds.takes"], apart := false, laid := [("tailwater/kinds.gives", laid_tailwater_kinds_gives), ("tailwater/kinds.takes", laid_tailwater_kinds_takes)] }
def KindsPlacesSaid : Prop := kindsPlacesRow.holds Tryd.pinned (OpenSpec.ofChange kindsPlacesSpec)

/-- ITS FALSE NEIGHBOUR: 'it returns false'. Refute it at one input. -/
def kindsPlacesWrong : ChangeSpec := { name := "kindsPlaces", fn := fun _ => fun
  | [d1, d2, d3] => { results := [.lit (.bool false)], args := [d1, d2, d3] }
  | _ => none }
def KindsPlacesWrongFalsely : Prop := kindsPlacesRow.holds Tryd.pinned (OpenSpec.ofChange kindsPlacesWrong)

/- THE SECOND FORM. 'bulk': how many values and letters a reading holds, each counted each time it is reached (what is shared counts as often as it is met; a slice's spare places count too). A statement '..UptoSaid' is the law's where the arguments, and the package variables that the reading takes, are together of bulk at most 1048576: NARROWER than '..Said'. Prove '..Said' where nothing that the law and all that it calls make is longer than what came in: it says more and counts as full. Else prove '..UptoSaid'. A law counts once. -/
mutual
def uptoBulk {H : Type} : DataW H → Nat
  | .lit (.string bytes) => bytes.length + 1
  | .lit _ => 1
  | .nil => 1
  | .ptr d => uptoBulk d + 1
  | .slice elems spare => uptoBulkAll elems + uptoBulkAll spare + 1
  | .agg parts => uptoBulkAll parts + 1
  | .iface _ d => uptoBulk d + 1
  | .map entries => uptoBulkEntries entries + 1
  | .held _ => 1
def uptoBulkAll {H : Type} : List (DataW H) → Nat
  | [] => 0
  | d :: r => uptoBulk d + uptoBulkAll r
def uptoBulkEntries {H : Type} : List (Lit × DataW H) → Nat
  | [] => 0
  | x :: r => uptoBulkEntry x + uptoBulkEntries r
def uptoBulkEntry {H : Type} : Lit × DataW H → Nat
  | (.string bytes, d) => bytes.length + uptoBulk d + 1
  | (_, d) => uptoBulk d + 1
 end
def uptoSmall : (H : Type) → List (DataW H) → Bool := fun _ ds => decide (uptoBulkAll ds ≤ 1048576)
def OpenSpec.upto (s : _root_.Go.ChangeSpec) : _root_.Go.OpenSpec := { _root_.Go.OpenSpec.ofChange s with cond := some uptoSmall }

/-- 'tailwaterlaw06.KindsNames', WHERE WHAT IT READS IS OF BULK AT MOST 1048576: true; the input reads as it did. -/
def kindsNamesUptoRow : OpenClaim := { program := "ytgmfelikmjclbaadoor", sum := "e39ebe9beda5546f5ccdf7debb25a893378f3433a1fff376818b0305256c86a4", func := "tailwater/tailwaterlaw06.KindsNames", spec := "kindsNames", unfollowed := true, recurses := true, named := ["tailwater/kinds.gives", "tailwater/kinds.takes"], apart := false, laid := [("tailwater/kinds.gives", laid_tailwater_kinds_gives), ("tailwater/kinds.takes", laid_tailwater_kinds_takes)], narrowed := true }
def KindsNamesUptoSaid : Prop := kindsNamesUptoRow.holds Tryd.pinned (OpenSpec.upto kindsNamesSpec)

/-- 'tailwaterlaw06.KindsTells', WHERE WHAT IT READS IS OF BULK AT MOST 1048576: true; the input reads as it did. -/
def kindsTellsUptoRow : OpenClaim := { program := "ytgmfelikmjclbaadoor", sum := "e39ebe9beda5546f5ccdf7debb25a893378f3433a1fff376818b0305256c86a4", func := "tailwater/tailwaterlaw06.KindsTells", spec := "kindsTells", unfollowed := true, recurses := true, named := ["tailwater/kinds.gives", "tailwater/kinds.takes"], apart := false, laid := [("tailwater/kinds.gives", laid_tailwater_kinds_gives), ("tailwater/kinds.takes", laid_tailwater_kinds_takes)], narrowed := true }
def KindsTellsUptoSaid : Prop := kindsTellsUptoRow.holds Tryd.pinned (OpenSpec.upto kindsTellsSpec)

/-- 'tailwaterlaw06.KindsOne', WHERE WHAT IT READS IS OF BULK AT MOST 1048576: true; the input reads as it did. -/
def kindsOneUptoRow : OpenClaim := { program := "ytgmfelikmjclbaadoor", sum := "e39ebe9beda5546f5ccdf7debb25a893378f3433a1fff376818b0305256c86a4", func := "tailwater/tailwaterlaw06.KindsOne", spec := "kindsOne", unfollowed := true, recurses := true, named := ["tailwater/kinds.gives", "tailwater/kinds.takes"], apart := false, laid := [("tailwater/kinds.gives", laid_tailwater_kinds_gives), ("tailwater/kinds.takes", laid_tailwater_kinds_takes)], narrowed := true }
def KindsOneUptoSaid : Prop := kindsOneUptoRow.holds Tryd.pinned (OpenSpec.upto kindsOneSpec)

/-- 'tailwaterlaw06.KindsFirst', WHERE WHAT IT READS IS OF BULK AT MOST 1048576: true; the input reads as it did. -/
def kindsFirstUptoRow : OpenClaim := { program := "ytgmfelikmjclbaadoor", sum := "e39ebe9beda5546f5ccdf7debb25a893378f3433a1fff376818b0305256c86a4", func := "tailwater/tailwaterlaw06.KindsFirst", spec := "kindsFirst", unfollowed := true, recurses := true, named := ["tailwater/kinds.gives", "tailwater/kinds.takes"], apart := false, laid := [("tailwater/kinds.gives", laid_tailwater_kinds_gives), ("tailwater/kinds.takes", laid_tailwater_kinds_takes)], narrowed := true }
def KindsFirstUptoSaid : Prop := kindsFirstUptoRow.holds Tryd.pinned (OpenSpec.upto kindsFirstSpec)

/-- 'tailwaterlaw06.KindsMade', WHERE WHAT IT READS IS OF BULK AT MOST 1048576: true; the input reads as it did. -/
def kindsMadeUptoRow : OpenClaim := { program := "ytgmfelikmjclbaadoor", sum := "e39ebe9beda5546f5ccdf7debb25a893378f3433a1fff376818b0305256c86a4", func := "tailwater/tailwaterlaw06.KindsMade", spec := "kindsMade", unfollowed := true, recurses := true, named := ["tailwater/kinds.gives", "tailwater/kinds.takes"], apart := false, laid := [("tailwater/kinds.gives", laid_tailwater_kinds_gives), ("tailwater/kinds.takes", laid_tailwater_kinds_takes)], narrowed := true }
def KindsMadeUptoSaid : Prop := kindsMadeUptoRow.holds Tryd.pinned (OpenSpec.upto kindsMadeSpec)

/-- 'tailwaterlaw06.KindsPlaces', WHERE WHAT IT READS IS OF BULK AT MOST 1048576: true; the input reads as it did. -/
def kindsPlacesUptoRow : OpenClaim := { program := "ytgmfelikmjclbaadoor", sum := "e39ebe9beda5546f5ccdf7debb25a893378f3433a1fff376818b0305256c86a4", func := "tailwater/tailwaterlaw06.KindsPlaces", spec := "kindsPlaces", unfollowed := true, recurses := true, named := ["tailwater/kinds.gives", "tailwater/kinds.takes"], apart := false, laid := [("tailwater/kinds.gives", laid_tailwater_kinds_gives), ("tailwater/kinds.takes", laid_tailwater_kinds_takes)], narrowed := true }
def KindsPlacesUptoSaid : Prop := kindsPlacesUptoRow.holds Tryd.pinned (OpenSpec.upto kindsPlacesSpec)

end Rows
end Go.Proofs.YtgmfelikmjclbaaDoor
