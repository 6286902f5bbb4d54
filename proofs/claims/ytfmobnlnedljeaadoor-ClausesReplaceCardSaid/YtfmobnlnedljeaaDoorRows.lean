/-
  NARROWER THAN 'FOR EVERY INPUT', by the rows' own cells (each row's printed sentence says how): ClausesNames: laid · ClausesParts: laid · ClausesQueries: laid · ClausesReplace: laid · ClausesJoin: laid · ClausesOrder: laid · ClausesSame: laid.
  DERIVED. THE GIVEN ROWS OF THIS SEAT. 7 by the template 'for every input the law returns true; each argument reads behind the call as it read before'; 0 by the template 'total and deterministic' (their statements: YtfmobnlnedljeaaDoorTotals.lean).
  GIVEN WITH THE SEED: the statements are not yours to turn. If you find one false, say at which input.
  Laid BY PROGRAM, IN A SANDBOX (cutbox-rows.mjs): the forced cells as the released guide's own fill.sh prints them over the translation 4c38dc331262be94… (all of the seat's roots in one cut). By AI agents, Wed Nov 11 2026. No macro, syntax, notation, axiom, sorry.
-/
import Derived.Test.YtfmobnlnedljeaaDoorChecked
import GoSem.Claim
import GoSem.ClaimJoined
import GoSem.ClaimMapViews
import Derived.JoinedTies
import Derived.KernelRfl
namespace Go.Proofs.YtfmobnlnedljeaaDoor
/- THE CELL 'sum', in the pinned program and in every row, IS THE sha256 OF THE DUMP (.gsa) THAT YtfmobnlnedljeaaDoorProg.lean LOADS. Nothing in Lean hashes anything: it is a label: what it is worth is what the hold of that sum in a sandbox is worth. -/
noncomputable def Tryd.pinned : Pinned := { name := "ytfmobnlnedljeaadoor", sum := "4c38dc331262be94639cc0ae7f585852a0ba8690b1e3a8b297280ebdc76a5f13", checked := Tryd.checked }
namespace Rows
def none {H : Type} : Left H := { results := [], args := [] }

/- WHAT THE LISTED PACKAGE-LEVEL VARIABLES READ AS WHEN THE CALL BEGINS. Each datum BY PROGRAM (the guide's laid-datum.mjs) off the statement by which the dump's own 'gosem.cut.vars' lays the variable. In a bare row this is a premise. The card (YtfmobnlnedljeaaDoorCards.lean) ties it to the program's text. -/
def laid_tailwater_clauses_names {H : Type} : DataW H := .agg [.lit (.string [97]), .lit (.string [98]), .lit (.string [99]), .lit (.string [100])]

/-- 'tailwaterlaw08.ClausesNames': WHATEVER THE INPUT: true; the input reads as it did. -/
def clausesNamesSpec : ChangeSpec := { name := "clausesNames", fn := fun _ => fun
  | [] => { results := [.lit (.bool true)], args := [] }
  | _ => none }
def clausesNamesRow : OpenClaim := { program := "ytfmobnlnedljeaadoor", sum := "4c38dc331262be94639cc0ae7f585852a0ba8690b1e3a8b297280ebdc76a5f13", func := "tailwater/tailwaterlaw08.ClausesNames", spec := "clausesNames", named := ["tailwater/clauses.names"], apart := false, laid := [("tailwater/clauses.names", laid_tailwater_clauses_names)] }
def ClausesNamesSaid : Prop := clausesNamesRow.holds Tryd.pinned (OpenSpec.ofChange clausesNamesSpec)

/-- ITS FALSE NEIGHBOUR: 'it returns false'. Refute it at one input. -/
def clausesNamesWrong : ChangeSpec := { name := "clausesNames", fn := fun _ => fun
  | [] => { results := [.lit (.bool false)], args := [] }
  | _ => none }
def ClausesNamesWrongFalsely : Prop := clausesNamesRow.holds Tryd.pinned (OpenSpec.ofChange clausesNamesWrong)

/-- 'tailwaterlaw08.ClausesParts': WHATEVER THE INPUT: true; the input reads as it did. -/
def clausesPartsSpec : ChangeSpec := { name := "clausesParts", fn := fun _ => fun
  | [d1, d2, d3, d4, d5] => { results := [.lit (.bool true)], args := [d1, d2, d3, d4, d5] }
  | _ => none }
def clausesPartsRow : OpenClaim := { program := "ytfmobnlnedljeaadoor", sum := "4c38dc331262be94639cc0ae7f585852a0ba8690b1e3a8b297280ebdc76a5f13", func := "tailwater/tailwaterlaw08.ClausesParts", spec := "clausesParts", named := ["tailwater/clauses.names"], apart := false, laid := [("tailwater/clauses.names", laid_tailwater_clauses_names)] }
def ClausesPartsSaid : Prop := clausesPartsRow.holds Tryd.pinned (OpenSpec.ofChange clausesPartsSpec)

/-- ITS FALSE NEIGHBOUR: 'it returns false'. Refute it at one input. -/
def clausesPartsWrong : ChangeSpec := { name := "clausesParts", fn := fun _ => fun
  | [d1, d2, d3, d4, d5] => { results := [.lit (.bool false)], args := [d1, d2, d3, d4, d5] }
  | _ => none }
def ClausesPartsWrongFalsely : Prop := clausesPartsRow.holds Tryd.pinned (OpenSpec.ofChange clausesPartsWrong)

/-- 'tailwaterlaw08.ClausesQueries': WHATEVER THE INPUT: true; the input reads as it did. -/
def clausesQueriesSpec : ChangeSpec := { name := "clausesQueries", fn := fun _ => fun
  | [d1, d2] => { results := [.lit (.bool true)], args := [d1, d2] }
  | _ => none }
def clausesQueriesRow : OpenClaim := { program := "ytfmobnlnedljeaadoor", sum := "4c38dc331262be94639cc0ae7f585852a0ba8690b1e3a8b297280ebdc76a5f13", func := "tailwater/tailwaterlaw08.ClausesQueries", spec := "clausesQueries", named := ["tailwater/clauses.names"], apart := false, laid := [("tailwater/clauses.names", laid_tailwater_clauses_names)] }
def ClausesQueriesSaid : Prop := clausesQueriesRow.holds Tryd.pinned (OpenSpec.ofChange clausesQueriesSpec)

/-- ITS FALSE NEIGHBOUR: 'it returns false'. Refute it at one input. -/
def clausesQueriesWrong : ChangeSpec := { name := "clausesQueries", fn := fun _ => fun
  | [d1, d2] => { results := [.lit (.bool false)], args := [d1, d2] }
  | _ => none }
def ClausesQueriesWrongFalsely : Prop := clausesQueriesRow.holds Tryd.pinned (OpenSpec.ofChange clausesQueriesWrong)

/-- 'tailwaterlaw08.ClausesReplace': WHATEVER THE INPUT: true; the input reads as it did. -/
def clausesReplaceSpec : ChangeSpec := { name := "clausesReplace", fn := fun _ => fun
  | [d1, d2, d3, d4] => { results := [.lit (.bool true)], args := [d1, d2, d3, d4] }
  | _ => none }
def clausesReplaceRow : OpenClaim := { program := "ytfmobnlnedljeaadoor", sum := "4c38dc331262be94639cc0ae7f585852a0ba8690b1e3a8b297280ebdc76a5f13", func := "tailwater/tailwaterlaw08.ClausesReplace", spec := "clausesReplace", named := ["tailwater/clauses.names"], apart := false, laid := [("tailwater/clauses.names", laid_tailwater_clauses_names)] }
def ClausesReplaceSaid : Prop := clausesReplaceRow.holds Tryd.pinned (OpenSpec.ofChange clausesReplaceSpec)

/-- ITS FALSE NEIGHBOUR: 'it returns false'. Refute it at one input. -/
def clausesReplaceWrong : ChangeSpec := { name := "clausesReplace", fn := fun _ => fun
  | [d1, d2, d3, d4] => { results := [.lit (.bool false)], args := [d1, d2, d3, d4] }
  | _ => none }
def ClausesReplaceWrongFalsely : Prop := clausesReplaceRow.holds Tryd.pinned (OpenSpec.ofChange clausesReplaceWrong)

/-- 'tailwaterlaw08.ClausesJoin': WHATEVER THE INPUT: true; the input reads as it did. -/
def clausesJoinSpec : ChangeSpec := { name := "clausesJoin", fn := fun _ => fun
  | [d] => { results := [.lit (.bool true)], args := [d] }
  | _ => none }
def clausesJoinRow : OpenClaim := { program := "ytfmobnlnedljeaadoor", sum := "4c38dc331262be94639cc0ae7f585852a0ba8690b1e3a8b297280ebdc76a5f13", func := "tailwater/tailwaterlaw08.ClausesJoin", spec := "clausesJoin", named := ["tailwater/clauses.names"], apart := false, laid := [("tailwater/clauses.names", laid_tailwater_clauses_names)] }
def ClausesJoinSaid : Prop := clausesJoinRow.holds Tryd.pinned (OpenSpec.ofChange clausesJoinSpec)

/-- ITS FALSE NEIGHBOUR: 'it returns false'. Refute it at one input. -/
def clausesJoinWrong : ChangeSpec := { name := "clausesJoin", fn := fun _ => fun
  | [d] => { results := [.lit (.bool false)], args := [d] }
  | _ => none }
def ClausesJoinWrongFalsely : Prop := clausesJoinRow.holds Tryd.pinned (OpenSpec.ofChange clausesJoinWrong)

/-- 'tailwaterlaw08.ClausesOrder': WHATEVER THE INPUT: true; the input reads as it did. -/
def clausesOrderSpec : ChangeSpec := { name := "clausesOrder", fn := fun _ => fun
  | [d1, d2, d3] => { results := [.lit (.bool true)], args := [d1, d2, d3] }
  | _ => none }
def clausesOrderRow : OpenClaim := { program := "ytfmobnlnedljeaadoor", sum := "4c38dc331262be94639cc0ae7f585852a0ba8690b1e3a8b297280ebdc76a5f13", func := "tailwater/tailwaterlaw08.ClausesOrder", spec := "clausesOrder", named := ["tailwater/clauses.names"], apart := false, laid := [("tailwater/clauses.names", laid_tailwater_clauses_names)] }
def ClausesOrderSaid : Prop := clausesOrderRow.holds Tryd.pinned (OpenSpec.ofChange clausesOrderSpec)

/-- ITS FALSE NEIGHBOUR: 'it returns false'. Refute it at one input. -/
def clausesOrderWrong : ChangeSpec := { name := "clausesOrder", fn := fun _ => fun
  | [d1, d2, d3] => { results := [.lit (.bool false)], args := [d1, d2, d3] }
  | _ => none }
def ClausesOrderWrongFalsely : Prop := clausesOrderRow.holds Tryd.pinned (OpenSpec.ofChange clausesOrderWrong)

/-- 'tailwaterlaw08.ClausesSame': WHATEVER THE INPUT: true; the input reads as it did. -/
def clausesSameSpec : ChangeSpec := { name := "clausesSame", fn := fun _ => fun
  | [d1, d2, d3] => { results := [.lit (.bool true)], args := [d1, d2, d3] }
  | _ => none }
def clausesSameRow : OpenClaim := { program := "ytfmobnlnedljeaadoor", sum := "4c38dc331262be94639cc0ae7f585852a0ba8690b1e3a8b297280ebdc76a5f13", func := "tailwater/tailwaterlaw08.ClausesSame", spec := "clausesSame", named := ["tailwater/clauses.names"], apart := false, laid := [("tailwater/clauses.names", laid_tailwater_clauses_names)] }
def ClausesSameSaid : Prop := clausesSameRow.holds Tryd.pinned (OpenSpec.ofChange clausesSameSpec)

/-- ITS FALSE NEIGHBOUR: 'it returns false'. Refute it at one input. -/
def clausesSameWrong : ChangeSpec := { name := "clausesSame", fn := fun _ => fun
  | [d1, d2, d3] => { results := [.lit (.bool false)], args := [d1, d2, d3] }
  | _ => none }
def ClausesSameWrongFalsely : Prop := clausesSameRow.holds Tryd.pinned (OpenSpec.ofChange clausesSameWrong)

/- THE SECOND FORM. 'bulk': how many values and letters a reading holds, each counted each time it is reached (what is shared counts as often as it is met; a slice's spare places count too). A statement '..UptoSaid' is the law's where the arguments, and the package variables that the reading takes, are together of bulk at most 1048576: NARROWER than '..Said'. Prove '..Said' where nothing that the law and all that it calls make is longer than what came in: it says more and counts as full. Else prove '..UptoSaid'. A law counts once. -/
mutual
def uptoBulk {H : Type} : DataW H → Nat
  | .lit (.string bytes) => bytes.length + 1
  | .lit _ => 1
  | .nil => 1
  | .ptr d => uptoBulk d + 1
  | .slice elems spare => uptoBulkAll elems + uptoBulkAll spare + 1
  | .agg parts => uptoBulkAll parts + 1
  | .iface _ d => uptoBulk d + 1
  | .map entries => uptoBulkEntries entries + 1
  | .held _ => 1
def uptoBulkAll {H : Type} : List (DataW H) → Nat
  | [] => 0
  | d :: r => uptoBulk d + uptoBulkAll r
def uptoBulkEntries {H : Type} : List (Lit × DataW H) → Nat
  | [] => 0
  | x :: r => uptoBulkEntry x + uptoBulkEntries r
def uptoBulkEntry {H : Type} : Lit × DataW H → Nat
  | (.string bytes, d) => bytes.length + uptoBulk d + 1
  | (_, d) => uptoBulk d + 1
 end
def uptoSmall : (H : Type) → List (DataW H) → Bool := fun _ ds => decide (uptoBulkAll ds ≤ 1048576)
def OpenSpec.upto (s : _root_.Go.ChangeSpec) : _root_.Go.OpenSpec := { _root_.Go.OpenSpec.ofChange s with cond := some uptoSmall }

/-- 'tailwaterlaw08.ClausesNames', WHERE WHAT IT READS IS OF BULK AT MOST 1048576: true; the input reads as it did. -/
def clausesNamesUptoRow : OpenClaim := { program := "ytfmobnlnedljeaadoor", sum := "4c38dc331262be94639cc0ae7f585852a0ba8690b1e3a8b297280ebdc76a5f13", func := "tailwater/tailwaterlaw08.ClausesNames", spec := "clausesNames", named := ["tailwater/clauses.names"], apart := false, laid := [("tailwater/clauses.names", laid_tailwater_clauses_names)], narrowed := true }
def ClausesNamesUptoSaid : Prop := clausesNamesUptoRow.holds Tryd.pinned (OpenSpec.upto clausesNamesSpec)

/-- 'tailwaterlaw08.ClausesParts', WHERE WHAT IT READS IS OF BULK AT MOST 1048576: true; the input reads as it did. -/
def clausesPartsUptoRow : OpenClaim := { program := "ytfmobnlnedljeaadoor", sum := "4c38dc331262be94639cc0ae7f585852a0ba8690b1e3a8b297280ebdc76a5f13", func := "tailwater/tailwaterlaw08.ClausesParts", spec := "clausesParts", named := ["tailwater/clauses.names"], apart := false, laid := [("tailwater/clauses.names", laid_tailwater_clauses_names)], narrowed := true }
def ClausesPartsUptoSaid : Prop := clausesPartsUptoRow.holds Tryd.pinned (OpenSpec.upto clausesPartsSpec)

/-- 'tailwaterlaw08.ClausesQueries', WHERE WHAT IT READS IS OF BULK AT MOST 1048576: true; the input reads as it did. -/
def clausesQueriesUptoRow : OpenClaim := { program := "ytfmobnlnedljeaadoor", sum := "4c38dc331262be94639cc0ae7f585852a0ba8690b1e3a8b297280ebdc76a5f13", func := "tailwater/tailwaterlaw08.ClausesQueries", spec := "clausesQueries", named := ["tailwater/clauses.names"], apart := false, laid := [("tailwater/clauses.names", laid_tailwater_clauses_names)], narrowed := true }
def ClausesQueriesUptoSaid : Prop := clausesQueriesUptoRow.holds Tryd.pinned (OpenSpec.upto clausesQueriesSpec)

/-- 'tailwaterlaw08.ClausesReplace', WHERE WHAT IT READS IS OF BULK AT MOST 1048576: true; the input reads as it did. -/
def clausesReplaceUptoRow : OpenClaim := { program := "ytfmobnlnedljeaadoor", sum := "4c38dc331262be94639cc0ae7f585852a0ba8690b1e3a8b297280ebdc76a5f13", func := "tailwater/tailwaterlaw08.ClausesReplace", spec := "clausesReplace", named := ["tailwater/clauses.names"], apart := false, laid := [("tailwater/clauses.names", laid_tailwater_clauses_names)], narrowed := true }
def ClausesReplaceUptoSaid : Prop := clausesReplaceUptoRow.holds Tryd.pinned (OpenSpec.upto clausesReplaceSpec)

/-- 'tailwaterlaw08.ClausesJoin', WHERE WHAT IT READS IS OF BULK AT MOST 1048576: true; the input reads as it did. -/
def clausesJoinUptoRow : OpenClaim := { program := "ytfmobnlnedljeaadoor", sum := "4c38dc331262be94639cc0ae7f585852a0ba8690b1e3a8b297280ebdc76a5f13", func := "tailwater/tailwaterlaw08.ClausesJoin", spec := "clausesJoin", named := ["tailwater/clauses.names"], apart := false, laid := [("tailwater/clauses.names", laid_tailwater_clauses_names)], narrowed := true }
def ClausesJoinUptoSaid : Prop := clausesJoinUptoRow.holds Tryd.pinned (OpenSpec.upto clausesJoinSpec)

/-- 'tailwaterlaw08.ClausesOrder', WHERE WHAT IT READS IS OF BULK AT MOST 1048576: true; the input reads as it did. -/
def clausesOrderUptoRow : OpenClaim := { program := "ytfmobnlnedljeaadoor", sum := "4c38dc331262be94639cc0ae7f585852a0ba8690b1e3a8b297280ebdc76a5f13", func := "tailwater/tailwaterlaw08.ClausesOrder", spec := "clausesOrder", named := ["tailwater/clauses.names"], apart := false, laid := [("tailwater/clauses.names", laid_tailwater_clauses_names)], narrowed := true }
def ClausesOrderUptoSaid : Prop := clausesOrderUptoRow.holds Tryd.pinned (OpenSpec.upto clausesOrderSpec)

/-- 'tailwaterlaw08.ClausesSame', WHERE WHAT IT READS IS OF BULK AT MOST 1048576: true; the input reads as it did. -/
def clausesSameUptoRow : OpenClaim := { program := "ytfmobnlnedljeaadoor", sum := "4c38dc331262be94639cc0ae7f585852a0ba8690b1e3a8b297280ebdc76a5f13", func := "tailwater/tailwaterlaw08.ClausesSame", spec := "clausesSame", named := ["tailwater/clauses.names"], apart := false, laid := [("tailwater/clauses.names", laid_tailwater_clauses_names)], narrowed := true }
def ClausesSameUptoSaid : Prop := clausesSameUptoRow.holds Tryd.pinned (OpenSpec.upto clausesSameSpec)

end Rows
end Go.Proofs.YtfmobnlnedljeaaDoor
