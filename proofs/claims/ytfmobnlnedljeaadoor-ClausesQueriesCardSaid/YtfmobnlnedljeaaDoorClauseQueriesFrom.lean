/-
  The walk of layer 8's statement ClausesQueries from its arguments' readings.
-/
import Derived.Test.YtfmobnlnedljeaaDoorClauseOpen
import Derived.Test.YtfmobnlnedljeaaDoorClauseQueriesWalk
namespace Go.Proofs.YtfmobnlnedljeaaDoor.Nodes
open Go.ChangeShapes Go.WideShapes Go.ChangeAt Go.RowKit Go.Deep

set_option maxRecDepth 100000 in
theorem queries_from {H : Type} {enc : TypeId × Value → H} {w : World} {r : Reach} {base base2 : Nat} {sp : Nat → Bool} {held : Bool} {v0 : Value} {d0 : DataW H} {p0 : List MemPlace} {v1 : Value} {d1 : DataW H} {p1 : List MemPlace} (hf : NameFix w) (hw0 : Value.okWide Tryd.prog w r base 32 v0) (h0 : DataW.Trod enc Tryd.prog w base2 sp held 32 v0 d0 p0) (hw1 : Value.okWide Tryd.prog w r base 32 v1) (h1 : DataW.Trod enc Tryd.prog w base2 sp held 32 v1 d1 p1)  :
    Calls Tryd.prog 5 #[v0, v1] w fun e w' => e = .returned (.bool true) ∧ Below w.heap.size w w' := by
  obtain ⟨s0, q0, rfl, r0⟩ := open_query8 h0 hw0
  obtain ⟨s1, q1, rfl, r1⟩ := open_query8 h1 hw1
  exact queries_walk s0 s1 q0 q1 w hf r0 r1
end Go.Proofs.YtfmobnlnedljeaaDoor.Nodes
