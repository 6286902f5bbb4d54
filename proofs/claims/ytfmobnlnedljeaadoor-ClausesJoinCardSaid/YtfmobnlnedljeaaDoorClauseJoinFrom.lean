/-
  The walk of layer 8's statement ClausesJoin from its arguments' readings.
-/
import Derived.Test.YtfmobnlnedljeaaDoorClauseOpen
import Derived.Test.YtfmobnlnedljeaaDoorClauseJoinWalk
namespace Go.Proofs.YtfmobnlnedljeaaDoor.Nodes
open Go.ChangeShapes Go.WideShapes Go.ChangeAt Go.RowKit Go.Deep

set_option maxRecDepth 100000 in
theorem join_from8 {H : Type} {enc : TypeId × Value → H} {w : World} {r : Reach} {base base2 : Nat} {sp : Nat → Bool} {held : Bool} {v0 : Value} {d0 : DataW H} {p0 : List MemPlace} (hf : NameFix w) (hw0 : Value.okWide Tryd.prog w r base 32 v0) (h0 : DataW.Trod enc Tryd.prog w base2 sp held 32 v0 d0 p0)  :
    Calls Tryd.prog 7 #[v0] w fun e w' => e = .returned (.bool true) ∧ Below w.heap.size w w' := by
  obtain ⟨s0, q0, rfl, r0⟩ := open_query8 h0 hw0
  exact join_walk s0 q0 w hf r0
end Go.Proofs.YtfmobnlnedljeaaDoor.Nodes
