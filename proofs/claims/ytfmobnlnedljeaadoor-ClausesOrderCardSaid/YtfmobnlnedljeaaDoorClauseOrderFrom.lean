/-
  The walk of layer 8's statement ClausesOrder from its arguments' readings.
-/
import Derived.Test.YtfmobnlnedljeaaDoorClauseOpen
import Derived.Test.YtfmobnlnedljeaaDoorClauseOrderWalk
namespace Go.Proofs.YtfmobnlnedljeaaDoor.Nodes
open Go.ChangeShapes Go.WideShapes Go.ChangeAt Go.RowKit Go.Deep

set_option maxRecDepth 100000 in
theorem order_from8 {H : Type} {enc : TypeId × Value → H} {w : World} {r : Reach} {base base2 : Nat} {sp : Nat → Bool} {held : Bool} {v0 : Value} {d0 : DataW H} {p0 : List MemPlace} (hf : NameFix w) (hw0 : Value.okWide Tryd.prog w r base 29 v0) (h0 : DataW.Trod enc Tryd.prog w base2 sp held 29 v0 d0 p0) (join : Bool) (at_ : Int) (hat : at_ ≤ 9223372036854775807) :
    Calls Tryd.prog 8 #[v0, .bool join, .int .i64 at_] w fun e w' => e = .returned (.bool true) ∧ Below w.heap.size w w' := by
  obtain ⟨l0, r0, n0⟩ := open_ints8 h0 hw0
  exact order_walk v0 l0 join at_ w hf r0 n0 hat
end Go.Proofs.YtfmobnlnedljeaaDoor.Nodes
