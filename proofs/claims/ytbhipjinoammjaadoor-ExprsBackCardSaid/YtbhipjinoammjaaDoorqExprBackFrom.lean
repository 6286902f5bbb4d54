/-
  The walk of layer 5's statement ExprsBack from its argument's reading.
-/
import Derived.Test.YtbhipjinoammjaaDoorqExprBackWalk
import Derived.Test.YtbhipjinoammjaaDoorNodeOpen
namespace Go.Proofs.YtbhipjinoammjaaDoor.ExprW
open Nodes Exprs
open Go.ChangeShapes Go.WideShapes Go.ChangeAt Go.RowKit

set_option maxRecDepth 100000 in
theorem back_from {H : Type} {enc : TypeId × Value → H} {w : World} {r : Reach} {base base2 : Nat} {sp : Nat → Bool} {held : Bool} {v0 : Value} {d0 : DataW H} {p0 : List MemPlace} (hw0 : Value.okWide Tryd.prog w r base 29 v0) (h0 : DataW.Trod enc Tryd.prog w base2 sp held 29 v0 d0 p0) (hf : ExprFix w) :
    Calls Tryd.prog 4 #[v0] w fun e w' => e = .returned (.bool true) ∧ Below w.heap.size w w' := by
  obtain ⟨l0, hR0, hn0, hw⟩ := open_wide hw0 h0
  exact back_walk v0 l0 w hR0 hw hf
end Go.Proofs.YtbhipjinoammjaaDoor.ExprW
