/-
  The walk of layer 5's statement ExprsCounts from its arguments' readings.
-/
import Derived.Test.YtbhipjinoammjaaDoorqExprCountsWalk
import Derived.Test.YtbhipjinoammjaaDoorTokOpen
namespace Go.Proofs.YtbhipjinoammjaaDoor.ExprW
open Nodes Exprs
open Go.ChangeShapes Go.WideShapes Go.ChangeAt Go.RowKit

set_option maxRecDepth 100000 in
theorem counts_from {H : Type} {enc : TypeId × Value → H} {w : World} {r : Reach} {base base2 : Nat} {sp : Nat → Bool} {held : Bool} {v0 : Value} {d0 : DataW H} {p0 : List MemPlace} (at_ : Int) (hw0 : Value.okWide Tryd.prog w r base 25 v0) (h0 : DataW.Trod enc Tryd.prog w base2 sp held 25 v0 d0 p0) (hf : ExprFix w) :
    Calls Tryd.prog 5 #[v0, .int .i64 at_] w fun e w' => e = .returned (.bool true) ∧ Below w.heap.size w w' := by
  obtain ⟨ts, hR, hn⟩ := open_toks hw0 h0
  exact counts_walk v0 ts at_ w hf hR hn
end Go.Proofs.YtbhipjinoammjaaDoor.ExprW
