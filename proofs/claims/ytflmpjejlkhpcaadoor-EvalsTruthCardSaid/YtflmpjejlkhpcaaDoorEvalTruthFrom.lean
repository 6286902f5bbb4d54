/-
  The walk of layer 7's statement EvalsTruth from its arguments' readings.
-/
import Derived.Test.YtflmpjejlkhpcaaDoorEvalOpen
import Derived.Test.YtflmpjejlkhpcaaDoorEvalTruthWalk
namespace Go.Proofs.YtflmpjejlkhpcaaDoor.Nodes
open Go.ChangeShapes Go.WideShapes Go.ChangeAt Go.RowKit Go.Deep

set_option maxRecDepth 100000 in
theorem etruth_from {H : Type} {enc : TypeId × Value → H} {w : World} {r : Reach} {base base2 : Nat} {sp : Nat → Bool} {held : Bool} {v0 v1 : Value} {d0 d1 : DataW H} {p0 p1 : List MemPlace} (hf : KindFix w) (hw0 : Value.okWide Tryd.prog w r base 32 v0) (h0 : DataW.Trod enc Tryd.prog w base2 sp held 32 v0 d0 p0) (hw1 : Value.okWide Tryd.prog w r base 26 v1) (h1 : DataW.Trod enc Tryd.prog w base2 sp held 26 v1 d1 p1) :
    Calls Tryd.prog 6 #[v0, v1] w fun e w' => e = .returned (.bool true) ∧ Below w.heap.size w w' := by
  obtain ⟨l0, hR0, hn0, _⟩ := open_wide hw0 h0
  obtain ⟨a, rfl, _⟩ := open_record hw1 h1
  exact truth_walk a v0 l0 w hf hR0 hn0
end Go.Proofs.YtflmpjejlkhpcaaDoor.Nodes
