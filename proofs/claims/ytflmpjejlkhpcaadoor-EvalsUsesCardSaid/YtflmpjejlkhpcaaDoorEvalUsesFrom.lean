/-
  The walk of layer 7's statement EvalsUses from its arguments' readings.
-/
import Derived.Test.YtflmpjejlkhpcaaDoorEvalOpen
import Derived.Test.YtflmpjejlkhpcaaDoorEvalUsesWalk
namespace Go.Proofs.YtflmpjejlkhpcaaDoor.Nodes
open Go.ChangeShapes Go.WideShapes Go.ChangeAt Go.RowKit Go.Deep

set_option maxRecDepth 100000 in
theorem euses_from {H : Type} {enc : TypeId × Value → H} {w : World} {r : Reach} {base base2 : Nat} {sp : Nat → Bool} {held : Bool} {v0 v1 v2 : Value} {d0 d1 d2 : DataW H} {p0 p1 p2 : List MemPlace} (hf : KindFix w) (hw0 : Value.okWide Tryd.prog w r base 32 v0) (h0 : DataW.Trod enc Tryd.prog w base2 sp held 32 v0 d0 p0) (hw1 : Value.okWide Tryd.prog w r base 26 v1) (h1 : DataW.Trod enc Tryd.prog w base2 sp held 26 v1 d1 p1) (hw2 : Value.okWide Tryd.prog w r base 26 v2) (h2 : DataW.Trod enc Tryd.prog w base2 sp held 26 v2 d2 p2) :
    Calls Tryd.prog 7 #[v0, v1, v2] w fun e w' => e = .returned (.bool true) ∧ Below w.heap.size w w' := by
  obtain ⟨l0, hR0, hn0, _⟩ := open_wide hw0 h0
  obtain ⟨a, rfl, _⟩ := open_record hw1 h1
  obtain ⟨b, rfl, _⟩ := open_record hw2 h2
  exact euses_walk a b v0 l0 w hf hR0 hn0
end Go.Proofs.YtflmpjejlkhpcaaDoor.Nodes
