/-
  The walk of layer 6's statement KindsTells from its argument's reading.
-/
import Derived.Test.YtgmfelikmjclbaaDoorNodeOpen
import Derived.Test.YtgmfelikmjclbaaDoorKindTellsWalk
namespace Go.Proofs.YtgmfelikmjclbaaDoor.Nodes
open Go.ChangeShapes Go.WideShapes Go.ChangeAt Go.RowKit Go.Deep

set_option maxRecDepth 100000 in
theorem tells_from {H : Type} {enc : TypeId × Value → H} {w : World} {r : Reach} {base base2 : Nat} {sp : Nat → Bool} {held : Bool} {v0 : Value} {d0 : DataW H} {p0 : List MemPlace} (hf : KindFix w) (hw0 : Value.okWide Tryd.prog w r base 22 v0) (h0 : DataW.Trod enc Tryd.prog w base2 sp held 22 v0 d0 p0) :
    Calls Tryd.prog 4 #[v0] w fun e w' => e = .returned (.bool true) ∧ Below w.heap.size w w' := by
  obtain ⟨l0, hR0, hn0⟩ := open_nds hw0 h0
  exact tells_walk v0 l0 w hf hR0 hn0
end Go.Proofs.YtgmfelikmjclbaaDoor.Nodes
