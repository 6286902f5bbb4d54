/-
  The walks of layer 6's statements KindsOne and KindsFirst from their arguments' readings.
-/
import Derived.Test.YtgmfelikmjclbaaDoorNodeOpen
import Derived.Test.YtgmfelikmjclbaaDoorKindFirstWalk
namespace Go.Proofs.YtgmfelikmjclbaaDoor.Nodes
open Go.ChangeShapes Go.WideShapes Go.ChangeAt Go.RowKit Go.Deep

set_option maxRecDepth 100000 in
theorem one_from {H : Type} {enc : TypeId × Value → H} {w : World} {r : Reach} {base base2 : Nat} {sp : Nat → Bool} {held : Bool} {v0 : Value} {d0 : DataW H} {p0 : List MemPlace} (hf : KindFix w) (at_ : Int) (hat : at_ ≤ 9223372036854775807) (hw0 : Value.okWide Tryd.prog w r base 22 v0) (h0 : DataW.Trod enc Tryd.prog w base2 sp held 22 v0 d0 p0) :
    Calls Tryd.prog 5 #[v0, .int .i64 at_] w fun e w' => e = .returned (.bool true) ∧ Below w.heap.size w w' := by
  obtain ⟨l0, hR0, hn0⟩ := open_nds hw0 h0
  exact one_walk v0 l0 at_ w hf hR0 hn0 hat
set_option maxRecDepth 100000 in
theorem first_from {H : Type} {enc : TypeId × Value → H} {w : World} {r : Reach} {base base2 : Nat} {sp : Nat → Bool} {held : Bool} {v0 : Value} {d0 : DataW H} {p0 : List MemPlace} (hf : KindFix w) (hw0 : Value.okWide Tryd.prog w r base 22 v0) (h0 : DataW.Trod enc Tryd.prog w base2 sp held 22 v0 d0 p0) :
    Calls Tryd.prog 6 #[v0] w fun e w' => e = .returned (.bool true) ∧ Below w.heap.size w w' := by
  obtain ⟨l0, hR0, hn0⟩ := open_nds hw0 h0
  exact first_walk v0 l0 w hf hR0 hn0
end Go.Proofs.YtgmfelikmjclbaaDoor.Nodes
